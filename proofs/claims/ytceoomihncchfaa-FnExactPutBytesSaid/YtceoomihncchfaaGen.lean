/-
  Contracts of slices.Clone, slices.Equal and sort.Search at this program: what the library's theorems on them ask of the program's bodies, compared by the kernel; no condition.
-/
import Derived.Shelf.SlSorted.Search
import Derived.Shelf.SlicesE.Clone
import Derived.Shelf.SlicesQ.Equal
import Derived.Test.YtceoomihncchfaaProg
namespace Go.Proofs
open Go.Shelf
def Try.layClone_ren : Go.Shelf.Ren := ⟨fun | 41 => 63 | n => n, fun | 22 => 27 | 23 => 48 | 4 => 4 | n => n, fun | n => n⟩
theorem Try.layClone : Go.Proofs.SlLaysE0.n41 Try.prog Try.layClone_ren := {
  mixed := by kernel_rfl
  f41 := ⟨Try.f63.name, by decide, Try.func63.trans (congrArg some (by kernel_rfl))⟩
  t4 := Try.underlying4
  a4 := Try.isAgg4
  z4 := Try.sizeOf4
  v4 := Try.zeroValue4
  t22 := Try.underlying27
  a22 := Try.isAgg27
  z22 := Try.sizeOf27
  v22 := Try.zeroValue27 }
def Try.laySearch_ren : Go.Shelf.Ren := ⟨fun | 16 => 80 | n => n, fun | 3 => 3 | 35 => 49 | 4 => 4 | 38 => 87 | n => n, fun | n => n⟩
theorem Try.laySearch : Go.Proofs.SlLaysO.n16 Try.prog Try.laySearch_ren := {
  mixed := by kernel_rfl
  f16 := Try.func80.trans (congrArg some (by kernel_rfl))
  t3 := Try.underlying3
  a3 := Try.isAgg3
  z3 := Try.sizeOf3
  v3 := Try.zeroValue3
  t4 := Try.underlying4
  a4 := Try.isAgg4
  z4 := Try.sizeOf4
  v4 := Try.zeroValue4
  t35 := Try.underlying49
  a35 := Try.isAgg49
  z35 := Try.sizeOf49
  v35 := Try.zeroValue49
  t38 := Try.underlying87
  a38 := Try.isAgg87
  z38 := Try.sizeOf87
  v38 := Try.zeroValue87 }
def Try.layEqual_ren : Go.Shelf.Ren := ⟨fun | 8 => 60 | n => n, fun | 22 => 27 | 24 => 48 | 4 => 4 | 3 => 3 | 0 => 0 | n => n, fun | n => n⟩
theorem Try.layEqual : Go.Proofs.SlLaysQ.n8 Try.prog Try.layEqual_ren := {
  mixed := by kernel_rfl
  f8 := ⟨Try.f60.name, by decide, Try.func60.trans (congrArg some (by kernel_rfl))⟩
  t0 := Try.underlying0
  a0 := Try.isAgg0
  z0 := Try.sizeOf0
  v0 := Try.zeroValue0
  t3 := Try.underlying3
  a3 := Try.isAgg3
  z3 := Try.sizeOf3
  v3 := Try.zeroValue3
  t4 := Try.underlying4
  a4 := Try.isAgg4
  z4 := Try.sizeOf4
  v4 := Try.zeroValue4
  t22 := Try.underlying27
  a22 := Try.isAgg27
  z22 := Try.sizeOf27
  v22 := Try.zeroValue27 }
end Go.Proofs
