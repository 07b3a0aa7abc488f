/-
  Contracts of slices.Clone, slices.Equal and sort.Search at this program: what the library's theorems on them ask of the program's bodies, compared by the kernel; no condition.
-/
import Derived.Shelf.SlSorted.Search
import Derived.Shelf.SlicesE.Clone
import Derived.Shelf.SlicesQ.Equal
import Derived.Test.YtcchcinnjahghaaProg
namespace Go.Proofs
open Go.Shelf
def Try.layClone_ren : Go.Shelf.Ren := ⟨fun | 41 => 29 | n => n, fun | 22 => 30 | 23 => 54 | 4 => 4 | n => n, fun | n => n⟩
theorem Try.layClone : Go.Proofs.SlLaysE0.n41 Try.prog Try.layClone_ren := {
  mixed := by kernel_rfl
  f41 := ⟨Try.f29.name, by decide, Try.func29.trans (congrArg some (by kernel_rfl))⟩
  t4 := Try.underlying4
  a4 := Try.isAgg4
  z4 := Try.sizeOf4
  v4 := Try.zeroValue4
  t22 := Try.underlying30
  a22 := Try.isAgg30
  z22 := Try.sizeOf30
  v22 := Try.zeroValue30 }
def Try.laySearch_ren : Go.Shelf.Ren := ⟨fun | 16 => 37 | n => n, fun | 3 => 3 | 35 => 23 | 4 => 4 | 38 => 69 | n => n, fun | n => n⟩
theorem Try.laySearch : Go.Proofs.SlLaysO.n16 Try.prog Try.laySearch_ren := {
  mixed := by kernel_rfl
  f16 := Try.func37.trans (congrArg some (by kernel_rfl))
  t3 := Try.underlying3
  a3 := Try.isAgg3
  z3 := Try.sizeOf3
  v3 := Try.zeroValue3
  t4 := Try.underlying4
  a4 := Try.isAgg4
  z4 := Try.sizeOf4
  v4 := Try.zeroValue4
  t35 := Try.underlying23
  a35 := Try.isAgg23
  z35 := Try.sizeOf23
  v35 := Try.zeroValue23
  t38 := Try.underlying69
  a38 := Try.isAgg69
  z38 := Try.sizeOf69
  v38 := Try.zeroValue69 }
end Go.Proofs
