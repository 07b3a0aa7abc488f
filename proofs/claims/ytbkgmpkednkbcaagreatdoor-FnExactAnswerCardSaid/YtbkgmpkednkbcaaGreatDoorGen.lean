/-
  Contracts of slices.Clone, slices.Equal and sort.Search at this program: what the library's theorems on them ask of the program's bodies, compared by the kernel; no condition.
-/
import Derived.Shelf.SlSorted.Search
import Derived.Shelf.SlicesE.Clone
import Derived.Shelf.SlicesQ.Equal
import Derived.Test.YtbkgmpkednkbcaaGreatDoorProg
namespace Go.Proofs
open Go.Shelf
def Tryz.layClone_ren : Go.Shelf.Ren := ⟨fun | 41 => 72 | n => n, fun | 22 => 32 | 23 => 86 | 4 => 4 | n => n, fun | n => n⟩
theorem Tryz.layClone : Go.Proofs.SlLaysE0.n41 Tryz.prog Tryz.layClone_ren := {
  mixed := by kernel_rfl
  f41 := ⟨Tryz.f72.name, by decide, Tryz.func72.trans (congrArg some (by kernel_rfl))⟩
  t4 := Tryz.underlying4
  a4 := Tryz.isAgg4
  z4 := Tryz.sizeOf4
  v4 := Tryz.zeroValue4
  t22 := Tryz.underlying32
  a22 := Tryz.isAgg32
  z22 := Tryz.sizeOf32
  v22 := Tryz.zeroValue32 }
def Tryz.laySearch_ren : Go.Shelf.Ren := ⟨fun | 16 => 141 | n => n, fun | 3 => 3 | 35 => 88 | 4 => 4 | 38 => 96 | n => n, fun | n => n⟩
theorem Tryz.laySearch : Go.Proofs.SlLaysO.n16 Tryz.prog Tryz.laySearch_ren := {
  mixed := by kernel_rfl
  f16 := Tryz.func141.trans (congrArg some (by kernel_rfl))
  t3 := Tryz.underlying3
  a3 := Tryz.isAgg3
  z3 := Tryz.sizeOf3
  v3 := Tryz.zeroValue3
  t4 := Tryz.underlying4
  a4 := Tryz.isAgg4
  z4 := Tryz.sizeOf4
  v4 := Tryz.zeroValue4
  t35 := Tryz.underlying88
  a35 := Tryz.isAgg88
  z35 := Tryz.sizeOf88
  v35 := Tryz.zeroValue88
  t38 := Tryz.underlying96
  a38 := Tryz.isAgg96
  z38 := Tryz.sizeOf96
  v38 := Tryz.zeroValue96 }
end Go.Proofs
