/-
  What laws.eqMemory and its helpers do on two lists of pages that are alike: they answer true, changing nothing that was there; conditions: those in each head.
-/
import Derived.Test.YtlijjbdhoooamaaDoorWalkSz
import Derived.Shelf.SlSortCmp.QuietGrown
namespace Go.Proofs.YtlijjbdhoooamaaDoor
open Go.RowKit Go.Sort
theorem mixed : Tryd.prog.follows .mixedOrders = true := by kernel_rfl
theorem below_grow {w : World} (q : Nat) (os : Array Obj) : Below w.heap.size w (grow (w.drewN q) os) :=
  ⟨rfl, rfl, rfl, by first | (simp [grow]; done) | (simp [grow]; omega), fun i hi => by
    show ((w.drewN q).heap ++ os)[i]? = _
    rw [Array.getElem?_append_left (by show i < w.heap.size; omega)]
    rfl⟩
theorem grow2 (w : World) (a b : Obj) : (w.alloc a).alloc b = grow (w.drewN 0) #[a, b] := by
  show _ = grow w #[a, b]
  rw [alloc_eq_grow, alloc_eq_grow, grow_grow]
  rfl
end Go.Proofs.YtlijjbdhoooamaaDoor
