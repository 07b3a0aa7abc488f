/-
  What impl.shapeIn, impl.firstShape, impl.secondShape, impl.ShapeOf, spec.l03First, spec.l03Second and spec.ShapeOf do: the shape of a byte, changing nothing that was there; condition: the program's table of the first shapes holds what its text lays there.
-/
import Derived.Test.YtjnjlgaemmdkhaaGreatDoorWalkRows
import Derived.Test.YtjnjlgaemmdkhaaGreatDoorWalkTab
namespace Go.Proofs.YtjnjlgaemmdkhaaGreatDoor
open Go.RowKit
/-- block g holds the rows l -/
def Rws (W : World) (g : Nat) (l : List (Int × Int × Shp)) : Prop := ∃ t fr, W.heap[g]? = some (.cells (rowsV l) t fr)
theorem Rws.lt {W : World} {g : Nat} {l : List (Int × Int × Shp)} (h : Rws W g l) : g < W.heap.size := by
  obtain ⟨t, fr, h⟩ := h
  rcases Nat.lt_or_ge g W.heap.size with h' | h'
  · exact h'
  · rw [Array.getElem?_eq_none h'] at h; cases h
theorem Rws.below {W W' : World} {g : Nat} {l : List (Int × Int × Shp)} (h : Rws W g l) (hb : Below W.heap.size W W') : Rws W' g l := by
  have hl := h.lt
  obtain ⟨t, fr, h⟩ := h
  exact ⟨t, fr, (hb.block _ hl).trans h⟩
theorem Rws.cell {W : World} {g : Nat} {l : List (Int × Int × Shp)} (h : Rws W g l) {k : Nat} {x : Int × Int × Shp} (hx : l[k]? = some x) (i : Nat) (hi : i < 7) : W.cell? ⟨g, k * 7 + i, none⟩ = (rowL x)[i]? := by
  obtain ⟨t, fr, h⟩ := h
  rw [cell_of_row W g _ _ t fr h]; exact rowsV_at hx i hi
/-- the result's block, nothing in it yet -/
theorem lt_of_blockR {W : World} {g : Nat} {o : Obj} (h : W.heap[g]? = some o) : g < W.heap.size := (Array.getElem?_eq_some_iff.1 h).1
theorem shp_one (s : Shp) : (shpL s).toArray.all (·.oneCell') = true := by kernel_rfl
theorem below_setRow {w W : World} {cs : Array Value} (h : Below w.heap.size w W) : Below w.heap.size w (W.setRow w.heap.size cs) :=
  ⟨h.os, h.tape, h.output, by rw [setRow_size]; exact h.size, fun i hi => by rw [setRow_other _ _ _ _ (by omega)]; exact h.block i hi⟩
theorem below_set {w W : World} (h : Below w.heap.size w W) {g o : Nat} (hg : w.heap.size ≤ g) (v : Value) : Below w.heap.size w (W.setCell ⟨g, o, none⟩ v) := h.setCell hg v
end Go.Proofs.YtjnjlgaemmdkhaaGreatDoor
