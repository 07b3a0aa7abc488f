/-
  What impl.firstShape, impl.secondShape and impl.ShapeOf do: the shape of a byte, changing nothing that was there; condition: the program's table of the first shapes holds what its text lays there.
-/
import Derived.Test.YtjnjlgaemmdkhaaGreatDoorWalkShape
namespace Go.Proofs.YtjnjlgaemmdkhaaGreatDoor
open Go.RowKit
/-- block g holds the first shapes -/
def Ari (W : World) (g : Nat) : Prop := ∃ cs t fr, W.heap[g]? = some (.cells cs t fr) ∧ ∀ i, i < 6 → ∀ j, j < 5 → cs[i * 5 + j]? = (shpL (arithAt i))[j]?
theorem Ari.lt {W : World} {g : Nat} (h : Ari W g) : g < W.heap.size := by
  obtain ⟨cs, t, fr, h, _⟩ := h
  exact lt_of_blockR h
theorem Ari.below {W W' : World} {g : Nat} (h : Ari W g) (hb : Below W.heap.size W W') : Ari W' g := by
  have hl := h.lt
  obtain ⟨cs, t, fr, h, h2⟩ := h
  exact ⟨cs, t, fr, (hb.block _ hl).trans h, h2⟩
theorem Ari.cell {W : World} {g : Nat} (h : Ari W g) (i j : Nat) (hi : i < 6) (hj : j < 5) : W.cell? ⟨g, i * 5 + j, none⟩ = (shpL (arithAt i))[j]? := by
  obtain ⟨cs, t, fr, h, h2⟩ := h
  rw [cell_of_row W g _ _ t fr h]; exact h2 i hi j hj
end Go.Proofs.YtjnjlgaemmdkhaaGreatDoor
