/-
  The table of the first shapes out of what a row lists, and the comparison of two shapes that are alike; no condition but those in each head.
-/
import Derived.Test.YtjnjlgaemmdkhaaGreatDoorWalkShape4
namespace Go.Proofs.YtjnjlgaemmdkhaaGreatDoor
open Go.RowKit
theorem arith_at : ∀ i, i < 6 → arithL[i]? = some (arithAt i)
  | 0, _ => rfl | 1, _ => rfl | 2, _ => rfl | 3, _ => rfl | 4, _ => rfl | 5, _ => rfl
  | n + 6, h => by omega
def shpData {H : Type} (s : Shp) : DataW H := .agg [.lit (.int .i64 s.o), .lit (.int .i64 s.f), .lit (.int .i64 s.g), .lit (.bool s.y), .lit (.int .i64 s.r)]
theorem box5 (w : World) (v : Array Value) (t : TypeId) (i : Nat) : (w.alloc (.cells v t)).cell? ⟨w.heap.size, i, none⟩ = v[i]? := cell_of_row _ _ i _ _ (0, 0) (heap_alloc_new w _)
/-- two calls, with a variable made between them and behind them -/
theorem two_boxes {w w1 w2 : World} {o o2 : Obj} (h1 : Below w.heap.size w w1) (h2 : Below (w1.alloc o).heap.size (w1.alloc o) w2) : Below w.heap.size w (w2.alloc o2) := by
  have hs := h1.size
  have h3 := h1.alloc hs o
  have h4 := h3.trans (h2.mono h3.size)
  exact h4.alloc h4.size o2
/-- what the variable made between them holds behind them -/
theorem box_kept {w1 w2 : World} {v : Array Value} {t : TypeId} {o2 : Obj} (h2 : Below (w1.alloc (.cells v t)).heap.size (w1.alloc (.cells v t)) w2) (i : Nat) : (w2.alloc o2).cell? ⟨w1.heap.size, i, none⟩ = v[i]? := by
  have hs := h2.size
  simp only [World.size_alloc] at hs
  rw [World.cell?_alloc_lt _ _ _ (by show w1.heap.size < _; omega), h2.cell (p := ⟨w1.heap.size, i, none⟩) (by simp)]
  exact box5 w1 v t i
end Go.Proofs.YtjnjlgaemmdkhaaGreatDoor
