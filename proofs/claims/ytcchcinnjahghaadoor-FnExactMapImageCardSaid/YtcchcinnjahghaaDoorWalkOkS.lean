/-
  What spec.MemoryOK does: it tells whether a list of pages is a memory that is right, changing nothing that was there; conditions: those in each head.
-/
import Derived.Test.YtcchcinnjahghaaDoorWalkEq
import Derived.BigQuiet
namespace Go.Proofs.YtcchcinnjahghaaDoor
open Go.RowKit Go.Sort
set_option maxHeartbeats 400000 in
theorem inYes (v lo hi : Int) (w : World) (h1 : lo ≤ v) (h2 : v ≤ hi) : Calls Tryd.prog 50 #[.int .i64 v, .int .i64 lo, .int .i64 hi] w fun e w' => e = .returned (.bool true) ∧ w' = w := by
  go_enter Tryd.func50, Tryd.ntmps50
  go_wp2
  go_ret
  exact ⟨rfl, rfl⟩
set_option maxHeartbeats 400000 in
theorem inNo (v lo hi : Int) (w : World) (h : v < lo ∨ hi < v) : Calls Tryd.prog 50 #[.int .i64 v, .int .i64 lo, .int .i64 hi] w fun e w' => e = .returned (.bool false) ∧ w' = w := by
  by_cases h1 : v < lo
  · clear h
    go_enter Tryd.func50, Tryd.ntmps50
    go_wp2
    go_ret
    exact ⟨rfl, rfl⟩
  · have h2 : decide (v ≤ hi) = false := decide_eq_false (by omega)
    have h3 : lo ≤ v := by omega
    clear h h1
    go_enter Tryd.func50, Tryd.ntmps50
    go_wp2
    go_ret
    exact ⟨rfl, rfl⟩
theorem below_draw {w : World} (n : Nat) {B : Nat} : Below B w (w.drewN n) := ⟨rfl, rfl, rfl, Nat.le_refl _, fun _ _ => rfl⟩
theorem cell_new {w : World} {b i n : Nat} {o : Obj} {v : Value} (h : b < w.heap.size) (hc : w.cell? ⟨b, i, none⟩ = some v) : ((w.alloc o).drewN n).cell? ⟨b, i, none⟩ = some v :=
  (World.cell?_of_block (w := w) (w' := (w.alloc o).drewN n) (Below.heap_alloc _ _ _ h)).trans hc
def BaseOk (b : Int) : Prop := 0 ≤ b ∧ b ≤ 65535 ∧ b % 256 = 0
def PermOk (p : Int) : Prop := 0 ≤ p ∧ p ≤ 7
end Go.Proofs.YtcchcinnjahghaaDoor
