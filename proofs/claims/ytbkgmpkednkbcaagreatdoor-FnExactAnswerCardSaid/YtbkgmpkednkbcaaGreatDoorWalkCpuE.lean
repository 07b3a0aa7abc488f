/-
  laws.eqIntA16 and laws.eqCpu of what is the same answer true; conditions: none but those in each head.
-/
import Derived.Test.YtbkgmpkednkbcaaGreatDoorWalkCpuT
import Derived.Deep.QuietTactic
import Derived.BigQuiet
import Derived.Deep.Cut
namespace Go.Proofs.YtbkgmpkednkbcaaGreatDoor
open Go.RowKit
set_option linter.unusedVariables false
theorem two_new (w : World) (cs ds : Array Value) (t : TypeId) : ((w.alloc (.cells cs t)).alloc (.cells ds t)).heap[w.heap.size]? = some (.cells cs t (0, 0)) ∧ ((w.alloc (.cells cs t)).alloc (.cells ds t)).heap[w.heap.size + 1]? = some (.cells ds t (0, 0)) ∧ Below w.heap.size w ((w.alloc (.cells cs t)).alloc (.cells ds t)) := by
  have e1 := heap_alloc_new w (.cells cs t)
  have e2 := heap_alloc_new (w.alloc (.cells cs t)) (.cells ds t)
  have z2 : (w.alloc (.cells cs t)).heap.size = w.heap.size + 1 := by simp
  rw [z2] at e2
  exact ⟨(Below.heap_alloc _ _ _ (by simp)).trans e1, e2, ((Below.refl _ _).alloc (Nat.le_refl _) _).alloc (by simp) _⟩
theorem lt_of_cellE {w : World} {b o : Nat} {v : Value} (h : w.cell? ⟨b, o, none⟩ = some v) : b < w.heap.size := by
  rcases Nat.lt_or_ge b w.heap.size with h' | h'
  · exact h'
  · simp [World.cell?, Array.getElem?_eq_none h'] at h
set_option maxRecDepth 100000 in
set_option maxHeartbeats 2000000 in
theorem eqA16 (f : Nat → Int) (w : World) :
    Calls Tryz.prog 42 #[.agg (regA f), .agg (regA f)] w fun e w' => e = .returned (.bool true) ∧ Below w.heap.size w w' := by
  obtain ⟨n1, n2, n3⟩ := two_new w (regA f) (regA f) 22
  go_enter Tryz.func42, Tryz.ntmps42
  go_wp2_with fail
  go_loopw [5] (fun i wr => ∃ (k : Nat), k ≤ 16 ∧ i = .int .i64 k ∧ wr.heap[w.heap.size]? = some (.cells (regA f) 22 (0, 0)) ∧ wr.heap[w.heap.size + 1]? = some (.cells (regA f) 22 (0, 0)) ∧ Below w.heap.size w wr) (fun i _ => 16 - (intOf i).toNat)
  case atStart => exact ⟨0, by omega, rfl, n1, n2, n3⟩
  case round =>
    obtain ⟨k, hk, rfl, h1, h2, hb⟩ := hrel
    by_cases hlt : k < 16
    · have c1 := (cell_of_row _ _ k _ _ _ h1).trans (regA_at f k hlt)
      have c2 := (cell_of_row _ _ k _ _ _ h2).trans (regA_at f k hlt)
      have hi0 : (0 : Int) ≤ (k : Int) := by omega
      have hi1 : (k : Int) < 16 := by omega
      have hk' : ((k : Int)).toNat = k := by omega
      have H1 := Lib.hid h1; have H2 := Lib.hid h2; have HB := Lib.hid hb
      clear h1 h2 hb n1 n2 n3
      go_wp2_with fail
      go_quiet (fail)
      go_wp2
      go_roundw
      case rel => exact ⟨k + 1, by omega, by go_num, by simpa using H1.out, by simpa using H2.out, HB.out.trans ⟨rfl, rfl, rfl, Nat.le_refl _, fun _ _ => rfl⟩⟩
      case measure => simp [intOf]; omega
    · obtain rfl : k = 16 := by omega
      go_wp2
      go_ret
      exact ⟨rfl, hb⟩
theorem range_of {W : World} {b : Nat} {c : Cp} {t : TypeId} (h : W.heap[b]? = some (.cells (cpV c) t (0, 0))) : W.rangeAt b 0 (regA c.rs).toList := World.rangeAt_of_block h 0 16
set_option maxRecDepth 100000 in
set_option maxHeartbeats 2000000 in
theorem eqCpuC (c : Cp) (w : World) :
    Calls Tryz.prog 22 #[.agg (cpV c), .agg (cpV c)] w fun e w' => e = .returned (.bool true) ∧ Below w.heap.size w w' := by
  obtain ⟨n1, n2, n3⟩ := two_new w (cpV c) (cpV c) 31
  have CA := Lib.hid (eqA16 c.rs)
  have R1 := Lib.hid (range_of n1); have R2 := Lib.hid (range_of n2)
  have a16 := (cell_of_row _ _ 16 _ _ _ n1).trans (show (cpV c)[16]? = some (.int .i64 c.ip) from rfl)
  have a17 := (cell_of_row _ _ 17 _ _ _ n1).trans (show (cpV c)[17]? = some (.int .i64 c.fl) from rfl)
  have b16 := (cell_of_row _ _ 16 _ _ _ n2).trans (show (cpV c)[16]? = some (.int .i64 c.ip) from rfl)
  have b17 := (cell_of_row _ _ 17 _ _ _ n2).trans (show (cpV c)[17]? = some (.int .i64 c.fl) from rfl)
  have A16 := Lib.hid a16; have A17 := Lib.hid a17; have B16 := Lib.hid b16; have B17 := Lib.hid b17; have N3 := Lib.hid n3
  generalize cpV c = V at *
  clear n1 n2 n3 a16 a17 b16 b17
  go_enter Tryz.func22, Tryz.ntmps22
  go_wp2_with (first | (refine wpList_load_mid rfl 22 (.tmp 5) rfl w.heap.size 0 rfl (regA c.rs).toList _ R1.out Tryz.underlying22 rfl (by kernel_rfl) ?_) | (refine wpList_load_mid rfl 22 (.tmp 7) rfl (w.heap.size + 1) 0 rfl (regA c.rs).toList _ R2.out Tryz.underlying22 rfl (by kernel_rfl) ?_))
  refine (CA.out _).mono ?_
  rintro e w1 ⟨rfl, hb⟩
  have a16 := (hb.cell (p := ⟨w.heap.size, 16, none⟩) (lt_of_cellE A16.out)).trans A16.out
  have a17 := (hb.cell (p := ⟨w.heap.size, 17, none⟩) (lt_of_cellE A17.out)).trans A17.out
  have b16 := (hb.cell (p := ⟨w.heap.size + 1, 16, none⟩) (lt_of_cellE B16.out)).trans B16.out
  have b17 := (hb.cell (p := ⟨w.heap.size + 1, 17, none⟩) (lt_of_cellE B17.out)).trans B17.out
  have D := Lib.hid (N3.out.trans (hb.mono N3.out.size))
  clear hb
  go_wp2
  go_ret
  exact ⟨rfl, D.out⟩
end Go.Proofs.YtbkgmpkednkbcaaGreatDoor
