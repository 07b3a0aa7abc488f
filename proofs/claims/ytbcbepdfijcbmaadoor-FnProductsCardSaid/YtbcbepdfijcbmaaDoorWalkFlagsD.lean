/-
  What drawing flags does: a sum of flags, all memory that was there kept; conditions: the bytes can be read, and few draws have been made.
-/
import Derived.Test.YtbcbepdfijcbmaaDoorWalkHolds
import Derived.Test.YtbcbepdfijcbmaaDoorSrc3
import Derived.Laws.NewBlocks
namespace Go.Proofs.YtbcbepdfijcbmaaDoor
open Go.RowKit
set_option maxHeartbeats 400000 in
theorem src_chance (n : Int) (g len cap N B : Nat) (A : Option Addr) (w : World) (h : Src w g (.slice A len cap) N) (hN : N ≤ 1000000) (hr : Rdb w B A len) (hB : B ≤ g) (n0 : 1 < n) (n1 : n ≤ 256) :
    Calls Tryd.prog 71 #[.pointer (some ⟨g, 0, none⟩), .int .i64 n] w fun e w' => ∃ b : Bool, e = .returned (.bool b) ∧ Src w' g (.slice A len cap) (N + 1) ∧ w.grownBy w' (some g) := by
  go_enter Tryd.func71, Tryd.ntmps71
  go_wp2_with fail
  refine (src_next n g len cap N B A _ h hN hr hB n0 n1).mono ?_
  rintro e w1 ⟨r, r0, r1, rfl, hs1, hg1⟩
  go_wp2
  go_ret
  exact ⟨_, rfl, hs1, hg1⟩
theorem fl_or {f m : Int} (h : FlOK f) (hm : m = 1 ∨ m = 4 ∨ m = 64 ∨ m = 128 ∨ m = 2048) : FlOK (bits .or .i64 f m) := by
  obtain ⟨c, p, z, s, o, rfl⟩ := h
  rcases hm with rfl | rfl | rfl | rfl | rfl
  · exact ⟨true, p, z, s, o, by revert c p z s o; decide +kernel⟩
  · exact ⟨c, true, z, s, o, by revert c p z s o; decide +kernel⟩
  · exact ⟨c, p, true, s, o, by revert c p z s o; decide +kernel⟩
  · exact ⟨c, p, z, true, o, by revert c p z s o; decide +kernel⟩
  · exact ⟨c, p, z, s, true, by revert c p z s o; decide +kernel⟩
set_option maxHeartbeats 1000000 in
theorem src_flags (g len cap N B : Nat) (A : Option Addr) (w : World) (h : Src w g (.slice A len cap) N) (hN : N ≤ 400000) (hr : Rdb w B A len) (hB : B ≤ g) :
    Calls Tryd.prog 57 #[.pointer (some ⟨g, 0, none⟩)] w fun e w' => ∃ f : Int, FlOK f ∧ e = .returned (.int .i64 f) ∧ Below g w w' := by
  have hlt := h.lt
  go_enter Tryd.func57, Tryd.ntmps57
  have HC : ∀ k : Nat, k < 5 → ∃ m : Int, (m = 1 ∨ m = 4 ∨ m = 64 ∨ m = 128 ∨ m = 2048) ∧ (#[.int .i64 1, .int .i64 4, .int .i64 64, .int .i64 128, .int .i64 2048] : Array Value)[k]? = some (.int .i64 m) := by
    intro k hk
    rcases (by omega : k = 0 ∨ k = 1 ∨ k = 2 ∨ k = 3 ∨ k = 4) with rfl | rfl | rfl | rfl | rfl
    · exact ⟨1, by simp, rfl⟩
    · exact ⟨4, by simp, rfl⟩
    · exact ⟨64, by simp, rfl⟩
    · exact ⟨128, by simp, rfl⟩
    · exact ⟨2048, by simp, rfl⟩
  have HC := Lib.hid HC
  go_wp2_with fail
  go_loopw [3, 8] (fun v i wr => ∃ (k : Nat) (f : Int), k ≤ 5 ∧ i = .int .i64 k ∧ v = .int .i64 f ∧ FlOK f ∧ Src wr g (.slice A len cap) (N + k) ∧ Rdb wr B A len ∧ Below g w wr ∧ wr.heap[w.heap.size]? = some (.cells #[.int .i64 1, .int .i64 4, .int .i64 64, .int .i64 128, .int .i64 2048] 3 (0, 0))) (fun _ i _ => 5 - (intOf i).toNat)
  case atStart =>
    exact ⟨0, 0, Nat.zero_le _, rfl, rfl, ⟨false, false, false, false, false, rfl⟩, h.alloc _, hr.alloc (by omega) _, (Below.refl _ _).alloc (by omega) _, heap_alloc_new w _⟩
  case round =>
    obtain ⟨k, f, hk, rfl, rfl, hf, hsr, hrr, hbr, hrow⟩ := hrel
    by_cases hlt2 : k < 5
    · obtain ⟨m, hm, hmv⟩ := HC.out k hlt2
      have hcell : wr.cell? ⟨w.heap.size, k, none⟩ = some (.int .i64 m) := (cell_of_row wr _ k _ _ _ hrow).trans hmv
      have HM := Lib.hid hm; have HV := Lib.hid hmv; have HR := Lib.hid hrow; have HF := Lib.hid hf
      clear hm hmv hrow hf
      go_wp2_with fail
      refine (src_chance 2 g len cap (N + k) B A _ hsr (by omega) hrr hB (by omega) (by omega)).mono ?_
      rintro e w1 ⟨b, rfl, hs1, hg1⟩
      have hr1 := hrr.grown hg1 hB (by have := hsr.lt; omega)
      have hb1 : Below g w w1 := hbr.grown hg1 (by have := hbr.size; omega) (fun q hq => by cases hq; exact Nat.le_refl _)
      have hrow1 : w1.heap[w.heap.size]? = some (.cells #[.int .i64 1, .int .i64 4, .int .i64 64, .int .i64 128, .int .i64 2048] 3 (0, 0)) := (hg1.block w.heap.size (by have h1 := HR.out; rcases Nat.lt_or_ge w.heap.size wr.heap.size with h | h; exact h; simp [Array.getElem?_eq_none h] at h1) (fun e => by cases e; omega)).trans HR.out
      have HR1 := Lib.hid hrow1; have HB1 := Lib.hid hb1; have HS1 := Lib.hid hs1; have HD1 := Lib.hid hr1
      clear hrow1 hb1 hs1 hr1 hg1 hsr hrr hbr hcell
      cases b
      · go_wp2
        go_roundw
        case rel => exact ⟨k + 1, f, by omega, by go_num, rfl, HF.out, HS1.out, HD1.out, HB1.out, HR1.out⟩
        case measure => simp [intOf]; omega
      · go_wp2
        go_roundw
        case rel => exact ⟨k + 1, bits .or .i64 f m, by omega, by go_num, rfl, fl_or HF.out HM.out, HS1.out, HD1.out, HB1.out, HR1.out⟩
        case measure => simp [intOf]; omega
    · have HF := Lib.hid hf
      clear hf
      go_wp2
      go_ret
      exact ⟨f, HF.out, rfl, hbr⟩
set_option maxHeartbeats 400000 in
theorem flagsDrawn (len cap : Nat) (A : Option Addr) (w : World) (hl : len ≤ 140737488355328) (hr : Rdb w w.heap.size A len) :
    Calls Tryd.prog 25 #[.slice A len cap] w fun e w' => ∃ f : Int, FlOK f ∧ e = .returned (.int .i64 f) ∧ Below w.heap.size w w' := by
  go_enter Tryd.func25, Tryd.ntmps25
  go_wp2_with fail
  refine (src_new len cap A _ hl).mono ?_
  rintro e w1 ⟨rfl, hs1, hb1⟩
  go_wp2_with fail
  refine (src_flags w.heap.size len cap 0 w.heap.size A _ hs1 (by omega) (hr.below hb1) (Nat.le_refl _)).mono ?_
  rintro e w2 ⟨f, hf, rfl, hb2⟩
  have HF := Lib.hid hf; clear hf
  go_wp2
  go_ret
  exact ⟨f, HF.out, rfl, hb1.trans hb2⟩
end Go.Proofs.YtbcbepdfijcbmaaDoor
