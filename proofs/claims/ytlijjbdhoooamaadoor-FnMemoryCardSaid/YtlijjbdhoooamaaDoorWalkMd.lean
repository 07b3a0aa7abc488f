/-
  What MemoryDrawn and AddressDrawn of spec answer: pages that are right, some address; all memory that was there kept; condition: the bytes can be read.
-/
import Derived.Test.YtlijjbdhoooamaaDoorWalkMm
namespace Go.Proofs.YtlijjbdhoooamaaDoor
open Go.RowKit
set_option linter.unusedVariables false
set_option linter.unusedSimpArgs false
/-- a memory that is right is answered -/
def MemD (w : World) (e : Ending) (w' : World) : Prop := ∃ p c l, e = .returned (.agg #[.slice p l.length c]) ∧ MemOk l ∧ ((∃ b, p = some ⟨b, 0, none⟩) ∧ Drawn8 l) ∧ Rd w' p l ∧ Below w.heap.size w w'
set_option maxHeartbeats 1000000 in
theorem memoryD (len cap : Nat) (A : Option Addr) (w : World) (hl : len ≤ 140737488355328) (hr : Rdb w w.heap.size A len) :
    Calls Tryd.prog 4 #[.slice A len cap] w (MemD w) := by
  have B0 : Below w.heap.size w (w.alloc (.cells #[.slice none 0 0] 25)) := (Below.refl _ _).alloc (Nat.le_refl _) _
  have z0 := heap_alloc_new w (.cells #[.slice none 0 0] 25)
  have CN := Lib.hid (src_new len cap A (w.alloc (.cells #[.slice none 0 0] 25)) hl)
  have hr0 := Lib.hid (hr.below B0)
  have B0 := Lib.hid B0; have Z0 := Lib.hid z0
  have hs0 : (w.alloc (.cells #[.slice none 0 0] 25)).heap.size = w.heap.size + 1 := by simp
  have HS0 := Lib.hid hs0
  clear z0 hr hs0
  go_enter Tryd.func4, Tryd.ntmps4
  go_wp2_with fail
  refine CN.out.mono ?_
  rintro e w1 ⟨rfl, hs, hb⟩
  have B1 := Lib.hid (B0.out.trans (hb.mono B0.out.size))
  have Z1 := Lib.hid ((hb.block _ (lt_blk Z0.out)).trans Z0.out)
  have R1 := Lib.hid (hr0.out.below (hb.mono (by rw [HS0.out]; omega)))
  have hg : w.heap.size + 1 < w1.heap.size := by have := hs.lt; rw [HS0.out] at this; exact this
  rw [HS0.out] at hs
  have CM := Lib.hid (src_memory (w.heap.size + 1) len cap 0 w.heap.size A w1 hs (by omega) R1.out (by omega))
  clear hs hb
  go_wp2_with fail
  refine CM.out.mono ?_
  rintro e w2 ⟨p, c, l, rfl, hm, hpf, hrd, _, hg2⟩
  have HPF := Lib.hid hpf
  clear hpf
  have B2 := Lib.hid (B1.out.grown hg2 B1.out.size (fun k hk => by cases hk; omega))
  have Z2 := Lib.hid ((hg2.block _ (lt_blk Z1.out) (fun e => by have := Option.some.inj e; omega)).trans Z1.out)
  have c0 := cell_of_row _ _ 0 _ _ _ Z2.out
  have f0 : w2.frozen? ⟨w.heap.size, 0, none⟩ = false := by have := Z2.out; simp [World.frozen?, this]
  simp only [List.getElem?_toArray, List.getElem?_cons_zero] at c0
  have Z3 : (w2.setCell ⟨w.heap.size, 0, none⟩ (.slice p l.length c)).heap[w.heap.size]? = some (.cells #[.slice p l.length c] 25 (0, 0)) := by have := Z2.out; simp [World.setCell, Array.getElem?_modify, this]
  have hh (k : Nat) (hk : k ≠ w.heap.size) : (w2.setCell ⟨w.heap.size, 0, none⟩ (.slice p l.length c)).heap[k]? = w2.heap[k]? := Below.heap_setCell _ _ _ _ hk
  have hrd2 : Hid (Rd (w2.setCell ⟨w.heap.size, 0, none⟩ (.slice p l.length c)) p l) := Lib.hid (by
    intro k x hx
    obtain ⟨b, off, rfl, h0, h1, h2, h3⟩ := hrd k x hx
    have hne : b ≠ w.heap.size := by
      intro e
      subst e
      have := (cell_of_row _ _ (off + k * 3) _ _ _ Z2.out).symm.trans h1
      rcases Nat.eq_zero_or_pos (off + k * 3) with h | h
      · rw [h] at this; simp at this
      · rw [Array.getElem?_eq_none (by simp; omega)] at this; cases this
    have hc (j : Nat) : (w2.setCell ⟨w.heap.size, 0, none⟩ (.slice (some ⟨b, off, none⟩) l.length c)).cell? ⟨b, j, none⟩ = w2.cell? ⟨b, j, none⟩ := World.cell?_of_block (w := w2) (a := ⟨b, j, none⟩) (hh b hne)
    exact ⟨b, off, rfl, by simpa [World.setCell] using h0, (hc _).trans h1, (hc _).trans h2, (hc _).trans h3⟩)
  have HM := Lib.hid hm
  clear hm hrd hh
  go_wp2
  exact bodyPost_ret (v := .agg #[.slice p l.length c]) (by exact results_cell_row Tryd.results4 _ _ w.heap.size 25 #[.slice p l.length c] (0, 0) _ rfl Z3 Tryd.underlying25 rfl (by kernel_rfl)) (by rfl) ⟨p, c, l, rfl, HM.out, HPF.out, hrd2.out, B2.out.setCell (by show w.heap.size ≤ w.heap.size; omega) _⟩
def adRow : Array Value := #[.int .i64 17660, .int .i64 17916, .int .i64 17407, .int .i64 20478, .int .i64 4095, .int .i64 16639, .int .i64 17663]
theorem adRow_at : ∀ i : Nat, i < 7 → ∃ v : Int, adRow[i]? = some (.int .i64 v) ∧ (Lit.int .i64 v).wf = true
  | 0, _ => ⟨_, rfl, by decide⟩ | 1, _ => ⟨_, rfl, by decide⟩ | 2, _ => ⟨_, rfl, by decide⟩ | 3, _ => ⟨_, rfl, by decide⟩ | 4, _ => ⟨_, rfl, by decide⟩ | 5, _ => ⟨_, rfl, by decide⟩ | 6, _ => ⟨_, rfl, by decide⟩
  | n + 7, h => by omega
set_option maxHeartbeats 2000000 in
theorem src_address (g len cap N B : Nat) (A : Option Addr) (w : World) (h : Src w g (.slice A len cap) N) (hN : N ≤ 700000) (hr : Rdb w B A len) (hB : B ≤ g) (hw : B ≤ w.heap.size) :
    Calls Tryd.prog 17 #[.pointer (some ⟨g, 0, none⟩)] w (DrawnInt g (.slice A len cap) (N + 10) w) := by
  go_enter Tryd.func17, Tryd.ntmps17
  go_wp2_with fail
  refine (src_next 10 g len cap N B A _ h (by omega) hr hB (by omega) (by omega)).mono ?_
  rintro e w1 ⟨r, r0, r1, rfl, hs1, hg1⟩
  have hr1 := hr.grown hg1 hB hw
  have hw1 : B ≤ w1.heap.size := Nat.le_trans hw hg1.size
  rcases (show r = 0 ∨ r = 1 ∨ r = 2 ∨ r = 3 ∨ r = 4 ∨ 4 < r from by omega) with rfl | rfl | rfl | rfl | rfl | hgt
  · go_wp2_with fail
    refine (src_wide g len cap (N + 1) B A _ hs1 (by omega) hr1 hB hw1).mono ?_
    rintro e w2 ⟨r', hwf, rfl, hs2, hg2⟩
    go_wp2
    go_ret
    exact ⟨r', hwf, rfl, hs2.mono (by omega), grown_trans hg1 hg2⟩
  · go_wp2_with fail
    refine (src_nextBig 260 g len cap (N + 1) B A _ hs1 (by omega) hr1 hB hw1 (by omega) (by omega)).mono ?_
    rintro e w2 ⟨r', r0', r1', rfl, hs2, hg2⟩
    go_wp2
    go_ret
    exact ⟨_, wf_small (by omega) (by omega), rfl, hs2.mono (by omega), grown_trans hg1 hg2⟩
  · go_wp2_with fail
    refine (src_nextBig 520 g len cap (N + 1) B A _ hs1 (by omega) hr1 hB hw1 (by omega) (by omega)).mono ?_
    rintro e w2 ⟨r', r0', r1', rfl, hs2, hg2⟩
    go_wp2
    go_ret
    exact ⟨_, wf_small (by omega) (by omega), rfl, hs2.mono (by omega), grown_trans hg1 hg2⟩
  · go_wp2_with fail
    refine (src_nextBig 520 g len cap (N + 1) B A _ hs1 (by omega) hr1 hB hw1 (by omega) (by omega)).mono ?_
    rintro e w2 ⟨r', r0', r1', rfl, hs2, hg2⟩
    go_wp2
    go_ret
    exact ⟨_, wf_small (by omega) (by omega), rfl, hs2.mono (by omega), grown_trans hg1 hg2⟩
  · go_wp2_with fail
    refine (src_next 7 g len cap (N + 1) B A _ (hs1.alloc _) (by omega) (hr1.alloc hw1 _) hB (by omega) (by omega)).mono ?_
    rintro e w2 ⟨r', r0', r1', rfl, hs2, hg2⟩
    obtain ⟨i, rfl⟩ := Int.eq_ofNat_of_zero_le r0'
    obtain ⟨v, hv, hwf⟩ := adRow_at i (by omega)
    have hlt := hs1.lt
    have hc : w2.cell? ⟨w1.heap.size, i, none⟩ = some (.int .i64 v) := by
      rw [hg2.cell_far ⟨w1.heap.size, i, none⟩ (by simp) (by simp; omega)]
      rw [blk_cell (heap_alloc_new w1 _) i]; exact hv
    have HV := Lib.hid hv; clear hv
    have hi7 : (i : Int) < 7 := by omega
    go_wp2
    go_ret
    exact ⟨v, hwf, rfl, hs2.mono (by omega), grown_trans hg1 (grown_trans (World.grownBy_alloc w1 _ _) hg2)⟩
  · have t0 : (r == 0) = false := beq_eq_false_iff_ne.mpr (by omega)
    have t1 : (r == 1) = false := beq_eq_false_iff_ne.mpr (by omega)
    have t2 : (r == 2) = false := beq_eq_false_iff_ne.mpr (by omega)
    have t3 : (r == 3) = false := beq_eq_false_iff_ne.mpr (by omega)
    have t4 : (r == 4) = false := beq_eq_false_iff_ne.mpr (by omega)
    go_wp2_with fail
    refine (src_nextBig 780 g len cap (N + 1) B A _ hs1 (by omega) hr1 hB hw1 (by omega) (by omega)).mono ?_
    rintro e w2 ⟨r', r0', r1', rfl, hs2, hg2⟩
    go_wp2
    go_ret
    exact ⟨_, wf_small (by omega) (by omega), rfl, hs2.mono (by omega), grown_trans hg1 hg2⟩
set_option maxHeartbeats 1000000 in
theorem addressD (len cap : Nat) (A : Option Addr) (w : World) (hl : len ≤ 140737488355328) (hr : Rdb w w.heap.size A len) :
    Calls Tryd.prog 6 #[.slice A len cap] w (IntOut w.heap.size w) := by
  go_enter Tryd.func6, Tryd.ntmps6
  go_wp2_with fail
  refine (src_new len cap A _ hl).mono ?_
  rintro e w1 ⟨rfl, hs1, hb1⟩
  go_wp2_with fail
  refine (src_address w.heap.size len cap 0 w.heap.size A _ hs1 (by omega) (hr.below hb1) (Nat.le_refl _) hb1.size).mono ?_
  rintro e w2 ⟨r, hwf, rfl, hs2, hg2⟩
  go_wp2
  go_ret
  exact ⟨r, hwf, rfl, hb1.grown hg2 hb1.size (fun k hk => by cases hk; exact Nat.le_refl _)⟩
end Go.Proofs.YtlijjbdhoooamaaDoor
