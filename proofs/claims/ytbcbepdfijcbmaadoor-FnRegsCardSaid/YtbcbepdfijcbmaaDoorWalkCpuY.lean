/-
  What registers read and what is set in them, with the numbers told; conditions: those in each head.
-/
import Derived.Test.YtbcbepdfijcbmaaDoorWalkCpuX
import Derived.Test.YtbcbepdfijcbmaaDoorMathCr
namespace Go.Proofs.YtbcbepdfijcbmaaDoor
open Go.RowKit
set_option linter.unusedVariables false
/-- the lowest bytes of a number, without a sign -/
def zeroN (v n : Int) : Int := if n = 1 then v % 256 else if n = 2 then v % 65536 else if n = 4 then v % 4294967296 else v
theorem u16_mod (v : Int) : wrap64 (IntKind.u16.wrap v) = v % 65536 := by
  rw [show IntKind.u16.wrap v = v % 65536 from by simp [IntKind.wrap, IntKind.bits, IntKind.signed]]; unfold wrap64; omega
theorem u64_id {v : Int} (hv : (Lit.int .i64 v).wf = true) : wrap64 (IntKind.u64.wrap v) = v := by
  have := bounds_i64 hv
  rw [wrapU]; unfold wrap64; omega
theorem unsN (v n : Int) (hn : okSize n) (hv : (Lit.int .i64 v).wf = true) (w : World) : Calls Tryd.prog 46 #[.int .i64 v, .int .i64 n] w fun e w' => e = .returned (.tuple #[.int .i64 (zeroN v n), .nilIface]) ∧ w = w' := by
  rcases hn with rfl | rfl | rfl | rfl
  · exact unsigned1 v w
  · have := unsigned2 v w; rw [u16_mod] at this; exact this
  · exact unsigned4 v w
  · have := unsigned8 v w; rw [u64_id hv] at this; exact this
theorem zeroOfI (v n : Int) (hn : okSize n) (hv : (Lit.int .i64 v).wf = true) (w : World) : Calls Tryd.prog 22 #[.int .i64 v, .int .i64 n] w fun e w' => e = .returned (.tuple #[.int .i64 (zeroN v n), .int .i64 0]) ∧ Below w.heap.size w w' :=
  implZeroYes v n (zeroN v n) w (unsN v n hn hv w)
/-- what a register reads -/
def regV (c : Cp) (a n : Int) : Int := if a ≤ 15 then zeroN (c.rs a.toNat) n else c.rs (a - 16).toNat / 256 % 256
theorem getV (c : Cp) (a n : Int) (hw : CpW c) (h : okSize n ∧ 0 ≤ a ∧ a ≤ topReg n) (W : World) (b : Nat) (hb : Cpb W b (cpV c)) :
    Calls Tryd.prog 35 #[.pointer (some ⟨b, 0, none⟩), .int .i64 a, .int .i64 n] W fun e w' => e = .returned (.int .i64 (regV c a n)) ∧ W = w' := by
  obtain ⟨hn, h0, h1⟩ := h
  unfold regV
  by_cases ha : a ≤ 15
  · rw [if_pos ha]
    obtain ⟨k, rfl⟩ := Int.eq_ofNat_of_zero_le h0
    exact getI W b _ _ _ k (by omega) ((cell_of_row W b k _ _ _ hb).trans (cpV_at c k (by omega))) (unsN _ n hn (hw.rs k (by omega)))
  · rw [if_neg ha]
    obtain ⟨k, rfl⟩ : ∃ k : Nat, a = (k : Int) + 16 := ⟨(a - 16).toNat, by omega⟩
    have hk : k < 4 := by unfold topReg at h1; split at h1 <;> omega
    rw [show ((k : Int) + 16 - 16).toNat = k by omega]
    exact getIH W b _ _ k hk ((cell_of_row W b k _ _ _ hb).trans (cpV_at c k (by omega)))
/-- the register that is set, and its new number -/
def regK (a : Int) : Nat := if a ≤ 15 then a.toNat else (a - 16).toNat
def newV (c : Cp) (a n v : Int) : Int := if a ≤ 15 then (if n = 1 then lowY 256 (c.rs (regK a)) v else if n = 2 then lowY 65536 (c.rs (regK a)) v else zeroN v n) else hiY (c.rs (regK a)) v
theorem setV (c : Cp) (a n v : Int) (hw : CpW c) (hv : (Lit.int .i64 v).wf = true) (h : okSize n ∧ 0 ≤ a ∧ a ≤ topReg n) : regK a < 16 ∧
    (∀ W b, Cpb W b (cpV c) → Calls Tryd.prog 37 #[.pointer (some ⟨b, 0, none⟩), .int .i64 a, .int .i64 n, .int .i64 v] W fun e w' => e = .returned (.tuple #[]) ∧ SetOut W w' b (c.set (regK a) (newV c a n v))) ∧
    (∀ W, Calls Tryd.prog 36 #[.agg (cpV c), .int .i64 a, .int .i64 n, .int .i64 v] W fun e w' => e = .returned (.agg (cpV (c.set (regK a) (newV c a n v)))) ∧ Below W.heap.size W w') := by
  obtain ⟨hn, h0, h1⟩ := h
  obtain ⟨X, hX⟩ := natU v
  by_cases ha : a ≤ 15
  · obtain ⟨k, rfl⟩ := Int.eq_ofNat_of_zero_le h0
    have hk : k < 16 := by omega
    have ek : regK (k : Int) = k := by unfold regK; rw [if_pos ha]; rfl
    have cell (W : World) (b : Nat) (hb : Cpb W b (cpV c)) := (cell_of_row W b k _ _ _ hb).trans (cpV_at c k hk)
    unfold newV
    rw [if_pos ha, ek]
    refine ⟨hk, ?_⟩
    rcases hn with rfl | rfl | rfl | rfl
    · rw [if_pos rfl]
      refine ⟨fun W b hb => ?_, fun W => ?_⟩
      · refine (setIL W b (c.rs k) v (v % 256) (c.rs k % 256) 1 k hk (by decide) (cell W b hb) (free_row hb k) (fun w => ?_) (fun w => ?_)).mono ?_
        · have := unsN v 1 (by unfold okSize; omega) hv w; exact this
        · have := unsN (c.rs k) 1 (by unfold okSize; omega) (hw.rs k hk) w; exact this
        · rintro e w' ⟨rfl, rfl⟩
          exact ⟨rfl, (SetOut.cell hb k hk _).drew⟩
      · refine setS1 c v (v % 256) _ k hk (loEq1 _ _ (by omega) (by omega)) (fun w => ?_) W
        have hx : wrap64 ((X % 2 ^ (8 * 1) : Nat) : Int) = v % 256 := by rw [eqZ1 hX]
        rw [← hx]; exact specZeroL v X 1 w hX (by decide) (by decide)
    · rw [if_neg (by decide), if_pos rfl]
      refine ⟨fun W b hb => ?_, fun W => ?_⟩
      · refine (setIL W b (c.rs k) v (v % 65536) (c.rs k % 65536) 2 k hk (by decide) (cell W b hb) (free_row hb k) (fun w => ?_) (fun w => ?_)).mono ?_
        · have := unsN v 2 (by unfold okSize; omega) hv w; exact this
        · have := unsN (c.rs k) 2 (by unfold okSize; omega) (hw.rs k hk) w; exact this
        · rintro e w' ⟨rfl, rfl⟩
          exact ⟨rfl, (SetOut.cell hb k hk _).drew⟩
      · refine setS2 c v (v % 65536) _ k hk (loEq2 _ _ (by omega) (by omega)) (fun w => ?_) W
        have hx : wrap64 ((X % 2 ^ (8 * 2) : Nat) : Int) = v % 65536 := by rw [eqZ2 hX, u16_mod]
        rw [← hx]; exact specZeroL v X 2 w hX (by decide) (by decide)
    · rw [if_neg (by decide), if_neg (by decide)]
      have hz : zeroN v 4 = v % 4294967296 := rfl
      have hx : wrap64 ((X % 2 ^ (8 * 4) : Nat) : Int) = v % 4294967296 := by rw [eqZ4 hX]
      rw [hz]
      refine ⟨fun W b hb => ?_, fun W => ?_⟩
      · refine (setIW W b (c.rs k) v (v % 4294967296) 4 k hk (by decide) (cell W b hb) (free_row hb k) (fun w => ?_)).mono ?_
        · have := unsN v 4 (by unfold okSize; omega) hv w; exact this
        · rintro e w' ⟨rfl, rfl⟩
          exact ⟨rfl, SetOut.cell hb k hk _⟩
      · exact setS4 c v _ 0 k hk (fun w => by have := specZeroL v X 4 w hX (by decide) (by decide); rw [hx] at this; exact this) W
    · rw [if_neg (by decide), if_neg (by decide)]
      have hz : zeroN v 8 = v := rfl
      have hx : wrap64 ((X % 2 ^ (8 * 8) : Nat) : Int) = v := by rw [eqZ8 hX, u64_id hv]
      rw [hz]
      refine ⟨fun W b hb => ?_, fun W => ?_⟩
      · refine (setIW W b (c.rs k) v (v) 8 k hk (by decide) (cell W b hb) (free_row hb k) (fun w => ?_)).mono ?_
        · have := unsN v 8 (by unfold okSize; omega) hv w; exact this
        · rintro e w' ⟨rfl, rfl⟩
          exact ⟨rfl, SetOut.cell hb k hk _⟩
      · exact setS8 c v _ 0 k hk (fun w => by have := specZeroL v X 8 w hX (by decide) (by decide); rw [hx] at this; exact this) W
  · obtain ⟨k, rfl⟩ : ∃ k : Nat, a = (k : Int) + 16 := ⟨(a - 16).toNat, by omega⟩
    have hk : k < 4 := by unfold topReg at h1; split at h1 <;> omega
    have hn1 : n = 1 := by unfold topReg at h1; split at h1 <;> first | assumption | omega
    subst hn1
    have ek : regK ((k : Int) + 16) = k := by unfold regK; rw [if_neg ha]; omega
    have cell (W : World) (b : Nat) (hb : Cpb W b (cpV c)) := (cell_of_row W b k _ _ _ hb).trans (cpV_at c k (by omega))
    unfold newV
    rw [if_neg ha, ek]
    refine ⟨by omega, fun W b hb => ?_, fun W => ?_⟩
    · refine (setIH W b (c.rs k) v (v % 256) 1 k hk (cell W b hb) (free_row hb k) (fun w => unsigned1 v w)).mono ?_
      rintro e w' ⟨rfl, rfl⟩
      exact ⟨rfl, SetOut.cell hb k (by omega) _⟩
    · refine setSh c v (v % 256) _ k hk (hiEq _ _) (fun w => ?_) W
      rw [← eqZ1 hX]; exact specZeroL v X 1 w hX (by decide) (by decide)
theorem zeroN_wf (v n : Int) (hv : (Lit.int .i64 v).wf = true) : (Lit.int .i64 (zeroN v n)).wf = true := by
  have := bounds_i64 hv
  unfold zeroN
  split
  · exact WalkArith.wf_i64 ⟨by omega, by omega⟩
  · split
    · exact WalkArith.wf_i64 ⟨by omega, by omega⟩
    · split
      · exact WalkArith.wf_i64 ⟨by omega, by omega⟩
      · exact hv
theorem newV_wf (c : Cp) (a n v : Int) (hv : (Lit.int .i64 v).wf = true) : (Lit.int .i64 (newV c a n v)).wf = true := by
  unfold newV
  split
  · split
    · exact wrap64_wf _
    · split
      · exact wrap64_wf _
      · exact zeroN_wf v n hv
  · exact wf_bits _ _ _ _
end Go.Proofs.YtbcbepdfijcbmaaDoor
