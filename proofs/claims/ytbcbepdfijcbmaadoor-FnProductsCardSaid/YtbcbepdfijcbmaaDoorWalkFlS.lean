/-
  What l06If, l06Bit, l06Szp and l06Add of spec do: the flags of a number, and sums and differences bit by bit with their flags; conditions: those in each head.
-/
import Derived.Test.YtbcbepdfijcbmaaDoorWalkHolds
import Derived.Test.YtbcbepdfijcbmaaDoorWalkSign
import Derived.Test.YtbcbepdfijcbmaaDoorMathAl
namespace Go.Proofs.YtbcbepdfijcbmaaDoor
open Go.RowKit
set_option linter.unusedVariables false
set_option linter.unusedSimpArgs false
theorem ret_k2 {k : IntKind} {a b : Int} (h : a = b) : Ending.returned (.int k a) = .returned (.int k b) := by rw [h]
theorem ret_s2 {a b c d : Int} (h : a = b) (h2 : c = d) : Ending.returned (.tuple #[.int .i64 a, .int .i64 c]) = .returned (.tuple #[.int .i64 b, .int .i64 d]) := by rw [h, h2]
set_option maxHeartbeats 400000 in
theorem ifS (b : Bool) (f : Int) (w : World) : Calls Tryd.prog 89 #[.bool b, .int .i64 f] w fun e w' => e = .returned (.int .i64 (bif b then f else 0)) ∧ w = w' := by
  cases b
  all_goals
    go_enter Tryd.func89, Tryd.ntmps89
    go_wp2
    go_ret
    exact ⟨rfl, rfl⟩
def cntN (X : Nat) : Nat → Nat
  | 0 => 0
  | k + 1 => cntN X k + X / 2 ^ k % 2
theorem cntN_le (X : Nat) : ∀ k, cntN X k ≤ k
  | 0 => Nat.le_refl _
  | k + 1 => by have := cntN_le X k; unfold cntN; omega
theorem cnt_low (X : Nat) : cntN X 8 = cntN (X % 256) 8 := by
  have h : ∀ k, k ≤ 8 → cntN X k = cntN (X % 256) k := by
    intro k hk
    induction k with
    | zero => rfl
    | succ k ih =>
      unfold cntN
      rw [ih (by omega), show (256 : Nat) = 2 ^ 8 from rfl, bit_mod (by omega)]
  exact h 8 (Nat.le_refl _)
theorem cnt_pop : ∀ n, n < 256 → cntN n 8 % 2 = Lib.onesCount n % 2 := by decide +kernel
theorem cnt_par {w X : Nat} (hw : 8 ≤ w) : (cntN X 8 % 2 == 0) = parN (X % 2 ^ w) := by
  unfold parN
  have e : X % 2 ^ w % 256 = X % 256 := Nat.mod_mod_of_dvd _ (show 2 ^ 8 ∣ 2 ^ w from Nat.pow_dvd_pow 2 hw)
  rw [e, cnt_low, cnt_pop _ (Nat.mod_lt _ (by decide))]
theorem eq_one {b : Nat} : (((b : Nat) : Int) == 1) = decide (b = 1) := by
  by_cases h : b = 1
  · subst h; rfl
  · rw [decide_eq_false h, beq_eq_false_iff_ne.mpr (by omega)]
theorem w64_zero {U : Nat} (h : U < 18446744073709551616) : (wrap64 (U : Int) == 0) = (U == 0) := by
  by_cases e : U = 0
  · subst e; rw [show wrap64 ((0 : Nat) : Int) = 0 by unfold wrap64; omega]; rfl
  · rw [beq_eq_false_iff_ne.mpr e, beq_eq_false_iff_ne.mpr]; unfold wrap64; omega
theorem par_i (n : Nat) : (((n : Int) % 2) == 0) = (n % 2 == 0) := by
  rcases (by omega : n % 2 = 0 ∨ n % 2 = 1) with h | h
  · rw [h, show ((n : Int) % 2) = 0 by omega]; rfl
  · rw [h, show ((n : Int) % 2) = 1 by omega]; rfl
theorem par_t (n : Nat) : (((n : Int).tmod 2) == 0) = (n % 2 == 0) := by
  rw [Int.tmod_eq_emod_of_nonneg (by omega)]; exact par_i n
theorem pow_le64 {s : Nat} (h : s ≤ 8) : 2 ^ (8 * s) ≤ 18446744073709551616 := Nat.le_trans (Nat.pow_le_pow_right (by decide) (show 8 * s ≤ 64 by omega)) (by decide)
theorem szp_fin {w X b n U : Nat} (hw : 8 ≤ w) (hw2 : w ≤ 64) (hb : b = X / 2 ^ (w - 1) % 2) (hn : n = cntN X 8) (hU : U = X % 2 ^ w) :
    bits .or .i64 (bits .or .i64 (bif ((b : Int) == 1) then 128 else 0) (bif (wrap64 (U : Int) == 0) then 64 else 0)) (bif (n % 2 == 0) then 4 else 0) = szp w (X % 2 ^ w) := by
  subst hb hn hU
  have hlt : X % 2 ^ w < 2 ^ w := Nat.mod_lt _ (Nat.two_pow_pos w)
  have h64 : 2 ^ w ≤ 18446744073709551616 := Nat.le_trans (Nat.pow_le_pow_right (by decide) hw2) (by decide)
  rw [eq_one, w64_zero (by omega), cnt_par hw, or3]
  unfold szp
  congr 1
  refine decide_eq_decide.mpr ?_
  rw [hi_iff (by omega) hlt, bit_mod (by omega)]
theorem u64_w64 {N : Nat} (h : N < 18446744073709551616) : IntKind.u64.wrap (wrap64 (N : Int)) = (N : Int) := by rw [wrapU]; unfold wrap64; omega
/-- what went into bit k - 1 -/
def intoN (A B c k : Nat) : Nat := if k = 0 then 0 else cryN A B c (k - 1)
theorem into_le {A B c k : Nat} (hc : c ≤ 1) : intoN A B c k ≤ 1 := by unfold intoN; split; omega; exact cry_le hc
theorem or_out {S k n : Nat} (hk : k < 64) (hn : n = S / 2 ^ k % 2) : bits .or .u64 ((S % 2 ^ k : Nat) : Int) (IntKind.u64.wrap ((n : Int) * 2 ^ k)) = ((S % 2 ^ (k + 1) : Nat) : Int) := by
  have h1 : S % 2 ^ k < 2 ^ k := Nat.mod_lt _ (Nat.two_pow_pos k)
  have h2 : 2 ^ k ≤ 2 ^ 63 := Nat.pow_le_pow_right (by decide) (by omega)
  have h3 : n * 2 ^ k ≤ 2 ^ k := by
    have : n ≤ 1 := by omega
    rcases (by omega : n = 0 ∨ n = 1) with e | e <;> rw [e] <;> omega
  have e : ((n : Int) * 2 ^ k) = ((n * 2 ^ k : Nat) : Int) := by simp
  have h4 : (2 : Nat) ^ 63 = 9223372036854775808 := by decide
  rw [e, wrapU, Int.emod_eq_of_lt (by omega) (by omega), bits_or_u64_nat _ _ (by omega) (by omega), or_bit, hn, tail_bit]
theorem or_fin {w N c i : Nat} (hc : c ≤ 1) (hi : i ≤ 1) : bits .or .i64 (bits .or .i64 (szp w N) (bif ((c : Int) == 1) then 1 else 0)) (bif ((c : Int) != (i : Int)) then 2048 else 0) = flV (decide (c = 1)) (parN N) (N == 0) (decide (2 ^ (w - 1) ≤ N)) (decide (c ≠ i)) := by
  unfold szp
  generalize parN N = p
  generalize (N == 0) = z
  generalize decide (2 ^ (w - 1) ≤ N) = s
  rcases (by omega : c = 0 ∨ c = 1) with rfl | rfl <;> rcases (by omega : i = 0 ∨ i = 1) with rfl | rfl <;> revert p z s <;> decide +kernel
theorem sumS_n {A B c k x y cr : Nat} (hx : x = A / 2 ^ k % 2) (hy : y = B / 2 ^ k % 2) (hcr : cr = cryN A B c k) : (x + y + cr) % 2 = (A + B + c) / 2 ^ k % 2 ∧ (x + y + cr) / 2 = cryN A B c (k + 1) := by
  subst hx hy hcr
  exact ⟨(sum_bit A B c k).symm, (cry_succ A B c k).symm⟩
theorem difS_n {w A B c k x y cr : Nat} (hA : A < 2 ^ w) (hk : k < w) (hc : c ≤ 1) (hx : x = A / 2 ^ k % 2) (hy : y = B / 2 ^ k % 2) (hcr : cr = cryN (2 ^ w - 1 - A) B c k) : (x + 2 - y - cr) % 2 = difN w A B c / 2 ^ k % 2 ∧ (decide ((x : Int) - y - cr + 2 < 2) = decide (cryN (2 ^ w - 1 - A) B c (k + 1) = 1)) := by
  have hb := not_bit hA hk
  have hcl := cry_le (A := 2 ^ w - 1 - A) (B := B) (k := k) hc
  have hD : ((2 ^ w - 1 - A) + B + c) % 2 ^ w < 2 ^ w := Nat.mod_lt _ (Nat.two_pow_pos w)
  have hR := not_bit hD hk
  rw [bit_mod hk, sum_bit, ← hcr, hb, ← hx, ← hy] at hR
  have hs := cry_succ (2 ^ w - 1 - A) B c k
  rw [← hcr, hb, ← hx, ← hy] at hs
  rw [← hcr] at hcl
  unfold difN
  have hx1 : x ≤ 1 := by omega
  have hy1 : y ≤ 1 := by omega
  refine ⟨by omega, decide_eq_decide.mpr ?_⟩
  rw [hs]
  omega
end Go.Proofs.YtbcbepdfijcbmaaDoor
