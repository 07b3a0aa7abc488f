/-
  Plain facts on shifts made several times: turned about as many times as it has bits a number is as it was; to the right and back; to the left and back; conditions: those in each head.
-/
import Derived.Test.YtifpcfhfglkbcaaDoorMathAl
namespace Go.Proofs.YtifpcfhfglkbcaaDoor
open Go.RowKit
set_option linter.unusedVariables false
def rp (g : Nat → Nat) : Nat → Nat → Nat
  | 0, X => X
  | n + 1, X => g (rp g n X)
theorem hi_tb {w X : Nat} (hw : 1 ≤ w) (hX : X < 2 ^ w) : hiB w X = X.testBit (w - 1) := by
  unfold hiB; rw [tb_iff]; exact decide_eq_decide.mpr (hi_iff hw hX)
theorem dbl_tb (X i : Nat) : (X * 2).testBit i = (decide (1 ≤ i) && X.testBit (i - 1)) := by
  have e : X * 2 = X <<< 1 := by rw [Nat.shiftLeft_eq]
  rw [e, Nat.testBit_shiftLeft]
theorem rol_tb {w X : Nat} (hw : 1 ≤ w) (hX : X < 2 ^ w) (i : Nat) : (rolN w X).testBit i = (decide (i < w) && X.testBit (if i = 0 then w - 1 else i - 1)) := by
  have e : rolN w X = (X * 2 % 2 ^ w) ||| (bif hiB w X then 1 else 0) := by
    unfold rolN
    cases hiB w X
    · simp only [cond_false]; rw [Nat.or_zero, Nat.add_zero]
    · simp only [cond_true]; exact (or_one (dbl_even hw X)).symm
  rw [e, Nat.testBit_or, Nat.testBit_mod_two_pow, dbl_tb, hi_tb hw hX]
  by_cases h0 : i = 0
  · subst h0
    have h1 : decide (0 < w) = true := decide_eq_true hw
    rw [if_pos rfl, h1]
    cases X.testBit (w - 1) <;> simp
  · rw [if_neg h0]
    have h1 : decide (1 ≤ i) = true := decide_eq_true (by omega)
    have h2 : (bif X.testBit (w - 1) then 1 else 0 : Nat).testBit i = false := by
      cases X.testBit (w - 1)
      · simp
      · simp only [cond_true]; rw [tb_iff]; refine decide_eq_false ?_
        have : 1 < 2 ^ i := Nat.one_lt_two_pow h0
        rw [Nat.div_eq_of_lt this]; decide
    rw [h1, h2]; simp
theorem rp_lt {w : Nat} {g : Nat → Nat} (hg : ∀ X, X < 2 ^ w → g X < 2 ^ w) {X : Nat} (hX : X < 2 ^ w) : ∀ n, rp g n X < 2 ^ w
  | 0 => hX
  | n + 1 => hg _ (rp_lt hg hX n)
theorem rol_n {w X : Nat} (hw : 1 ≤ w) (hX : X < 2 ^ w) : ∀ n, n ≤ w → ∀ i, (rp (rolN w) n X).testBit i = (decide (i < w) && X.testBit ((i + w - n) % w))
  | 0, _, i => by
    show X.testBit i = _
    rw [Nat.sub_zero, Nat.add_mod_right]
    by_cases h : i < w
    · rw [decide_eq_true h, Nat.mod_eq_of_lt h]; rfl
    · rw [decide_eq_false h]
      exact Nat.testBit_lt_two_pow (Nat.lt_of_lt_of_le hX (Nat.pow_le_pow_right (by decide) (by omega)))
  | n + 1, hn, i => by
    show (rolN w (rp (rolN w) n X)).testBit i = _
    rw [rol_tb hw (rp_lt (fun Y _ => rolN_lt hw Y) hX n), rol_n hw hX n (by omega)]
    by_cases h : i < w
    · rw [decide_eq_true h]
      by_cases h0 : i = 0
      · subst h0
        rw [if_pos rfl, decide_eq_true (show w - 1 < w by omega), show w - 1 + w - n = (0 + w - (n + 1)) + w by omega, Nat.add_mod_right]
        rfl
      · rw [if_neg h0, decide_eq_true (show i - 1 < w by omega), show i - 1 + w - n = i + w - (n + 1) by omega]
        rfl
    · rw [decide_eq_false h]; rfl
theorem rol_all {w X : Nat} (hw : 1 ≤ w) (hX : X < 2 ^ w) : rp (rolN w) w X = X := by
  apply Nat.eq_of_testBit_eq
  intro i
  rw [rol_n hw hX w (Nat.le_refl _)]
  by_cases h : i < w
  · rw [decide_eq_true h, show i + w - w = i by omega, Nat.mod_eq_of_lt h]; rfl
  · rw [decide_eq_false h]
    exact (Nat.testBit_lt_two_pow (Nat.lt_of_lt_of_le hX (Nat.pow_le_pow_right (by decide) (by omega)))).symm
theorem rol_ror {w X : Nat} (hw : 1 ≤ w) (hX : X < 2 ^ w) : rolN w (rorN w X) = X := by
  have h2 := two_half hw
  have h1 := half_lt hw hX
  unfold rolN rorN hiB odB
  rw [h2]
  generalize 2 ^ (w - 1) = m at *
  rcases (by omega : X % 2 = 0 ∨ X % 2 = 1) with h | h
  · rw [h]
    simp only [show ((0 : Nat) == 1) = false from rfl, cond_false, Nat.add_zero]
    rw [decide_eq_false (by omega), Nat.mod_eq_of_lt (by omega)]
    simp only [cond_false]; omega
  · rw [h]
    simp only [show ((1 : Nat) == 1) = true from rfl, cond_true]
    rw [decide_eq_true (by omega), show (X / 2 + m) * 2 = X / 2 * 2 + 2 * m by omega, Nat.add_mod_right, Nat.mod_eq_of_lt (by omega)]
    simp only [cond_true]; omega
theorem rp_comm (g : Nat → Nat) : ∀ n X, rp g n (g X) = g (rp g n X)
  | 0, X => rfl
  | n + 1, X => by show g (rp g n (g X)) = _; rw [rp_comm g n X]; rfl
theorem rol_ror_n {w : Nat} (hw : 1 ≤ w) : ∀ n {X : Nat}, X < 2 ^ w → rp (rolN w) n (rp (rorN w) n X) = X
  | 0, X, _ => rfl
  | n + 1, X, hX => by
    show rolN w (rp (rolN w) n (rorN w (rp (rorN w) n X))) = X
    rw [← rp_comm (rolN w) n, rol_ror hw (rp_lt (fun Y h => rorN_lt hw h) hX n)]
    exact rol_ror_n hw n hX
theorem shl_n {L : Nat} (hL : L < 256) : ∀ k, k ≤ 20 → rp (shlN 64) k L = L * 2 ^ k
  | 0, _ => by rw [Nat.pow_zero, Nat.mul_one]; rfl
  | k + 1, hk => by
    show shlN 64 (rp (shlN 64) k L) = _
    rw [shl_n hL k (by omega)]
    unfold shlN
    have h1 : 2 ^ k ≤ 2 ^ 20 := Nat.pow_le_pow_right (by decide) (by omega)
    have h2 : L * 2 ^ k ≤ 256 * 2 ^ 20 := Nat.mul_le_mul (by omega) h1
    rw [Nat.mod_eq_of_lt (Nat.lt_of_le_of_lt (Nat.mul_le_mul_right 2 h2) (by decide)), Nat.pow_succ 2 k, Nat.mul_assoc]
theorem shr_n (Y : Nat) : ∀ k, rp (· / 2) k Y = Y / 2 ^ k
  | 0 => by rw [Nat.pow_zero, Nat.div_one]; rfl
  | k + 1 => by show rp (· / 2) k Y / 2 = _; rw [shr_n Y k, Nat.div_div_eq_div_mul, Nat.pow_succ]
theorem shr_shl {L k : Nat} (hL : L < 256) (hk : k ≤ 20) : rp (· / 2) k (rp (shlN 64) k L) = L := by
  rw [shl_n hL k hk, shr_n, Nat.mul_div_cancel _ (Nat.two_pow_pos k)]
end Go.Proofs.YtifpcfhfglkbcaaDoor
