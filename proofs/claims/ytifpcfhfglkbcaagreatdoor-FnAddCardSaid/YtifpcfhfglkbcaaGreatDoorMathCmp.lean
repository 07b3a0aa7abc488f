/-
  Plain facts on sums that are taken away again and on what a comparison's flags tell; conditions: those in each head.
-/
import Derived.Test.YtifpcfhfglkbcaaGreatDoorMathAl
namespace Go.Proofs.YtifpcfhfglkbcaaGreatDoor
open Go.RowKit
set_option linter.unusedVariables false
theorem add_sub {w A B c : Nat} (hA : A < 2 ^ w) (hB : B < 2 ^ w) (hc : c ≤ 1) : difN w (sumN w A B c) B c = A := by
  have h := difN_int (w := w) (A := sumN w A B c) (B := B) (c := c) (sumN_lt _ _ _ _)
  have hp : ((2 : Int) ^ w) = ((2 ^ w : Nat) : Int) := by simp
  rw [hp] at h
  unfold sumN at *
  generalize difN w ((A + B + c) % 2 ^ w) B c = D at *
  generalize 2 ^ w = m at *
  have h2 := Nat.div_add_mod (A + B + c) m
  generalize (A + B + c) % m = r at *
  generalize (A + B + c) / m = q at *
  have e : ((r : Int) - B - c) = (A : Int) + (m : Int) * (-(q : Int)) := by
    have h3 : ((m * q + r : Nat) : Int) = ((A + B + c : Nat) : Int) := by rw [h2]
    push_cast at h3
    rw [Int.mul_neg]; omega
  rw [e, Int.add_mul_emod_self_left, Int.emod_eq_of_lt (by omega) (by omega)] at h
  omega
theorem one_div {m x : Nat} (hm : 0 < m) (h : x < 2 * m) : x / m = if m ≤ x then 1 else 0 := by
  split
  · rename_i c
    rw [show x = (x - m) + m * 1 by omega, Nat.add_mul_div_left _ _ hm, Nat.div_eq_of_lt (by omega)]
  · exact Nat.div_eq_of_lt (by omega)
theorem half_dm {A m : Nat} (hm : 0 < m) (h : A < 2 * m) : (A / m = 0 ∧ A = A % m) ∨ (A / m = 1 ∧ A = m + A % m) := by
  have h3 := Nat.div_add_mod A m
  rw [one_div hm h] at h3 ⊢
  split at h3
  · right; exact ⟨by rw [if_pos (by assumption)], by omega⟩
  · left; exact ⟨by rw [if_neg (by assumption)], by omega⟩
theorem add_borrow {w A B c : Nat} (hA : A < 2 ^ w) (hB : B < 2 ^ w) (hc : c ≤ 1) : cryN (2 ^ w - 1 - sumN w A B c) B c w = cryN A B c w := by
  have hp := Nat.two_pow_pos w
  unfold cryN sumN
  have hS : (A + B + c) % 2 ^ w < 2 ^ w := Nat.mod_lt _ hp
  rw [Nat.mod_eq_of_lt (a := A) hA, Nat.mod_eq_of_lt (a := B) hB, Nat.mod_eq_of_lt (a := 2 ^ w - 1 - (A + B + c) % 2 ^ w) (by omega)]
  have h2 := Nat.div_add_mod (A + B + c) (2 ^ w)
  generalize 2 ^ w = m at *
  rw [one_div hp (by omega)] at h2 ⊢
  rw [one_div hp (by omega)]
  generalize (A + B + c) % m = r at *
  split at h2 <;> split <;> omega
theorem cmp_below {w A B : Nat} (hA : A < 2 ^ w) (hB : B < 2 ^ w) : (cryN (2 ^ w - 1 - A) B 0 w = 1) ↔ A < B := by
  have hp := Nat.two_pow_pos w
  unfold cryN
  rw [Nat.mod_eq_of_lt (a := B) hB, Nat.mod_eq_of_lt (a := 2 ^ w - 1 - A) (by omega)]
  generalize 2 ^ w = m at *
  rw [one_div hp (by omega)]
  split <;> omega
theorem cmp_zero {w A B : Nat} (hA : A < 2 ^ w) (hB : B < 2 ^ w) : (difN w A B 0 = 0) ↔ A = B := by
  have h := difN_int (w := w) (A := A) (B := B) (c := 0) hA
  have hp : ((2 : Int) ^ w) = ((2 ^ w : Nat) : Int) := by simp
  have h2 := Nat.two_pow_pos w
  rw [hp] at h
  generalize difN w A B 0 = D at *
  generalize 2 ^ w = m at *
  constructor
  · intro e
    subst e
    rcases (by omega : A < B ∨ A = B ∨ B < A) with c | c | c
    · have e2 : ((A : Int) - B - (0 : Nat)) = ((m + A - B : Nat) : Int) + (m : Int) * (-1) := by omega
      rw [e2, Int.add_mul_emod_self_left, Int.emod_eq_of_lt (by omega) (by omega)] at h
      omega
    · exact c
    · rw [Int.emod_eq_of_lt (by omega) (by omega)] at h
      omega
  · intro e
    subst e
    rw [show ((A : Int) - A - (0 : Nat)) = 0 by omega, Int.zero_emod] at h
    omega
/-- a number of w bits as one with a sign -/
def sgI (w A : Nat) : Int := if 2 ^ (w - 1) ≤ A then (A : Int) - 2 ^ w else A
theorem cmp_less {w A B : Nat} (hw : 1 ≤ w) (hA : A < 2 ^ w) (hB : B < 2 ^ w) : (decide (2 ^ (w - 1) ≤ difN w A B 0) != decide (cryN (2 ^ w - 1 - A) B 0 w ≠ cryN (2 ^ w - 1 - A) B 0 (w - 1))) = decide (sgI w A < sgI w B) := by
  have hp := Nat.two_pow_pos (w - 1)
  have h2 := two_half hw
  have h := difN_int (w := w) (A := A) (B := B) (c := 0) hA
  have hpI : ((2 : Int) ^ w) = ((2 ^ w : Nat) : Int) := by simp
  have hD := difN_lt w A B 0
  have c1 := cmp_below hA hB
  have k1 := cry_le (A := 2 ^ w - 1 - A) (B := B) (c := 0) (k := w) (by decide)
  have k2 := cry_le (A := 2 ^ w - 1 - A) (B := B) (c := 0) (k := w - 1) (by decide)
  have c2 : (cryN (2 ^ w - 1 - A) B 0 (w - 1) = 1) ↔ A % 2 ^ (w - 1) < B % 2 ^ (w - 1) := by
    have e : (2 ^ w - 1 - A) % 2 ^ (w - 1) = 2 ^ (w - 1) - 1 - A % 2 ^ (w - 1) := by
      rw [h2] at hA ⊢
      generalize 2 ^ (w - 1) = m at *
      have h4 := Nat.mod_lt A hp
      rcases half_dm hp hA with ⟨_, e⟩ | ⟨_, e⟩
      · generalize A % m = r at *
        rw [show 2 * m - 1 - A = (m - 1 - r) + m * 1 by omega, Nat.add_mul_mod_self_left, Nat.mod_eq_of_lt (by omega)]
      · generalize A % m = r at *
        rw [show 2 * m - 1 - A = m - 1 - r by omega, Nat.mod_eq_of_lt (by omega)]
    unfold cryN
    rw [e]
    have h4 := Nat.mod_lt A hp
    have h5 := Nat.mod_lt B hp
    generalize 2 ^ (w - 1) = m at *
    rw [one_div hp (by omega)]
    split <;> omega
  generalize cryN (2 ^ w - 1 - A) B 0 w = x at *
  generalize cryN (2 ^ w - 1 - A) B 0 (w - 1) = y at *
  unfold sgI
  rw [hpI] at h ⊢
  generalize difN w A B 0 = D at *
  rw [h2] at hA hB hD h ⊢
  clear h2 hpI
  generalize 2 ^ (w - 1) = m at *
  have h4 := Nat.mod_lt A hp
  have h6 := Nat.mod_lt B hp
  have ha := half_dm hp hA
  have hb := half_dm hp hB
  have hDv : (D : Int) = A - B ∨ (D : Int) = A - B + 2 * m := by
    rcases Nat.lt_or_ge A B with c | c
    · have e2 : ((A : Int) - B - (0 : Nat)) = ((2 * m + A - B : Nat) : Int) + ((2 * m : Nat) : Int) * (-1) := by omega
      rw [e2, Int.add_mul_emod_self_left, Int.emod_eq_of_lt (by omega) (by omega)] at h
      omega
    · rw [Int.emod_eq_of_lt (by omega) (by omega)] at h
      omega
  generalize A % m = a0 at *
  generalize B % m = b0 at *
  rw [Bool.eq_iff_iff, bne_iff_ne, decide_eq_true_iff, ne_eq, decide_eq_decide]
  rcases ha with ⟨_, ea⟩ | ⟨_, ea⟩ <;> rcases hb with ⟨_, eb⟩ | ⟨_, eb⟩
  · rw [if_neg (by omega), if_neg (by omega)]; omega
  · rw [if_neg (by omega), if_pos (by omega)]; omega
  · rw [if_pos (by omega), if_neg (by omega)]; omega
  · rw [if_pos (by omega), if_pos (by omega)]; omega
end Go.Proofs.YtifpcfhfglkbcaaGreatDoor
