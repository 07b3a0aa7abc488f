/-
  Plain facts on numbers for the wide quotient: dividing bit by bit gives quotient and rest of a number of 128 bits; conditions: the upper half is below the divisor, all are below 2^64.
-/
import Derived.Test.YtbcbepdfijcbmaaDoorMathWide
namespace Go.Proofs.YtbcbepdfijcbmaaDoor
set_option linter.unusedVariables false
def divX (h l k : Nat) : Nat := h * 2 ^ (64 - k) + l / 2 ^ k
theorem divX_step {h l k : Nat} (hk : 1 ≤ k) (h64 : k ≤ 64) : divX h l (k - 1) = 2 * divX h l k + l / 2 ^ (k - 1) % 2 := by
  obtain ⟨j, rfl⟩ : ∃ j, k = j + 1 := ⟨k - 1, by omega⟩
  unfold divX
  simp only [Nat.add_sub_cancel]
  have e : l / 2 ^ (j + 1) = l / 2 ^ j / 2 := by rw [Nat.pow_succ, Nat.div_div_eq_div_mul]
  have e2 : 2 ^ (64 - j) = 2 * 2 ^ (64 - (j + 1)) := by
    rw [show 64 - j = (64 - (j + 1)) + 1 from by omega, Nat.pow_succ, Nat.mul_comm]
  rw [e, e2, Nat.mul_left_comm]
  omega
theorem divX_lt {h l d k : Nat} (hh : h < d) (hl : l < 18446744073709551616) (h64 : k ≤ 64) : divX h l k < d * 18446744073709551616 := by
  unfold divX
  have e : (18446744073709551616 : Nat) = 2 ^ k * 2 ^ (64 - k) := by rw [← Nat.pow_add, show k + (64 - k) = 64 from by omega]
  have h1 : l / 2 ^ k < 2 ^ (64 - k) := by
    rw [Nat.div_lt_iff_lt_mul (Nat.pow_pos (by decide)), Nat.mul_comm, ← e]; exact hl
  have h2 : (h + 1) * 2 ^ (64 - k) ≤ d * 2 ^ (64 - k) := Nat.mul_le_mul_right _ (by omega)
  have h3 : d * 2 ^ (64 - k) ≤ d * 18446744073709551616 := Nat.mul_le_mul_left _ (by rw [e]; exact Nat.le_mul_of_pos_left _ (Nat.pow_pos (by decide)))
  rw [Nat.add_mul, Nat.one_mul] at h2
  omega
theorem div_lo {Q R X X' b d : Nat} (hb : b < 2) (hX : X' = 2 * X + b) (hP : Q * d + R = X) (hlt : X' < d * 18446744073709551616) (hr : 2 * R + b < d) : 2 * Q < 18446744073709551616 ∧ 2 * Q * d + (2 * R + b) = X' := by
  have e : 2 * Q * d = 2 * (Q * d) := Nat.mul_assoc 2 Q d
  refine ⟨?_, by rw [e]; omega⟩
  refine Nat.lt_of_mul_lt_mul_left (a := d) ?_
  rw [Nat.mul_comm d (2 * Q), e]; omega
theorem div_hi {Q R X X' b d : Nat} (hb : b < 2) (hX : X' = 2 * X + b) (hP : Q * d + R = X) (hlt : X' < d * 18446744073709551616) (hr : d ≤ 2 * R + b) : 2 * Q + 1 < 18446744073709551616 ∧ (2 * Q + 1) * d + (2 * R + b - d) = X' := by
  have e : (2 * Q + 1) * d = 2 * (Q * d) + d := by rw [Nat.add_mul, Nat.one_mul, Nat.mul_assoc]
  refine ⟨?_, by rw [e]; omega⟩
  refine Nat.lt_of_mul_lt_mul_left (a := d) ?_
  rw [Nat.mul_comm d (2 * Q + 1), e]; omega
theorem bitIv (l k : Nat) : (((l : Int) / 2 ^ (k - 1)).tmod 2) = ((l / 2 ^ (k - 1) % 2 : Nat) : Int) := by
  have e : ((l : Int) / 2 ^ (k - 1)) = ((l / 2 ^ (k - 1) : Nat) : Int) := by simp
  rw [e, Int.tmod_eq_emod_of_nonneg (Int.natCast_nonneg _)]; omega
/-- a round whose rest is not below the divisor: the upper bit of the rest is set -/
theorem div_top {h l d k Q R : Nat} (hk : 1 ≤ k) (h64 : k ≤ 64) (hh : h < d) (hl : l < 18446744073709551616) (hd : d < 18446744073709551616) (hR : R < d) (hP : Q * d + R = divX h l k) (ht : (R : Int) / 9223372036854775808 = 1) :
    ∃ Q' R' : Nat, R' < d ∧ Q' < 18446744073709551616 ∧ Q' * d + R' = divX h l (k - 1) ∧ IntKind.u64.wrap (IntKind.u64.wrap ((Q : Int) * 2) + 1) = (Q' : Int) ∧
      IntKind.u64.wrap (IntKind.u64.wrap (IntKind.u64.wrap ((R : Int) * 2) + ((l : Int) / 2 ^ (k - 1)).tmod 2) - (d : Int)) = (R' : Int) := by
  have hb : l / 2 ^ (k - 1) % 2 < 2 := Nat.mod_lt _ (by decide)
  obtain ⟨q1, q2⟩ := div_hi hb (divX_step hk h64) hP (divX_lt hh hl (by omega)) (by omega)
  rw [bitIv]
  generalize l / 2 ^ (k - 1) % 2 = b at *
  refine ⟨_, _, by omega, q1, q2, ?_, ?_⟩
  · rw [wrapU, wrapU]; omega
  · rw [wrapU, wrapU, wrapU]; omega
theorem div_ge {h l d k Q R : Nat} (hk : 1 ≤ k) (h64 : k ≤ 64) (hh : h < d) (hl : l < 18446744073709551616) (hd : d < 18446744073709551616) (hR : R < d) (hP : Q * d + R = divX h l k) (hn : ¬ (R : Int) / 9223372036854775808 = 1)
    (ht : (((R : Int) / 9223372036854775808 == 1) = true) ∨ (d : Int) ≤ IntKind.u64.wrap ((R : Int) * 2 + ((l : Int) / 2 ^ (k - 1)).tmod 2)) :
    ∃ Q' R' : Nat, R' < d ∧ Q' < 18446744073709551616 ∧ Q' * d + R' = divX h l (k - 1) ∧ IntKind.u64.wrap (IntKind.u64.wrap ((Q : Int) * 2) + 1) = (Q' : Int) ∧
      IntKind.u64.wrap (IntKind.u64.wrap ((R : Int) * 2 + ((l : Int) / 2 ^ (k - 1)).tmod 2) - (d : Int)) = (R' : Int) := by
  have ht' : (d : Int) ≤ IntKind.u64.wrap ((R : Int) * 2 + ((l : Int) / 2 ^ (k - 1)).tmod 2) := by
    rcases ht with h | h
    · exact absurd (eq_of_beq h) hn
    · exact h
  rw [bitIv, wrapU] at ht'
  have hb : l / 2 ^ (k - 1) % 2 < 2 := Nat.mod_lt _ (by decide)
  obtain ⟨q1, q2⟩ := div_hi hb (divX_step hk h64) hP (divX_lt hh hl (by omega)) (by omega)
  rw [bitIv]
  generalize l / 2 ^ (k - 1) % 2 = b at *
  refine ⟨_, _, by omega, q1, q2, ?_, ?_⟩
  · rw [wrapU, wrapU]; omega
  · rw [wrapU, wrapU]; omega
theorem div_lt {h l d k Q R : Nat} (hk : 1 ≤ k) (h64 : k ≤ 64) (hh : h < d) (hl : l < 18446744073709551616) (hd : d < 18446744073709551616) (hR : R < d) (hP : Q * d + R = divX h l k) (hn : ¬ (R : Int) / 9223372036854775808 = 1)
    (ht : (((R : Int) / 9223372036854775808 == 1) = false) ∧ IntKind.u64.wrap ((R : Int) * 2 + ((l : Int) / 2 ^ (k - 1)).tmod 2) < (d : Int)) :
    ∃ Q' R' : Nat, R' < d ∧ Q' < 18446744073709551616 ∧ Q' * d + R' = divX h l (k - 1) ∧ IntKind.u64.wrap ((Q : Int) * 2) = (Q' : Int) ∧
      IntKind.u64.wrap ((R : Int) * 2 + ((l : Int) / 2 ^ (k - 1)).tmod 2) = (R' : Int) := by
  have ht' := ht.2
  rw [bitIv, wrapU] at ht'
  have hb : l / 2 ^ (k - 1) % 2 < 2 := Nat.mod_lt _ (by decide)
  obtain ⟨q1, q2⟩ := div_lo hb (divX_step hk h64) hP (divX_lt hh hl (by omega)) (by omega)
  rw [bitIv]
  generalize l / 2 ^ (k - 1) % 2 = b at *
  refine ⟨_, _, by omega, q1, q2, ?_, ?_⟩
  · rw [wrapU]; omega
  · rw [wrapU]; omega
theorem div_end {X Q R d : Nat} (hR : R < d) (hP : Q * d + R = X) : Q = X / d ∧ R = X % d := by
  subst hP
  refine ⟨?_, ?_⟩
  · rw [Nat.add_comm, Nat.add_mul_div_right _ _ (by omega), Nat.div_eq_of_lt hR]; omega
  · rw [Nat.add_comm, Nat.add_mul_mod_self_right, Nat.mod_eq_of_lt hR]
end Go.Proofs.YtbcbepdfijcbmaaDoor
