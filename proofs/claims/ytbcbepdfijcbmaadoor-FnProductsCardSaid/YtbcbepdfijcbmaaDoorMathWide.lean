/-
  Plain facts on numbers for the wide product: doubling and adding bit by bit gives the upper and the lower half of the product of two numbers below 2^64; no condition but those in each head.
-/
import Derived.WalkKit
namespace Go.Proofs.YtbcbepdfijcbmaaDoor
set_option linter.unusedVariables false
theorem wrapU (n : Int) : IntKind.u64.wrap n = n % 18446744073709551616 := IntKind.wrap_u64 n
theorem wide_bit (a b k : Nat) (hk : 1 ≤ k) (ha : a < 18446744073709551616) (hb : b < 18446744073709551616) :
    a * (b / 2 ^ (k - 1)) = 2 * (a * (b / 2 ^ k)) + a * (b / 2 ^ (k - 1) % 2) ∧ a * (b / 2 ^ (k - 1)) < 340282366920938463463374607431768211456 := by
  obtain ⟨j, rfl⟩ : ∃ j, k = j + 1 := ⟨k - 1, by omega⟩
  have e : b / 2 ^ (j + 1) = b / 2 ^ j / 2 := by rw [Nat.pow_succ, Nat.div_div_eq_div_mul]
  simp only [Nat.add_sub_cancel]
  rw [e]
  have h2 : b / 2 ^ j = 2 * (b / 2 ^ j / 2) + b / 2 ^ j % 2 := by omega
  have h3 : b / 2 ^ j ≤ b := Nat.div_le_self _ _
  refine ⟨?_, ?_⟩
  · conv => lhs; rw [h2]
    rw [Nat.mul_add, Nat.mul_left_comm]
  · have h4 : a * (b / 2 ^ j) < 18446744073709551616 * 18446744073709551616 := Nat.mul_lt_mul_of_lt_of_lt ha (by omega)
    have h5 : (18446744073709551616 * 18446744073709551616 : Nat) = 340282366920938463463374607431768211456 := by decide
    rw [h5] at h4; exact h4
theorem bit_true {b k : Nat} (h : (((b : Int) / 2 ^ (k - 1)).tmod 2 == 1) = true) : b / 2 ^ (k - 1) % 2 = 1 := by
  have e : ((b : Int) / 2 ^ (k - 1)) = ((b / 2 ^ (k - 1) : Nat) : Int) := by simp
  rw [e] at h
  have h1 := eq_of_beq h
  rw [Int.tmod_eq_emod_of_nonneg (Int.natCast_nonneg _)] at h1
  omega
theorem bit_false {b k : Nat} (h : (((b : Int) / 2 ^ (k - 1)).tmod 2 == 1) = false) : b / 2 ^ (k - 1) % 2 = 0 := by
  have e : ((b : Int) / 2 ^ (k - 1)) = ((b / 2 ^ (k - 1) : Nat) : Int) := by simp
  rw [e] at h
  have h1 := ne_of_beq_false h
  rw [Int.tmod_eq_emod_of_nonneg (Int.natCast_nonneg _)] at h1
  omega
theorem wide0 {a b k H L : Nat} (hk : 1 ≤ k) (ha : a < 18446744073709551616) (hb : b < 18446744073709551616) (hH : H < 18446744073709551616) (hL : L < 18446744073709551616)
    (hP : 18446744073709551616 * H + L = a * (b / 2 ^ k)) (hbit : b / 2 ^ (k - 1) % 2 = 0) :
    ∃ H' L' : Nat, H' < 18446744073709551616 ∧ L' < 18446744073709551616 ∧ 18446744073709551616 * H' + L' = a * (b / 2 ^ (k - 1)) ∧
      IntKind.u64.wrap (IntKind.u64.wrap ((H : Int) * 2) + (L : Int) / 9223372036854775808) = (H' : Int) ∧ IntKind.u64.wrap ((L : Int) * 2) = (L' : Int) := by
  obtain ⟨e, lt⟩ := wide_bit a b k hk ha hb
  rw [hbit, Nat.mul_zero, Nat.add_zero, ← hP] at e
  rw [e] at lt ⊢
  exact ⟨2 * H + L / 9223372036854775808, 2 * L % 18446744073709551616, by omega, by omega, by omega, by rw [wrapU, wrapU]; omega, by rw [wrapU]; omega⟩
theorem wide1 {a b k H L : Nat} (hk : 1 ≤ k) (ha : a < 18446744073709551616) (hb : b < 18446744073709551616) (hH : H < 18446744073709551616) (hL : L < 18446744073709551616)
    (hP : 18446744073709551616 * H + L = a * (b / 2 ^ k)) (hbit : b / 2 ^ (k - 1) % 2 = 1) :
    (IntKind.u64.wrap (IntKind.u64.wrap ((L : Int) * 2) + (a : Int)) < IntKind.u64.wrap ((L : Int) * 2) → ∃ H' L' : Nat, H' < 18446744073709551616 ∧ L' < 18446744073709551616 ∧ 18446744073709551616 * H' + L' = a * (b / 2 ^ (k - 1)) ∧
      IntKind.u64.wrap (IntKind.u64.wrap (IntKind.u64.wrap ((H : Int) * 2) + (L : Int) / 9223372036854775808) + 1) = (H' : Int) ∧ IntKind.u64.wrap (IntKind.u64.wrap ((L : Int) * 2) + (a : Int)) = (L' : Int)) ∧
    (IntKind.u64.wrap ((L : Int) * 2) ≤ IntKind.u64.wrap (IntKind.u64.wrap ((L : Int) * 2) + (a : Int)) → ∃ H' L' : Nat, H' < 18446744073709551616 ∧ L' < 18446744073709551616 ∧ 18446744073709551616 * H' + L' = a * (b / 2 ^ (k - 1)) ∧
      IntKind.u64.wrap (IntKind.u64.wrap ((H : Int) * 2) + (L : Int) / 9223372036854775808) = (H' : Int) ∧ IntKind.u64.wrap (IntKind.u64.wrap ((L : Int) * 2) + (a : Int)) = (L' : Int)) := by
  obtain ⟨e, lt⟩ := wide_bit a b k hk ha hb
  rw [hbit, Nat.mul_one, ← hP] at e
  rw [e] at lt ⊢
  simp only [wrapU]
  refine ⟨fun h => ⟨2 * H + L / 9223372036854775808 + 1, (2 * L % 18446744073709551616 + a) % 18446744073709551616, by omega, by omega, by omega, by omega, by omega⟩, fun h => ⟨2 * H + L / 9223372036854775808, (2 * L % 18446744073709551616 + a) % 18446744073709551616, by omega, by omega, by omega, by omega, by omega⟩⟩
theorem wide_end {a b H L : Nat} (hL : L < 18446744073709551616) (hP : 18446744073709551616 * H + L = a * (b / 2 ^ 0)) : H = a * b / 18446744073709551616 ∧ L = a * b % 18446744073709551616 := by
  rw [Nat.pow_zero, Nat.div_one] at hP
  rw [← hP]; omega
end Go.Proofs.YtbcbepdfijcbmaaDoor
