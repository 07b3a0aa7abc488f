/-
  Plain facts on bits: the number that the lowest bytes are, with a sign and without it, read bit by bit; conditions: sizes of 1 to 8 bytes, numbers below 2^64.
-/
import Derived.WalkKit
namespace Go.Proofs.YtinjpobepcenfaaDoor
open Go.RowKit
/-- the 64 bits of the lowest s bytes of X as a number with a sign -/
def sgnU (X s : Nat) : Nat := ((BitVec.ofNat (8 * s) X).signExtend 64).toNat
theorem bit_dm (x i : Nat) : x / 2 ^ i % 2 = (x.testBit i).toNat := by
  rw [Nat.testBit_eq_decide_div_mod_eq]
  rcases Nat.mod_two_eq_zero_or_one (x / 2 ^ i) with h | h <;> simp [h]
theorem sgnU_bit (X s i : Nat) (hs : 1 ≤ s) (hs8 : s ≤ 8) (hi : i < 64) : sgnU X s / 2 ^ i % 2 = X / 2 ^ (min i (8 * s - 1)) % 2 := by
  rw [bit_dm, bit_dm]
  congr 1
  unfold sgnU
  rw [← BitVec.getLsbD, BitVec.getLsbD_signExtend]
  by_cases h : i < 8 * s
  · rw [Nat.min_eq_left (by omega)]
    rw [if_pos h, BitVec.getLsbD_ofNat]; simp [hi, h]
  · rw [Nat.min_eq_right (by omega)]
    rw [if_neg h, BitVec.msb_eq_getLsbD_last, BitVec.getLsbD_ofNat]; simp [hi]; omega
theorem sgnU_lt (X s : Nat) : sgnU X s < 18446744073709551616 := (((BitVec.ofNat (8 * s) X).signExtend 64)).isLt
theorem half_step (U k : Nat) (hk : 1 ≤ k) : U / 2 ^ (k - 1) = 2 * (U / 2 ^ k) + U / 2 ^ (k - 1) % 2 := by
  obtain ⟨j, rfl⟩ : ∃ j, k = j + 1 := ⟨k - 1, by omega⟩
  have e : U / 2 ^ (j + 1) = U / 2 ^ j / 2 := by rw [Nat.pow_succ, Nat.div_div_eq_div_mul]
  simp only [Nat.add_sub_cancel]
  rw [e]; omega
theorem sgn_int (X s : Nat) (hs8 : s ≤ 8) : wrap64 (sgnU X s : Int) = (X : Int).bmod (2 ^ (8 * s)) := by
  have h : ((BitVec.ofNat (8 * s) X).signExtend 64).toInt = (BitVec.ofNat (8 * s) X).toInt := BitVec.toInt_signExtend_of_le (by omega)
  have h2 : (BitVec.ofNat (8 * s) X).toInt = (X : Int).bmod (2 ^ (8 * s)) := by
    rw [BitVec.toInt_eq_toNat_bmod, BitVec.toNat_ofNat, Int.natCast_emod]
    exact Int.emod_bmod ..
  rw [h2] at h
  rw [← h, BitVec.toInt_eq_toNat_bmod]
  have hl := sgnU_lt X s
  unfold sgnU at *
  generalize ((BitVec.ofNat (8 * s) X).signExtend 64).toNat = U at *
  have e2 : (2 ^ 64 : Nat) = 18446744073709551616 := by decide
  rw [e2, Int.bmod_def]
  unfold wrap64
  split <;> omega
/-- the lowest s bytes of X as a number without a sign -/
theorem zer_bit (X s i : Nat) (hi : i < 8 * s) : X % 2 ^ (8 * s) / 2 ^ i % 2 = X / 2 ^ i % 2 := by
  rw [bit_dm, bit_dm, Nat.testBit_mod_two_pow]; simp [hi]
end Go.Proofs.YtinjpobepcenfaaDoor
