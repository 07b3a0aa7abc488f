/-
  Plain facts on bytes of a text, the lowest one first: the number that they are, byte by byte from either end; conditions: at most 8 bytes.
  Plain facts on bits: the number that the lowest bytes are, with a sign and without it, read bit by bit; conditions: sizes of 1 to 8 bytes, numbers below 2^64.
-/
import Derived.WalkKit
namespace Go.Proofs.YtbkgmpkednkbcaaGreatDoor
open Go.RowKit
def nb (s : ByteArray) (i : Nat) : Nat := if h : i < s.size then s[i].toNat else 0
theorem nb_at (s : ByteArray) (i : Nat) (h : i < s.size) : s[i].toNat = nb s i := by simp [nb, h]
theorem nb_lt (s : ByteArray) (i : Nat) : nb s i < 256 := by
  unfold nb; split
  · exact UInt8.toNat_lt _
  · omega
def takeN (s : ByteArray) (a : Nat) : Nat → Nat
  | 0 => 0
  | k + 1 => takeN s a k + nb s (a + k) * 2 ^ (8 * k)
theorem pow8 (k : Nat) : 2 ^ (8 * (k + 1)) = 256 * 2 ^ (8 * k) := by
  rw [show 8 * (k + 1) = 8 + 8 * k from by omega, Nat.pow_add]
theorem takeN_lt (s : ByteArray) (a : Nat) : ∀ k, takeN s a k < 2 ^ (8 * k)
  | 0 => by simp [takeN]
  | k + 1 => by
    have h1 := takeN_lt s a k
    have h2 := nb_lt s (a + k)
    have h3 : nb s (a + k) * 2 ^ (8 * k) ≤ 255 * 2 ^ (8 * k) := Nat.mul_le_mul_right _ (by omega)
    rw [pow8]; simp only [takeN]; omega
theorem takeN_byte (s : ByteArray) (a : Nat) : ∀ n k, k < n → takeN s a n / 2 ^ (8 * k) % 256 = nb s (a + k)
  | 0, k, h => by omega
  | n + 1, k, h => by
    have hp : 0 < 2 ^ (8 * k) := Nat.pow_pos (by decide)
    by_cases e : k = n
    · subst e
      simp only [takeN]
      rw [Nat.add_mul_div_right _ _ hp, Nat.div_eq_of_lt (takeN_lt s a k), Nat.zero_add, Nat.mod_eq_of_lt (nb_lt s (a + k))]
    · have ih := takeN_byte s a n k (by omega)
      simp only [takeN]
      have e2 : nb s (a + n) * 2 ^ (8 * n) = (nb s (a + n) * 2 ^ (8 * (n - k - 1)) * 256) * 2 ^ (8 * k) := by
        rw [Nat.mul_assoc, Nat.mul_assoc, show 256 * 2 ^ (8 * k) = 2 ^ (8 * (k + 1)) from (pow8 k).symm, ← Nat.pow_add, show 8 * (n - k - 1) + 8 * (k + 1) = 8 * n from by omega]
      rw [e2, Nat.add_mul_div_right _ _ hp, ← ih]
      omega
theorem takeN_step (s : ByteArray) (a n k : Nat) (h : k < n) : 256 * (takeN s a n / 2 ^ (8 * (k + 1))) + nb s (a + k) = takeN s a n / 2 ^ (8 * k) := by
  have h1 := takeN_byte s a n k h
  have e : takeN s a n / 2 ^ (8 * (k + 1)) = takeN s a n / 2 ^ (8 * k) / 256 := by rw [pow8, Nat.mul_comm, Nat.div_div_eq_div_mul]
  rw [e, ← h1]; omega
theorem lt64 {x k : Nat} (h : x < 2 ^ (8 * k)) (hk : k ≤ 8) : x < 18446744073709551616 := by
  have : 2 ^ (8 * k) ≤ 2 ^ 64 := Nat.pow_le_pow_right (by decide) (by omega)
  have e : (2 ^ 64 : Nat) = 18446744073709551616 := by decide
  omega
theorem or64 (a b : Nat) (ha : a < 18446744073709551616) (hb : b < 18446744073709551616) : bits .or .i64 (wrap64 (a : Int)) (wrap64 (b : Int)) = wrap64 ((a ||| b : Nat) : Int) := by
  have hx : ∀ a : Nat, a < 18446744073709551616 → (BitVec.ofInt 64 (wrap64 (a : Int))).toNat = a := fun a h => by
    rw [BitVec.toNat_ofInt]; unfold wrap64
    have e : ((2 ^ 64 : Nat) : Int) = 18446744073709551616 := by decide
    rw [e]; omega
  show IntKind.i64.wrap ((BitVec.ofInt 64 (wrap64 (a : Int)) ||| BitVec.ofInt 64 (wrap64 (b : Int))).toNat : Int) = _
  rw [BitVec.toNat_or, hx a ha, hx b hb, IntWalk.i64_left]
theorem or_step (s : ByteArray) (a k : Nat) (hk : k < 8) : bits .or .i64 (wrap64 (takeN s a k : Int)) (wrap64 ((nb s (a + k) : Int) * 2 ^ (8 * k))) = wrap64 (takeN s a (k + 1) : Int) := by
  have h1 := takeN_lt s a k
  have h2 := takeN_lt s a (k + 1)
  have e0 : ((nb s (a + k) : Int) * 2 ^ (8 * k)) = ((nb s (a + k) * 2 ^ (8 * k) : Nat) : Int) := by simp
  have h3 : nb s (a + k) * 2 ^ (8 * k) ≤ takeN s a (k + 1) := by simp only [takeN]; omega
  rw [e0, or64 _ _ (lt64 h1 (by omega)) (by have := lt64 h2 (by omega); omega)]
  congr 2
  have := Nat.two_pow_add_eq_or_of_lt h1 (nb s (a + k))
  rw [Nat.or_comm, Nat.mul_comm, ← this]
  simp only [takeN]; rw [Nat.mul_comm]; omega
end Go.Proofs.YtbkgmpkednkbcaaGreatDoor
namespace Go.Proofs.YtbkgmpkednkbcaaGreatDoor
open Go.RowKit
/-- the 64 bits of the lowest s bytes of X as a number with a sign -/
def sgnU (X s : Nat) : Nat := ((BitVec.ofNat (8 * s) X).signExtend 64).toNat
theorem bit_dm (x i : Nat) : x / 2 ^ i % 2 = (x.testBit i).toNat := by
  rw [Nat.testBit_eq_decide_div_mod_eq]
  rcases Nat.mod_two_eq_zero_or_one (x / 2 ^ i) with h | h <;> simp [h]
theorem sgnU_bit (X s i : Nat) (hs : 1 ≤ s) (hs8 : s ≤ 8) (hi : i < 64) : sgnU X s / 2 ^ i % 2 = X / 2 ^ (min i (8 * s - 1)) % 2 := by
  rw [bit_dm, bit_dm]
  congr 1
  unfold sgnU
  rw [← BitVec.getLsbD, BitVec.getLsbD_signExtend]
  by_cases h : i < 8 * s
  · rw [Nat.min_eq_left (by omega)]
    rw [if_pos h, BitVec.getLsbD_ofNat]; simp [hi, h]
  · rw [Nat.min_eq_right (by omega)]
    rw [if_neg h, BitVec.msb_eq_getLsbD_last, BitVec.getLsbD_ofNat]; simp [hi]; omega
theorem sgnU_lt (X s : Nat) : sgnU X s < 18446744073709551616 := (((BitVec.ofNat (8 * s) X).signExtend 64)).isLt
theorem half_step (U k : Nat) (hk : 1 ≤ k) : U / 2 ^ (k - 1) = 2 * (U / 2 ^ k) + U / 2 ^ (k - 1) % 2 := by
  obtain ⟨j, rfl⟩ : ∃ j, k = j + 1 := ⟨k - 1, by omega⟩
  have e : U / 2 ^ (j + 1) = U / 2 ^ j / 2 := by rw [Nat.pow_succ, Nat.div_div_eq_div_mul]
  simp only [Nat.add_sub_cancel]
  rw [e]; omega
theorem sgn_int (X s : Nat) (hs8 : s ≤ 8) : wrap64 (sgnU X s : Int) = (X : Int).bmod (2 ^ (8 * s)) := by
  have h : ((BitVec.ofNat (8 * s) X).signExtend 64).toInt = (BitVec.ofNat (8 * s) X).toInt := BitVec.toInt_signExtend_of_le (by omega)
  have h2 : (BitVec.ofNat (8 * s) X).toInt = (X : Int).bmod (2 ^ (8 * s)) := by
    rw [BitVec.toInt_eq_toNat_bmod, BitVec.toNat_ofNat, Int.natCast_emod]
    exact Int.emod_bmod ..
  rw [h2] at h
  rw [← h, BitVec.toInt_eq_toNat_bmod]
  have hl := sgnU_lt X s
  unfold sgnU at *
  generalize ((BitVec.ofNat (8 * s) X).signExtend 64).toNat = U at *
  have e2 : (2 ^ 64 : Nat) = 18446744073709551616 := by decide
  rw [e2, Int.bmod_def]
  unfold wrap64
  split <;> omega
/-- the lowest s bytes of X as a number without a sign -/
theorem zer_bit (X s i : Nat) (hi : i < 8 * s) : X % 2 ^ (8 * s) / 2 ^ i % 2 = X / 2 ^ i % 2 := by
  rw [bit_dm, bit_dm, Nat.testBit_mod_two_pow]; simp [hi]
end Go.Proofs.YtbkgmpkednkbcaaGreatDoor
