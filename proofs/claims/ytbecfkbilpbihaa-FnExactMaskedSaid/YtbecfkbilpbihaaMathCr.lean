/-
  Numbers of which some bytes are set: what masks tell of them; no program.
-/
import Derived.Test.YtbecfkbilpbihaaMathCs
namespace Go.Proofs.Ytbecfkbilpbihaa
open Go Go.RowKit
set_option linter.unusedVariables false
theorem w64_uc (x : Int) : wrap64 (IntKind.u64.wrap x) = wrap64 x := by rw [wrapUc]; unfold wrap64; omega
theorem andNotI (x : Int) (X : Nat) (hX : IntKind.u64.wrap x = (X : Int)) (m : Nat) (hm : m < 18446744073709551616) : bits .andNot .i64 x (m : Int) = wrap64 ((X &&& (18446744073709551615 - m) : Nat) : Int) := by
  have hXl : X < 18446744073709551616 := by rw [wrapUc] at hX; omega
  have h1 := andNotU x (m : Int)
  rw [hX, u64_andNot_nat X m hXl hm] at h1
  rw [h1, w64_uc]
  have : bits .andNot .i64 x (m : Int) = wrap64 ((BitVec.ofInt 64 x &&& ~~~ BitVec.ofInt 64 (m : Int)).toNat : Int) := by
    show IntKind.i64.wrap _ = _
    rw [IntWalk.i64_left]; rfl
  rw [this]; unfold wrap64; omega
theorem andI (x : Int) (X : Nat) (hX : IntKind.u64.wrap x = (X : Int)) (m : Nat) (hm : m < 18446744073709551616) : bits .and .i64 x (m : Int) = wrap64 ((X &&& m : Nat) : Int) := by
  have hXl : X < 18446744073709551616 := by rw [wrapUc] at hX; omega
  have e : (BitVec.ofInt 64 x) = BitVec.ofNat 64 X := by rw [← ofU x, hX]; simp
  show IntKind.i64.wrap ((BitVec.ofInt 64 x &&& BitVec.ofInt 64 (m : Int)).toNat : Int) = _
  rw [IntWalk.i64_left, e, BitVec.toNat_and, BitVec.toNat_ofNat, BitVec.ofInt_natCast, BitVec.toNat_ofNat, Nat.mod_eq_of_lt (show X < 2 ^ 64 from hXl), Nat.mod_eq_of_lt (show m < 2 ^ 64 from hm)]
theorem and65280 (X : Nat) : X &&& 65280 = X / 256 % 256 * 256 := by
  rw [show 65280 = (2 ^ 8 - 1) * 2 ^ 8 from rfl, show X / 256 % 256 * 256 = X / 2 ^ 8 % 2 ^ 8 * 2 ^ 8 from rfl]
  apply Nat.eq_of_testBit_eq
  intro i
  rw [Nat.testBit_and, Nat.testBit_mul_two_pow, Nat.testBit_mul_two_pow, Nat.testBit_two_pow_sub_one, Nat.testBit_mod_two_pow, Nat.testBit_div_two_pow]
  by_cases h : 8 ≤ i
  · rw [show i - 8 + 8 = i by omega]
    by_cases h2 : i - 8 < 8 <;> simp [h, h2]
  · simp [h]
theorem orParts (a b c : Nat) (hb : b < 256) (hc : c < 256) : (a * 65536 + c) ||| (b * 256) = a * 65536 + (b * 256 + c) := by
  have h1 := Nat.two_pow_add_eq_or_of_lt (i := 16) (b := c) (by omega) a
  have h2 := Nat.two_pow_add_eq_or_of_lt (i := 8) (b := c) (by omega) b
  have h3 := Nat.two_pow_add_eq_or_of_lt (i := 16) (b := b * 256 + c) (by omega) a
  rw [show a * 65536 + c = 2 ^ 16 * a + c by omega, h1, Nat.or_assoc, Nat.or_comm c, show b * 256 = 2 ^ 8 * b by omega, ← h2, show a * 65536 + (2 ^ 8 * b + c) = 2 ^ 16 * a + (b * 256 + c) by omega, h3]
  congr 1; omega
theorem not65280 (X : Nat) (hX : X < 18446744073709551616) : X &&& (18446744073709551615 - 65280) = X / 65536 * 65536 + X % 256 := by
  have e : 18446744073709551615 - 65280 = (18446744073709551615 - (2 ^ 16 - 1)) ||| 255 := by decide
  rw [e, Nat.and_or_distrib_left, maskNat 16 (by decide) X hX, show (255 : Nat) = 2 ^ 8 - 1 from rfl, Nat.and_two_pow_sub_one_eq_mod]
  have := Nat.two_pow_add_eq_or_of_lt (i := 16) (b := X % 2 ^ 8) (by omega) (X / 2 ^ 16)
  rw [Nat.mul_comm] at this
  rw [← this]
theorem uw_c {x : Int} (h0 : 0 ≤ x) (h1 : x < 18446744073709551616) : IntKind.u64.wrap (wrap64 x) = x := by rw [wrapUc]; unfold wrap64; omega
theorem w64_sm {x : Int} (h0 : 0 ≤ x) (h1 : x < 4294967296) : wrap64 x = x := by unfold wrap64; omega
theorem w64_mid (Y : Nat) (h : Y < 18446744073709551616) : wrap64 (Y : Int) / 256 % 256 = ((Y / 256 % 256 : Nat) : Int) := by unfold wrap64; omega
/-- a byte, or two, is set -/
def lowY (K old v : Int) : Int := wrap64 (old + wrap64 (v % K - old % K))
theorem lowU1 (old v : Int) (X : Nat) (hX : IntKind.u64.wrap old = (X : Int)) : ∃ Y : Nat, IntKind.u64.wrap (lowY 256 old v) = (Y : Int) ∧ Y / 256 = X / 256 ∧ ((Y % 256 : Nat) : Int) = v % 256 := by
  refine ⟨(X / 256 * 256 + (v % 256).toNat), ?_, by omega, by omega⟩
  rw [wrapUc] at *; unfold lowY wrap64; omega
theorem lowU2 (old v : Int) (X : Nat) (hX : IntKind.u64.wrap old = (X : Int)) : ∃ Y : Nat, IntKind.u64.wrap (lowY 65536 old v) = (Y : Int) ∧ Y / 65536 = X / 65536 ∧ ((Y % 65536 : Nat) : Int) = v % 65536 := by
  refine ⟨(X / 65536 * 65536 + (v % 65536).toNat), ?_, by omega, by omega⟩
  rw [wrapUc] at *; unfold lowY wrap64; omega
theorem low_facts1 (old v : Int) : lowY 256 old v % 256 = v % 256 ∧ bits .andNot .i64 (lowY 256 old v) 255 = bits .andNot .i64 old 255 ∧ bits .and .i64 (lowY 256 old v) 255 = v % 256 := by
  obtain ⟨X, hX⟩ : ∃ X : Nat, IntKind.u64.wrap old = (X : Int) := Int.eq_ofNat_of_zero_le (by rw [wrapUc]; omega)
  obtain ⟨Y, hY, h1, h2⟩ := lowU1 old v X hX
  have hXl : X < 18446744073709551616 := by rw [wrapUc] at hX; omega
  have hYl : Y < 18446744073709551616 := by rw [wrapUc] at hY; omega
  refine ⟨?_, ?_, ?_⟩
  · rw [wrapUc] at hY; omega
  · have a := andNotI _ Y hY 255 (by decide)
    have b := andNotI _ X hX 255 (by decide)
    have ea : Y &&& (18446744073709551615 - 255) = Y / 256 * 256 := maskNat 8 (by decide) _ hYl
    have eb : X &&& (18446744073709551615 - 255) = X / 256 * 256 := maskNat 8 (by decide) _ hXl
    rw [ea] at a
    rw [eb] at b
    have a' : bits .andNot .i64 (lowY 256 old v) 255 = wrap64 ((Y / 256 * 256 : Nat) : Int) := a
    have b' : bits .andNot .i64 old 255 = wrap64 ((X / 256 * 256 : Nat) : Int) := b
    rw [a', b', h1]
  · have a := andI _ Y hY 255 (by decide)
    have e : Y &&& 255 = Y % 256 := Nat.and_two_pow_sub_one_eq_mod Y 8
    rw [e] at a
    have a' : bits .and .i64 (lowY 256 old v) 255 = wrap64 ((Y % 256 : Nat) : Int) := a
    rw [a', h2]; unfold wrap64; omega
theorem low_facts2 (old v : Int) : lowY 65536 old v % 65536 = v % 65536 ∧ bits .andNot .i64 (lowY 65536 old v) 65535 = bits .andNot .i64 old 65535 ∧ bits .and .i64 (lowY 65536 old v) 65535 = v % 65536 := by
  obtain ⟨X, hX⟩ : ∃ X : Nat, IntKind.u64.wrap old = (X : Int) := Int.eq_ofNat_of_zero_le (by rw [wrapUc]; omega)
  obtain ⟨Y, hY, h1, h2⟩ := lowU2 old v X hX
  have hXl : X < 18446744073709551616 := by rw [wrapUc] at hX; omega
  have hYl : Y < 18446744073709551616 := by rw [wrapUc] at hY; omega
  refine ⟨?_, ?_, ?_⟩
  · rw [wrapUc] at hY; omega
  · have a := andNotI _ Y hY 65535 (by decide)
    have b := andNotI _ X hX 65535 (by decide)
    have ea : Y &&& (18446744073709551615 - 65535) = Y / 65536 * 65536 := maskNat 16 (by decide) _ hYl
    have eb : X &&& (18446744073709551615 - 65535) = X / 65536 * 65536 := maskNat 16 (by decide) _ hXl
    rw [ea] at a
    rw [eb] at b
    have a' : bits .andNot .i64 (lowY 65536 old v) 65535 = wrap64 ((Y / 65536 * 65536 : Nat) : Int) := a
    have b' : bits .andNot .i64 old 65535 = wrap64 ((X / 65536 * 65536 : Nat) : Int) := b
    rw [a', b', h1]
  · have a := andI _ Y hY 65535 (by decide)
    have e : Y &&& 65535 = Y % 65536 := Nat.and_two_pow_sub_one_eq_mod Y 16
    rw [e] at a
    have a' : bits .and .i64 (lowY 65536 old v) 65535 = wrap64 ((Y % 65536 : Nat) : Int) := a
    rw [a', h2]; unfold wrap64; omega
def hiY (old v : Int) : Int := bits .or .i64 (bits .andNot .i64 old 65280) (wrap64 (v % 256 * 256))
theorem hi_facts (old v : Int) : hiY old v / 256 % 256 = v % 256 ∧ bits .andNot .i64 (hiY old v) 65280 = bits .andNot .i64 old 65280 ∧ bits .and .i64 (hiY old v) 65280 = v % 256 * 256 := by
  obtain ⟨X, hX⟩ : ∃ X : Nat, IntKind.u64.wrap old = (X : Int) := Int.eq_ofNat_of_zero_le (by rw [wrapUc]; omega)
  have hXl : X < 18446744073709551616 := by rw [wrapUc] at hX; omega
  obtain ⟨V, hV⟩ : ∃ V : Nat, v % 256 = (V : Int) := Int.eq_ofNat_of_zero_le (by omega)
  have hVl : V < 256 := by omega
  have ey : hiY old v = wrap64 ((X / 65536 * 65536 + (V * 256 + X % 256) : Nat) : Int) := by
    unfold hiY
    rw [← hiEq, hX, hV]
    have h1 := u64_andNot_nat X 65280 hXl (by decide)
    rw [not65280 X hXl] at h1
    have h2 := bits_or_u64_nat (X / 65536 * 65536 + X % 256) (V * 256) (by omega) (by omega)
    rw [orParts _ _ _ hVl (by omega)] at h2
    rw [show ((65280 : Int)) = ((65280 : Nat) : Int) from rfl, h1, show IntKind.u64.wrap (IntKind.u64.wrap (V : Int) * 256) = ((V * 256 : Nat) : Int) by rw [wrapUc, wrapUc]; omega, h2]
  obtain ⟨Y, hYd⟩ : ∃ Y : Nat, Y = X / 65536 * 65536 + (V * 256 + X % 256) := ⟨_, rfl⟩
  rw [← hYd] at ey
  have hYl : Y < 18446744073709551616 := by omega
  have hY : IntKind.u64.wrap (hiY old v) = (Y : Int) := by rw [ey]; exact uw_c (by omega) (by omega)
  have y1 : Y / 256 % 256 = V := by omega
  have y2 : Y / 65536 * 65536 + Y % 256 = X / 65536 * 65536 + X % 256 := by omega
  have hX' := hX
  clear hYd hX
  refine ⟨?_, ?_, ?_⟩
  · rw [ey, hV, ← y1]; exact w64_mid Y hYl
  · have a := andNotI _ Y hY 65280 (by decide)
    have b := andNotI _ X hX' 65280 (by decide)
    rw [not65280 Y hYl] at a
    rw [not65280 X hXl] at b
    rw [show ((65280 : Int)) = ((65280 : Nat) : Int) from rfl, a, b]
    rw [y2]
  · have a := andI _ Y hY 65280 (by decide)
    rw [and65280] at a
    rw [show ((65280 : Int)) = ((65280 : Nat) : Int) from rfl, a, hV]
    rw [y1]; exact w64_sm (by omega) (by omega)
end Go.Proofs.Ytbecfkbilpbihaa
