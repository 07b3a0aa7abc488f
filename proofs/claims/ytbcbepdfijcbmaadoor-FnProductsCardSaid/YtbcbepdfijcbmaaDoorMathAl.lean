/-
  Plain facts on sums, differences and shifts of numbers of w bits and on their flags; conditions: those in each head.
-/
import Derived.Test.YtbcbepdfijcbmaaDoorMathFl
import Derived.Laws.Bits64b
import Derived.Lib.BitFns
namespace Go.Proofs.YtbcbepdfijcbmaaDoor
open Go.RowKit
set_option linter.unusedVariables false
theorem wrapUk (k : IntKind) (hk : k.signed = false) (n : Int) : k.wrap n = n % 2 ^ k.bits := by unfold IntKind.wrap; simp [hk]
theorem wU8 (n : Int) : IntKind.u8.wrap n = n % 256 := wrapUk _ rfl n
theorem wU16 (n : Int) : IntKind.u16.wrap n = n % 65536 := wrapUk _ rfl n
theorem wU32 (n : Int) : IntKind.u32.wrap n = n % 4294967296 := wrapUk _ rfl n
theorem wU64 (n : Int) : IntKind.u64.wrap n = n % 18446744073709551616 := wrapUk _ rfl n
theorem bits_bd (op : BinOp) (k : IntKind) (hk : k.signed = false) (x y : Int) : 0 ≤ bits op k x y ∧ bits op k x y < 2 ^ k.bits := by
  unfold bits
  simp only
  rw [wrapUk k hk]
  have : (0 : Int) < 2 ^ k.bits := Int.pow_pos (by decide)
  exact ⟨Int.emod_nonneg _ (by omega), Int.emod_lt_of_pos _ this⟩
theorem natB {k : IntKind} {A : Nat} (hA : A < 2 ^ k.bits) : (BitVec.ofInt k.bits (A : Int)).toNat = A := by
  rw [BitVec.ofInt_natCast, BitVec.toNat_ofNat]; exact Nat.mod_eq_of_lt hA
theorem castM {k : IntKind} (hk : k.signed = false) {n : Nat} (h : n < 2 ^ k.bits) : k.wrap (n : Int) = (n : Int) := by
  rw [wrapUk k hk]
  have : ((2 : Int) ^ k.bits) = ((2 ^ k.bits : Nat) : Int) := by simp
  rw [this, Int.emod_eq_of_lt (by omega) (by omega)]
theorem bAnd {k : IntKind} (hk : k.signed = false) {A B : Nat} (hA : A < 2 ^ k.bits) (hB : B < 2 ^ k.bits) : bits .and k (A : Int) (B : Int) = ((A &&& B : Nat) : Int) := by
  unfold bits; simp only
  rw [BitVec.toNat_and, natB hA, natB hB, castM hk (Nat.and_lt_two_pow _ hB)]
theorem bOr {k : IntKind} (hk : k.signed = false) {A B : Nat} (hA : A < 2 ^ k.bits) (hB : B < 2 ^ k.bits) : bits .or k (A : Int) (B : Int) = ((A ||| B : Nat) : Int) := by
  unfold bits; simp only
  rw [BitVec.toNat_or, natB hA, natB hB, castM hk (Nat.or_lt_two_pow hA hB)]
theorem bXor {k : IntKind} (hk : k.signed = false) {A B : Nat} (hA : A < 2 ^ k.bits) (hB : B < 2 ^ k.bits) : bits .xor k (A : Int) (B : Int) = ((A ^^^ B : Nat) : Int) := by
  unfold bits; simp only
  rw [BitVec.toNat_xor, natB hA, natB hB, castM hk (Nat.xor_lt_two_pow hA hB)]
theorem bAndNot {k : IntKind} (hk : k.signed = false) {A B : Nat} (hA : A < 2 ^ k.bits) (hB : B < 2 ^ k.bits) : bits .andNot k (A : Int) (B : Int) = ((A &&& (2 ^ k.bits - 1 - B) : Nat) : Int) := by
  unfold bits; simp only
  rw [BitVec.toNat_and, BitVec.toNat_not, natB hA, natB hB, castM hk (Nat.and_lt_two_pow _ (by omega))]
theorem bNot {k : IntKind} (hk : k.signed = false) {A : Nat} (hA : A < 2 ^ k.bits) : bits .xor k k.max (A : Int) = ((2 ^ k.bits - 1 - A : Nat) : Int) := by
  have hm : k.max = ((2 ^ k.bits - 1 : Nat) : Int) := by
    have := Nat.two_pow_pos k.bits
    unfold IntKind.max; rw [if_neg (by simp [hk]), Int.ofNat_sub (by omega)]; simp
  have := Nat.two_pow_pos k.bits
  rw [hm, bXor hk (by omega) hA]
  congr 1
  apply Nat.eq_of_testBit_eq
  intro i
  have e : 2 ^ k.bits - 1 - A = 2 ^ k.bits - (A + 1) := by omega
  rw [Nat.testBit_xor, Nat.testBit_two_pow_sub_one, e, Nat.testBit_two_pow_sub_succ hA]
  by_cases h : i < k.bits
  · simp [h]
  · have : A.testBit i = false := Nat.testBit_lt_two_pow (Nat.lt_of_lt_of_le hA (Nat.pow_le_pow_right (by decide) (by omega)))
    simp [h, this]
def parN (X : Nat) : Bool := Lib.onesCount (X % 256) % 2 == 0
def szp (w X : Nat) : Int := flV false (parN X) (X == 0) (decide (2 ^ (w - 1) ≤ X)) false
def sumN (w A B c : Nat) : Nat := (A + B + c) % 2 ^ w
def sumF (w A B c : Nat) : Int := flV (decide (cryN A B c w = 1)) (parN (sumN w A B c)) (sumN w A B c == 0) (decide (2 ^ (w - 1) ≤ sumN w A B c)) (decide (cryN A B c w ≠ cryN A B c (w - 1)))
def difN (w A B c : Nat) : Nat := 2 ^ w - 1 - ((2 ^ w - 1 - A) + B + c) % 2 ^ w
def difF (w A B c : Nat) : Int := flV (decide (cryN (2 ^ w - 1 - A) B c w = 1)) (parN (difN w A B c)) (difN w A B c == 0) (decide (2 ^ (w - 1) ≤ difN w A B c)) (decide (cryN (2 ^ w - 1 - A) B c w ≠ cryN (2 ^ w - 1 - A) B c (w - 1)))
def carN (w A B c : Nat) : Nat := (A &&& B) ||| ((A ||| B) &&& (2 ^ w - 1 - (A + B + c) % 2 ^ w))
theorem sumN_lt (w A B c : Nat) : sumN w A B c < 2 ^ w := Nat.mod_lt _ (Nat.two_pow_pos w)
theorem difN_lt (w A B c : Nat) : difN w A B c < 2 ^ w := by have := Nat.two_pow_pos w; unfold difN; omega
theorem difN_int {w A B c : Nat} (hA : A < 2 ^ w) : ((difN w A B c : Nat) : Int) = ((A : Int) - B - c) % 2 ^ w := by
  have h := sub_eq (A := A) (B := B) (c := c) hA
  have hp : (0 : Int) < 2 ^ w := Int.pow_pos (by decide)
  have := Int.emod_nonneg ((A : Int) - B - c) (b := 2 ^ w) (by omega)
  unfold difN
  omega
theorem carN_lt {w A B c : Nat} (hA : A < 2 ^ w) (hB : B < 2 ^ w) : carN w A B c < 2 ^ w :=
  Nat.or_lt_two_pow (Nat.and_lt_two_pow _ hB) (Nat.and_lt_two_pow _ (by have := Nat.two_pow_pos w; omega))
theorem dbl_bit (X w : Nat) (hw : 2 ≤ w) : (X * 2 % 2 ^ w) / 2 ^ (w - 1) % 2 = X / 2 ^ (w - 2) % 2 := by
  rw [bit_mod (by omega)]
  have e : w - 1 = (w - 2) + 1 := by omega
  rw [e, Nat.pow_succ, Nat.mul_div_mul_right _ _ (by decide)]
theorem car_hi {w A B c : Nat} (hw : 2 ≤ w) (hA : A < 2 ^ w) (hB : B < 2 ^ w) (hc : c ≤ 1) : (2 ^ (w - 1) ≤ carN w A B c) ↔ cryN A B c w = 1 := by
  rw [hi_iff (by omega) (carN_lt hA hB)]
  have h := word_bit (A := A) (B := B) (c := c) (k := w - 1) (w := w) (by omega) hc
  rw [show w - 1 + 1 = w by omega] at h
  unfold carN
  rw [h]
theorem car_lo {w A B c : Nat} (hw : 2 ≤ w) (hA : A < 2 ^ w) (hB : B < 2 ^ w) (hc : c ≤ 1) : (2 ^ (w - 1) ≤ carN w A B c * 2 % 2 ^ w) ↔ cryN A B c (w - 1) = 1 := by
  rw [hi_iff (by omega) (Nat.mod_lt _ (Nat.two_pow_pos w)), dbl_bit _ _ hw]
  have h := word_bit (A := A) (B := B) (c := c) (k := w - 2) (w := w) (by omega) hc
  rw [show w - 2 + 1 = w - 1 by omega] at h
  unfold carN
  rw [h]
theorem ne_bit {a b : Nat} (ha : a ≤ 1) (hb : b ≤ 1) : (decide (a = 1) != decide (b = 1)) = decide (a ≠ b) := by
  rcases (by omega : a = 0 ∨ a = 1) with rfl | rfl <;> rcases (by omega : b = 0 ∨ b = 1) with rfl | rfl <;> decide
/-- what 'summed' answers of a number and of a word of carries -/
def smd (h x c c2 : Int) : Int := flV (decide (h ≤ c)) (parN x.toNat) (x == 0) (decide (h ≤ x)) (decide (h ≤ c) != decide (h ≤ c2))
theorem smd_eq {w S C : Nat} {h x c c2 : Int} (hh : h = ((2 ^ (w - 1) : Nat) : Int)) (hx : x = (S : Int)) (hc : c = (C : Int)) (hc2 : c2 = ((C * 2 % 2 ^ w : Nat) : Int)) :
    smd h x c c2 = flV (decide (2 ^ (w - 1) ≤ C)) (parN S) (S == 0) (decide (2 ^ (w - 1) ≤ S)) (decide (2 ^ (w - 1) ≤ C) != decide (2 ^ (w - 1) ≤ C * 2 % 2 ^ w)) := by
  subst hh hx hc hc2
  unfold smd
  have e : ((S : Int) == 0) = (S == 0) := by
    by_cases h : S = 0
    · subst h; rfl
    · rw [beq_eq_false_iff_ne.mpr h, beq_eq_false_iff_ne.mpr (by omega)]
  rw [e, decide_eq_decide.mpr Int.ofNat_le, decide_eq_decide.mpr Int.ofNat_le, decide_eq_decide.mpr Int.ofNat_le]
  rfl
theorem dbl_cast {w C : Nat} {y z : Int} (hy : y = (C : Int)) (hz : z = y * 2 % ((2 ^ w : Nat) : Int)) : z = ((C * 2 % 2 ^ w : Nat) : Int) := by
  subst hy; rw [hz, Int.natCast_emod, Int.natCast_mul]; rfl
theorem sum_fin {w A B c : Nat} {h x y z : Int} (hw : 2 ≤ w) (hA : A < 2 ^ w) (hB : B < 2 ^ w) (hc : c ≤ 1) (hh : h = ((2 ^ (w - 1) : Nat) : Int)) (hx : x = ((sumN w A B c : Nat) : Int)) (hy : y = ((carN w A B c : Nat) : Int)) (hz : z = y * 2 % ((2 ^ w : Nat) : Int)) : smd h x y z = sumF w A B c := by
  rw [smd_eq hh hx hy (dbl_cast hy hz), decide_eq_decide.mpr (car_hi hw hA hB hc), decide_eq_decide.mpr (car_lo hw hA hB hc), ne_bit (cry_le hc) (cry_le hc)]
  rfl
theorem dif_fin {w A B c : Nat} {h x y z : Int} (hw : 2 ≤ w) (hA : A < 2 ^ w) (hB : B < 2 ^ w) (hc : c ≤ 1) (hh : h = ((2 ^ (w - 1) : Nat) : Int)) (hx : x = ((difN w A B c : Nat) : Int)) (hy : y = ((carN w (2 ^ w - 1 - A) B c : Nat) : Int)) (hz : z = y * 2 % ((2 ^ w : Nat) : Int)) : smd h x y z = difF w A B c := by
  have hA' : 2 ^ w - 1 - A < 2 ^ w := by omega
  rw [smd_eq hh hx hy (dbl_cast hy hz), decide_eq_decide.mpr (car_hi hw hA' hB hc), decide_eq_decide.mpr (car_lo hw hA' hB hc), ne_bit (cry_le hc) (cry_le hc)]
  rfl
theorem car_y {k : IntKind} (hk : k.signed = false) {A B c : Nat} {s : Int} (hA : A < 2 ^ k.bits) (hB : B < 2 ^ k.bits) (hs : s = (((A + B + c) % 2 ^ k.bits : Nat) : Int)) : bits .or k (bits .and k (A : Int) (B : Int)) (bits .andNot k (bits .or k (A : Int) (B : Int)) s) = ((carN k.bits A B c : Nat) : Int) := by
  have hm : (A + B + c) % 2 ^ k.bits < 2 ^ k.bits := Nat.mod_lt _ (Nat.two_pow_pos _)
  rw [hs, bAnd hk hA hB, bOr hk hA hB, bAndNot hk (Nat.or_lt_two_pow hA hB) hm, bOr hk (Nat.and_lt_two_pow _ hB) (Nat.and_lt_two_pow _ (by omega))]
  rfl
theorem car_m {k : IntKind} (hk : k.signed = false) {A B c : Nat} {s : Int} (hA : A < 2 ^ k.bits) (hB : B < 2 ^ k.bits) (hs : s = ((difN k.bits A B c : Nat) : Int)) : bits .or k (bits .and k (bits .xor k k.max (A : Int)) (B : Int)) (bits .and k (bits .or k (bits .xor k k.max (A : Int)) (B : Int)) s) = ((carN k.bits (2 ^ k.bits - 1 - A) B c : Nat) : Int) := by
  have hA' : 2 ^ k.bits - 1 - A < 2 ^ k.bits := by omega
  have hm := difN_lt k.bits A B c
  rw [hs, bNot hk hA, bAnd hk hA' hB, bOr hk hA' hB, bAnd hk (Nat.or_lt_two_pow hA' hB) hm, bOr hk (Nat.and_lt_two_pow _ hB) (Nat.and_lt_two_pow _ hm)]
  rfl
/-- the flags of a sum of three bits each -/
theorem or3 (p z s : Bool) : bits .or .i64 (bits .or .i64 (bif s then 128 else 0) (bif z then 64 else 0)) (bif p then 4 else 0) = flV false p z s false := by revert p z s; decide +kernel
theorem or5 (c p z s o : Bool) (f : Int) (hf : f = flV false p z s false ∨ ∃ c' o', f = flV c' p z s o') : bits .or .i64 (bits .or .i64 (bits .andNot .i64 f 2049) (bif c then 1 else 0)) (bif o then 2048 else 0) = flV c p z s o := by
  have : ∃ c' o', f = flV c' p z s o' := by
    rcases hf with h | h
    · exact ⟨false, false, h⟩
    · exact h
  obtain ⟨c', o', rfl⟩ := this
  revert c p z s o c' o'; decide +kernel
theorem keepC (c p z s o c' p' z' s' o' : Bool) : bits .or .i64 (bits .andNot .i64 (flV c p z s o) 1) (bits .and .i64 (flV c' p' z' s' o') 1) = flV c' p z s o := by revert c p z s o c' p' z' s' o'; decide +kernel
/-- one shift: the number, what goes out, the overflow -/
def hiB (w X : Nat) : Bool := decide (2 ^ (w - 1) ≤ X)
def odB (X : Nat) : Bool := X % 2 == 1
def shlN (w X : Nat) : Nat := X * 2 % 2 ^ w
def rolN (w X : Nat) : Nat := X * 2 % 2 ^ w + (bif hiB w X then 1 else 0)
def rorN (w X : Nat) : Nat := X / 2 + (bif odB X then 2 ^ (w - 1) else 0)
def sarN (w X : Nat) : Nat := X / 2 + (bif hiB w X then 2 ^ (w - 1) else 0)
def shF (w N : Nat) (c o : Bool) : Int := flV c (parN N) (N == 0) (hiB w N) o
theorem two_half {w : Nat} (hw : 1 ≤ w) : 2 ^ w = 2 * 2 ^ (w - 1) := by
  conv => lhs; rw [show w = (w - 1) + 1 by omega, Nat.pow_succ]
  omega
theorem half_lt {w X : Nat} (hw : 1 ≤ w) (h : X < 2 ^ w) : X / 2 < 2 ^ (w - 1) := by rw [two_half hw] at h; omega
theorem shlN_lt (w X : Nat) : shlN w X < 2 ^ w := Nat.mod_lt _ (Nat.two_pow_pos w)
theorem dbl_even {w : Nat} (hw : 1 ≤ w) (X : Nat) : X * 2 % 2 ^ w % 2 = 0 := by
  rw [two_half hw, Nat.mul_comm X 2, Nat.mul_mod_mul_left]; omega
theorem rolN_lt {w : Nat} (hw : 1 ≤ w) (X : Nat) : rolN w X < 2 ^ w := by
  have h1 := dbl_even hw X
  have h2 : X * 2 % 2 ^ w < 2 ^ w := Nat.mod_lt _ (Nat.two_pow_pos w)
  have h3 := two_half hw
  unfold rolN
  cases hiB w X <;> simp only [cond_true, cond_false] <;> omega
theorem rorN_lt {w X : Nat} (hw : 1 ≤ w) (h : X < 2 ^ w) : rorN w X < 2 ^ w := by
  have h1 := half_lt hw h; have h2 := two_half hw
  unfold rorN; cases odB X <;> simp only [cond_true, cond_false] <;> omega
theorem sarN_lt {w X : Nat} (hw : 1 ≤ w) (h : X < 2 ^ w) : sarN w X < 2 ^ w := by
  have h1 := half_lt hw h; have h2 := two_half hw
  unfold sarN; cases hiB w X <;> simp only [cond_true, cond_false] <;> omega
theorem or_one {Y : Nat} (h : Y % 2 = 0) : Y ||| 1 = Y + 1 := by
  have := Nat.two_pow_add_eq_or_of_lt (i := 1) (b := 1) (by decide) (Y / 2)
  rw [show 2 ^ 1 * (Y / 2) = Y by omega] at this
  exact this.symm
theorem or_top {m Y : Nat} (h : Y < 2 ^ m) : Y ||| 2 ^ m = Y + 2 ^ m := by
  have := Nat.two_pow_add_eq_or_of_lt h 1
  rw [Nat.mul_one] at this
  rw [Nat.or_comm, ← this]; omega
theorem and_top {w X : Nat} (hw : 1 ≤ w) (h : X < 2 ^ w) : X &&& 2 ^ (w - 1) = bif hiB w X then 2 ^ (w - 1) else 0 := by
  rw [and_pow, tb_iff]
  unfold hiB
  by_cases c : 2 ^ (w - 1) ≤ X
  · rw [decide_eq_true c, if_pos (decide_eq_true ((hi_iff hw h).1 c))]; rfl
  · rw [decide_eq_false c, if_neg (fun e => c ((hi_iff hw h).2 (of_decide_eq_true e)))]; rfl
theorem or_zero' (Y : Nat) : Y ||| 0 = Y := Nat.or_zero Y
end Go.Proofs.YtbcbepdfijcbmaaDoor
