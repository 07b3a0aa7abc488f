/-
  Plain facts on flags and on the bits of sums: which numbers are sums of flags, what is carried out of each bit of a sum and of a difference; conditions: those in each head.
  x
  impl.CpuOK and spec.CpuOK tell whether the flags are some; conditions: those in each head.
-/
import Derived.WalkKit
import Derived.Test.YtbkgmpkednkbcaaGreatDoorProg
import Derived.OpenShut
import Derived.WalkSpells
import Derived.WalkLawsBesides
import Derived.Lib.Hide
import Derived.Test.YtbkgmpkednkbcaaGreatDoorWalkCpuT
namespace Go.Proofs.YtbkgmpkednkbcaaGreatDoor
open Go.RowKit
set_option linter.unusedVariables false
def flV (c p z s o : Bool) : Int := (if c then 1 else 0) + (if p then 4 else 0) + (if z then 64 else 0) + (if s then 128 else 0) + (if o then 2048 else 0)
def FlOK (f : Int) : Prop := ∃ c p z s o, f = flV c p z s o
theorem and_pow (X i : Nat) : X &&& 2 ^ i = if X.testBit i then 2 ^ i else 0 := by
  apply Nat.eq_of_testBit_eq
  intro j
  rw [Nat.testBit_and]
  by_cases h : i = j
  · subst h
    rw [Nat.testBit_two_pow_self]
    cases hx : X.testBit i <;> simp
  · rw [Nat.testBit_two_pow_of_ne h]
    cases X.testBit i <;> simp [Nat.testBit_two_pow_of_ne h]
theorem fl_of_and {X : Nat} (h : X = X &&& 2245) : ∃ c p z s o, (X : Int) = flV c p z s o := by
  refine ⟨X.testBit 0, X.testBit 2, X.testBit 6, X.testBit 7, X.testBit 11, ?_⟩
  have e : (2245 : Nat) = 2 ^ 0 ||| (2 ^ 2 ||| (2 ^ 6 ||| (2 ^ 7 ||| 2 ^ 11))) := by decide
  rw [e, Nat.and_or_distrib_left, Nat.and_or_distrib_left, Nat.and_or_distrib_left, Nat.and_or_distrib_left, and_pow, and_pow, and_pow, and_pow, and_pow] at h
  generalize X.testBit 0 = a at *
  generalize X.testBit 2 = b at *
  generalize X.testBit 6 = c at *
  generalize X.testBit 7 = d at *
  generalize X.testBit 11 = e at *
  rw [h]
  clear h
  revert a b c d e
  decide
theorem toNat_ofInt64 (f : Int) : ((BitVec.ofInt 64 f).toNat : Int) = f % 18446744073709551616 := by
  rw [BitVec.toNat_ofInt]; omega
theorem flI_of {f : Int} (h1 : -9223372036854775808 ≤ f) (h2 : f ≤ 9223372036854775807) (h : BitVec.ofInt 64 f &&& ~~~ (BitVec.ofInt 64 2245) = 0#64) : FlOK f := by
  have e : BitVec.ofInt 64 f = BitVec.ofInt 64 f &&& BitVec.ofInt 64 2245 := by
    apply BitVec.eq_of_getLsbD_eq
    intro i hi
    have := congrArg (fun x => x.getLsbD i) h
    simp only [BitVec.getLsbD_and, BitVec.getLsbD_not, hi, decide_true, Bool.true_and, BitVec.getLsbD_zero] at this
    rw [BitVec.getLsbD_and]
    cases hx : (BitVec.ofInt 64 f).getLsbD i <;> cases hy : (BitVec.ofInt 64 2245).getLsbD i <;> simp_all
  have e2 := congrArg BitVec.toNat e
  rw [BitVec.toNat_and] at e2
  obtain ⟨c, p, z, s, o, hx⟩ := fl_of_and e2
  refine ⟨c, p, z, s, o, ?_⟩
  rw [← hx]
  have h3 : (BitVec.ofInt 64 f).toNat ≤ 2245 := by rw [e2]; exact Nat.and_le_right
  rw [toNat_ofInt64] at *
  have h4 := toNat_ofInt64 f
  omega
theorem flS_of {f : Int} (h1 : 0 ≤ f) (h2 : f ≤ 9223372036854775807) (h : (BitVec.ofInt 64 f &&& BitVec.ofInt 64 2245).toNat = f) : FlOK f := by
  rw [BitVec.toNat_and] at h
  have h4 := toNat_ofInt64 f
  have h5 : (BitVec.ofInt 64 f).toNat = (BitVec.ofInt 64 f).toNat &&& 2245 := by
    have e : (BitVec.ofInt 64 2245).toNat = 2245 := by decide
    rw [e] at h
    omega
  obtain ⟨c, p, z, s, o, hx⟩ := fl_of_and h5
  refine ⟨c, p, z, s, o, ?_⟩
  rw [← hx]; omega
theorem flI_yes (c p z s o : Bool) : IntKind.i64.wrap ((BitVec.ofInt 64 (flV c p z s o) &&& ~~~ (BitVec.ofInt 64 2245)).toNat : Int) = 0 := by
  revert c p z s o; decide +kernel
theorem flS_yes (c p z s o : Bool) : IntKind.i64.wrap ((BitVec.ofInt 64 (flV c p z s o) &&& BitVec.ofInt 64 2245).toNat : Int) = flV c p z s o := by
  revert c p z s o; decide +kernel

theorem flV_ge (c p z s o : Bool) : 0 ≤ flV c p z s o := by revert c p z s o; decide
theorem flV_le (c p z s o : Bool) : flV c p z s o ≤ 2245 := by revert c p z s o; decide
theorem and_zero {x : BitVec 64} (h : IntKind.i64.wrap (x.toNat : Int) = 0) : x = 0#64 := by
  have hx := x.isLt
  have e : IntKind.i64.wrap (x.toNat : Int) = if (x.toNat : Int) % 18446744073709551616 ≥ 9223372036854775808 then (x.toNat : Int) % 18446744073709551616 - 18446744073709551616 else (x.toNat : Int) % 18446744073709551616 := by simp [IntKind.wrap, IntKind.bits, IntKind.signed]
  rw [e] at h
  apply BitVec.eq_of_toNat_eq
  simp only [BitVec.toNat_ofNat]
  split at h <;> omega
theorem wrap_same {f : Int} (h : IntKind.i64.wrap ((BitVec.ofInt 64 f &&& BitVec.ofInt 64 2245).toNat : Int) = f) : ((BitVec.ofInt 64 f &&& BitVec.ofInt 64 2245).toNat : Int) = f := by
  have h3 : (BitVec.ofInt 64 f &&& BitVec.ofInt 64 2245).toNat ≤ 2245 := by rw [BitVec.toNat_and]; exact Nat.and_le_right
  generalize (BitVec.ofInt 64 f &&& BitVec.ofInt 64 2245).toNat = x at *
  have e : IntKind.i64.wrap (x : Int) = if (x : Int) % 18446744073709551616 ≥ 9223372036854775808 then (x : Int) % 18446744073709551616 - 18446744073709551616 else (x : Int) % 18446744073709551616 := by simp [IntKind.wrap, IntKind.bits, IntKind.signed]
  rw [e] at h
  split at h <;> omega
/-- The carry out of bit k. -/
def cryN (A B c k : Nat) : Nat := (A % 2 ^ k + B % 2 ^ k + c) / 2 ^ k

theorem cry_le {A B c k : Nat} (hc : c ≤ 1) : cryN A B c k ≤ 1 := by
  unfold cryN
  have h1 : A % 2 ^ k < 2 ^ k := Nat.mod_lt _ (Nat.two_pow_pos k)
  have h2 : B % 2 ^ k < 2 ^ k := Nat.mod_lt _ (Nat.two_pow_pos k)
  have : (A % 2 ^ k + B % 2 ^ k + c) / 2 ^ k < 2 := by
    apply (Nat.div_lt_iff_lt_mul (Nat.two_pow_pos k)).2; omega
  omega
theorem cry_zero {A B c : Nat} : cryN A B c 0 = c := by simp [cryN, Nat.mod_one]

theorem split_mod (A k : Nat) : A % 2 ^ (k + 1) = A % 2 ^ k + 2 ^ k * (A / 2 ^ k % 2) := by
  rw [Nat.pow_succ, Nat.mod_mul]

theorem cry_succ (A B c k : Nat) : cryN A B c (k + 1) = (A / 2 ^ k % 2 + B / 2 ^ k % 2 + cryN A B c k) / 2 := by
  unfold cryN
  rw [split_mod A k, split_mod B k, Nat.pow_succ, ← Nat.div_div_eq_div_mul]
  congr 1
  have : A % 2 ^ k + 2 ^ k * (A / 2 ^ k % 2) + (B % 2 ^ k + 2 ^ k * (B / 2 ^ k % 2)) + c = (A % 2 ^ k + B % 2 ^ k + c) + 2 ^ k * (A / 2 ^ k % 2 + B / 2 ^ k % 2) := by
    rw [Nat.mul_add]; omega
  rw [this, Nat.add_mul_div_left _ _ (Nat.two_pow_pos k)]
  omega

/-- A bit of the sum. -/
theorem sum_bit (A B c k : Nat) : (A + B + c) / 2 ^ k % 2 = (A / 2 ^ k % 2 + B / 2 ^ k % 2 + cryN A B c k) % 2 := by
  unfold cryN
  have h1 := Nat.div_add_mod A (2 ^ k)
  have h2 := Nat.div_add_mod B (2 ^ k)
  have e : A + B + c = (A % 2 ^ k + B % 2 ^ k + c) + 2 ^ k * (A / 2 ^ k + B / 2 ^ k) := by
    rw [Nat.mul_add]; omega
  rw [e, Nat.add_mul_div_left _ _ (Nat.two_pow_pos k)]
  omega

theorem bit_mod {V w k : Nat} (h : k < w) : V % 2 ^ w / 2 ^ k % 2 = V / 2 ^ k % 2 := by
  have e : w = k + 1 + (w - k - 1) := by omega
  rw [e, Nat.pow_add, Nat.mod_mul, Nat.pow_succ, Nat.mul_assoc, Nat.add_mul_div_left _ _ (Nat.two_pow_pos k), ]
  rw [Nat.add_mul_mod_self_left]
  rw [← Nat.pow_succ, split_mod V k, Nat.add_mul_div_left _ _ (Nat.two_pow_pos k), Nat.div_eq_of_lt (Nat.mod_lt _ (Nat.two_pow_pos k))]
  omega

theorem tb_iff (V k : Nat) : V.testBit k = decide (V / 2 ^ k % 2 = 1) := by
  rw [Nat.testBit_eq_decide_div_mod_eq]

/-- The word of carries of impl: its bit k is what is carried out of bit k. -/
theorem word_bit {A B c k w : Nat} (hk : k < w) (hc : c ≤ 1) :
    ((A &&& B) ||| ((A ||| B) &&& (2 ^ w - 1 - (A + B + c) % 2 ^ w))) / 2 ^ k % 2 = cryN A B c (k + 1) := by
  have hS : (A + B + c) % 2 ^ w / 2 ^ k % 2 = (A / 2 ^ k % 2 + B / 2 ^ k % 2 + cryN A B c k) % 2 := (bit_mod hk).trans (sum_bit A B c k)
  have ht : ((A &&& B) ||| ((A ||| B) &&& (2 ^ w - 1 - (A + B + c) % 2 ^ w))).testBit k = decide (cryN A B c (k + 1) = 1) := by
    have hlt : (A + B + c) % 2 ^ w < 2 ^ w := Nat.mod_lt _ (Nat.two_pow_pos w)
    rw [Nat.testBit_or, Nat.testBit_and, Nat.testBit_and, Nat.testBit_or]
    have e : 2 ^ w - 1 - (A + B + c) % 2 ^ w = 2 ^ w - ((A + B + c) % 2 ^ w + 1) := by omega
    rw [e, Nat.testBit_two_pow_sub_succ hlt, tb_iff, tb_iff, tb_iff, hS, cry_succ]
    have hq := cry_le (A := A) (B := B) (k := k) hc
    have ha : A / 2 ^ k % 2 < 2 := Nat.mod_lt _ (by decide)
    have hb : B / 2 ^ k % 2 < 2 := Nat.mod_lt _ (by decide)
    generalize cryN A B c k = q at *
    generalize A / 2 ^ k % 2 = a at *
    generalize B / 2 ^ k % 2 = b at *
    have hw : decide (k < w) = true := decide_eq_true hk
    rw [hw]
    have : q = 0 ∨ q = 1 := by omega
    have : a = 0 ∨ a = 1 := by omega
    have : b = 0 ∨ b = 1 := by omega
    rcases ‹q = 0 ∨ q = 1› with rfl | rfl <;> rcases ‹a = 0 ∨ a = 1› with rfl | rfl <;> rcases ‹b = 0 ∨ b = 1› with rfl | rfl <;> decide
  rw [tb_iff] at ht
  have h2 := cry_le (A := A) (B := B) (k := k + 1) hc
  have h3 : ∀ x : Nat, x % 2 < 2 := fun x => Nat.mod_lt _ (by decide)
  have h4 := h3 (((A &&& B) ||| ((A ||| B) &&& (2 ^ w - 1 - (A + B + c) % 2 ^ w))) / 2 ^ k)
  have h5 := decide_eq_decide.1 ht
  omega
theorem or_bit {S n i : Nat} : S % 2 ^ i ||| n * 2 ^ i = S % 2 ^ i + n * 2 ^ i := by
  have h := Nat.two_pow_add_eq_or_of_lt (i := i) (b := S % 2 ^ i) (Nat.mod_lt _ (Nat.two_pow_pos i)) n
  rw [Nat.or_comm, Nat.mul_comm n, ← h]; omega

theorem tail_bit (S i : Nat) : S % 2 ^ i + S / 2 ^ i % 2 * 2 ^ i = S % 2 ^ (i + 1) := by
  rw [Nat.pow_succ, Nat.mod_mul, Nat.mul_comm]

/-- ~a. -/
theorem not_bit {A w k : Nat} (hA : A < 2 ^ w) (hk : k < w) : (2 ^ w - 1 - A) / 2 ^ k % 2 = 1 - A / 2 ^ k % 2 := by
  have e : 2 ^ w - 1 - A = 2 ^ w - (A + 1) := by omega
  have ht := Nat.testBit_two_pow_sub_succ hA k
  rw [← e, Nat.testBit_eq_decide_div_mod_eq, Nat.testBit_eq_decide_div_mod_eq, decide_eq_true hk, Bool.true_and] at ht
  have h3 : ∀ x : Nat, x % 2 < 2 := fun x => Nat.mod_lt _ (by decide)
  have h4 := h3 ((2 ^ w - 1 - A) / 2 ^ k)
  have h5 := h3 (A / 2 ^ k)
  rcases (by omega : A / 2 ^ k % 2 = 0 ∨ A / 2 ^ k % 2 = 1) with h | h
  · rw [h] at ht ⊢; simp at ht; omega
  · rw [h] at ht ⊢; simp at ht; omega
theorem two_le (w : Nat) : 1 ≤ 2 ^ w := Nat.two_pow_pos w

/-- a - b - c by a turned about. -/
theorem sub_eq {A B c w : Nat} (hA : A < 2 ^ w) :
    (2 ^ w - 1 - ((2 ^ w - 1 - A) + B + c) % 2 ^ w : Nat) = (((A : Int) - B - c) % 2 ^ w).toNat := by
  have hp : (2 ^ w : Int) = ((2 ^ w : Nat) : Int) := by simp
  have hw := two_le w
  rw [hp]
  generalize 2 ^ w = m at *
  have h1 : ((m - 1 - A) + B + c) % m < m := Nat.mod_lt _ (by omega)
  have h2 := Nat.div_add_mod ((m - 1 - A) + B + c) m
  generalize ((m - 1 - A) + B + c) / m = q at *
  generalize hr : ((m - 1 - A) + B + c) % m = r at *
  have h3 : ((A : Int) - B - c) = ((m - 1 - r : Nat) : Int) + (m : Int) * (-(q : Int)) := by
    have h4 : (m : Int) * (q : Int) + r = m - 1 - A + B + c := by
      have h5 : ((m * q + r : Nat) : Int) = ((m - 1 - A + B + c : Nat) : Int) := by rw [h2]
      push_cast at h5
      omega
    rw [Int.mul_neg]
    omega
  rw [h3, Int.add_mul_emod_self_left, Int.emod_eq_of_lt (by omega) (by omega)]
  omega

theorem hi_iff {V w : Nat} (hw : 0 < w) (hV : V < 2 ^ w) : (2 ^ (w - 1) ≤ V) ↔ V / 2 ^ (w - 1) % 2 = 1 := by
  have e : 2 ^ w = 2 * 2 ^ (w - 1) := by
    have : w = (w - 1) + 1 := by omega
    conv => lhs; rw [this, Nat.pow_succ]
    omega
  have h0 := two_le (w - 1)
  rw [e] at hV
  generalize 2 ^ (w - 1) = m at *
  constructor
  · intro h
    have : V / m = 1 := by
      apply Nat.le_antisymm
      · have := (Nat.div_lt_iff_lt_mul (k := m) (x := V) (y := 2) (by omega)).2 hV; omega
      · exact (Nat.le_div_iff_mul_le (by omega)).2 (by omega)
    rw [this]
  · intro h
    by_cases hlt : V < m
    · rw [Nat.div_eq_of_lt hlt] at h; omega
    · omega
end Go.Proofs.YtbkgmpkednkbcaaGreatDoor
namespace Go.Proofs.YtbkgmpkednkbcaaGreatDoor
open Go.RowKit
set_option linter.unusedVariables false
set_option maxHeartbeats 400000 in
theorem flagsOKI (f : Int) (w : World) : Calls Tryz.prog 92 #[.int .i64 f] w fun e w' => e = .returned (.bool (decide (IntKind.i64.wrap ((BitVec.ofInt 64 f &&& ~~~ (BitVec.ofInt 64 2245)).toNat : Int) = 0))) ∧ w' = w := by
  go_enter Tryz.func92, Tryz.ntmps92
  go_wp2
  go_ret
  exact ⟨rfl, rfl⟩
set_option maxHeartbeats 400000 in
theorem flagsS0 (f : Int) (w : World) (h : 0 ≤ f) : Calls Tryz.prog 89 #[.int .i64 f] w fun e w' => e = .returned (.bool (decide (IntKind.i64.wrap ((BitVec.ofInt 64 f &&& (BitVec.ofInt 64 2245)).toNat : Int) = f))) ∧ w' = w := by
  go_enter Tryz.func89, Tryz.ntmps89
  go_wp2
  go_ret
  exact ⟨rfl, rfl⟩
set_option maxHeartbeats 400000 in
theorem flagsS1 (f : Int) (w : World) (h : f < 0) : Calls Tryz.prog 89 #[.int .i64 f] w fun e w' => e = .returned (.bool false) ∧ w' = w := by
  go_enter Tryz.func89, Tryz.ntmps89
  go_wp2
  go_ret
  exact ⟨rfl, rfl⟩
theorem flagsYesI (c p z s o : Bool) (w : World) : Calls Tryz.prog 92 #[.int .i64 (flV c p z s o)] w fun e w' => e = .returned (.bool true) ∧ w' = w := by
  refine (flagsOKI _ w).mono ?_
  rintro e w' ⟨rfl, rfl⟩
  exact ⟨by rw [flI_yes]; rfl, rfl⟩
theorem flagsNoI (f : Int) (w : World) (hf : (Lit.int .i64 f).wf = true) (h : ¬ FlOK f) : Calls Tryz.prog 92 #[.int .i64 f] w fun e w' => e = .returned (.bool false) ∧ w' = w := by
  refine (flagsOKI _ w).mono ?_
  rintro e w' ⟨rfl, rfl⟩
  have b := bounds_i64 hf
  refine ⟨?_, rfl⟩
  rw [decide_eq_false (fun e => h (flI_of b.1 b.2 (and_zero e)))]
theorem flagsYesS (c p z s o : Bool) (w : World) : Calls Tryz.prog 89 #[.int .i64 (flV c p z s o)] w fun e w' => e = .returned (.bool true) ∧ w' = w := by
  refine (flagsS0 _ w (flV_ge c p z s o)).mono ?_
  rintro e w' ⟨rfl, rfl⟩
  exact ⟨by rw [decide_eq_true (flS_yes c p z s o)], rfl⟩
theorem flagsNoS (f : Int) (w : World) (hf : (Lit.int .i64 f).wf = true) (h : ¬ FlOK f) : Calls Tryz.prog 89 #[.int .i64 f] w fun e w' => e = .returned (.bool false) ∧ w' = w := by
  have b := bounds_i64 hf
  by_cases h0 : 0 ≤ f
  · refine (flagsS0 _ w h0).mono ?_
    rintro e w' ⟨rfl, rfl⟩
    exact ⟨by rw [decide_eq_false (fun e => h (flS_of h0 b.2 (wrap_same e)))], rfl⟩
  · exact flagsS1 f w (by omega)
def hvB (k : Nat) (c p z s o : Bool) : Bool := match k with | 0 => o | 1 => c | 2 => z | 3 => c || z | 4 => s | 5 => p | 6 => s != o | _ => z || s != o
theorem bit_c (c p z s o : Bool) : (bits .and .i64 (flV c p z s o) 1 != 0) = c := by revert c p z s o; decide +kernel
theorem bit_p (c p z s o : Bool) : (bits .and .i64 (flV c p z s o) 4 != 0) = p := by revert c p z s o; decide +kernel
theorem bit_z (c p z s o : Bool) : (bits .and .i64 (flV c p z s o) 64 != 0) = z := by revert c p z s o; decide +kernel
theorem bit_s (c p z s o : Bool) : (bits .and .i64 (flV c p z s o) 128 != 0) = s := by revert c p z s o; decide +kernel
theorem bit_o (c p z s o : Bool) : (bits .and .i64 (flV c p z s o) 2048 != 0) = o := by revert c p z s o; decide +kernel
theorem bit_cz (c p z s o : Bool) : (bits .and .i64 (flV c p z s o) 65 != 0) = (c || z) := by revert c p z s o; decide +kernel
set_option maxHeartbeats 400000 in
theorem inYes (v lo hi : Int) (w : World) (h1 : lo ≤ v) (h2 : v ≤ hi) : Calls Tryz.prog 30 #[.int .i64 v, .int .i64 lo, .int .i64 hi] w fun e w' => e = .returned (.bool true) ∧ w' = w := by
  go_enter Tryz.func30, Tryz.ntmps30
  go_wp2
  go_ret
  exact ⟨rfl, rfl⟩
set_option maxHeartbeats 400000 in
theorem inNo (v lo hi : Int) (w : World) (h : v < lo ∨ hi < v) : Calls Tryz.prog 30 #[.int .i64 v, .int .i64 lo, .int .i64 hi] w fun e w' => e = .returned (.bool false) ∧ w' = w := by
  by_cases h1 : v < lo
  · clear h
    go_enter Tryz.func30, Tryz.ntmps30
    go_wp2
    go_ret
    exact ⟨rfl, rfl⟩
  · have h2 : decide (v ≤ hi) = false := decide_eq_false (by omega)
    have h3 : lo ≤ v := by omega
    clear h h1
    go_enter Tryz.func30, Tryz.ntmps30
    go_wp2
    go_ret
    exact ⟨rfl, rfl⟩
end Go.Proofs.YtbkgmpkednkbcaaGreatDoor
namespace Go.Proofs.YtbkgmpkednkbcaaGreatDoor
open Go.RowKit
set_option linter.unusedVariables false
theorem cpuBox (w : World) (c : Cp) : (w.alloc (.cells (cpV c) 31)).cell? ⟨w.heap.size, 17, none⟩ = some (.int .i64 c.fl) := (cell_of_row _ _ 17 _ _ _ (heap_alloc_new w _)).trans rfl
set_option maxRecDepth 100000 in
set_option maxHeartbeats 1000000 in
theorem cpuOKI (c : Cp) (v : Bool) (hF : ∀ w, Calls Tryz.prog 92 #[.int .i64 c.fl] w fun e w' => e = .returned (.bool v) ∧ w' = w) (w : World) :
    Calls Tryz.prog 65 #[.agg (cpV c)] w fun e w' => e = .returned (.bool v) ∧ Below w.heap.size w w' := by
  have CF := Lib.hid (fun w => (hF w).mono fun _ _ h => (⟨h.1, h.2.symm⟩ : _ ∧ w = _))
  have h17 := cpuBox w c
  clear hF
  generalize cpV c = V at *
  go_enter Tryz.func65, Tryz.ntmps65
  go_wp2_with fail
  refine (CF.out _).mono ?_
  rintro e w1 ⟨rfl, rfl⟩
  go_wp2
  go_ret
  exact ⟨rfl, (Below.refl _ _).alloc (Nat.le_refl _) _⟩
set_option maxRecDepth 100000 in
set_option maxHeartbeats 1000000 in
theorem cpuOKS (c : Cp) (v : Bool) (hF : ∀ w, Calls Tryz.prog 89 #[.int .i64 c.fl] w fun e w' => e = .returned (.bool v) ∧ w' = w) (w : World) :
    Calls Tryz.prog 56 #[.agg (cpV c)] w fun e w' => e = .returned (.bool v) ∧ Below w.heap.size w w' := by
  have CF := Lib.hid (fun w => (hF w).mono fun _ _ h => (⟨h.1, h.2.symm⟩ : _ ∧ w = _))
  have h17 := cpuBox w c
  clear hF
  generalize cpV c = V at *
  go_enter Tryz.func56, Tryz.ntmps56
  go_wp2_with fail
  refine (CF.out _).mono ?_
  rintro e w1 ⟨rfl, rfl⟩
  go_wp2
  go_ret
  exact ⟨rfl, (Below.refl _ _).alloc (Nat.le_refl _) _⟩
/-- are the flags some? -/
theorem cpuI (c : Cp) (hw : CpW c) : ∃ v : Bool, (v = true ↔ FlOK c.fl) ∧ (∀ w, Calls Tryz.prog 65 #[.agg (cpV c)] w fun e w' => e = .returned (.bool v) ∧ Below w.heap.size w w') ∧
    (∀ w, Calls Tryz.prog 56 #[.agg (cpV c)] w fun e w' => e = .returned (.bool v) ∧ Below w.heap.size w w') := by
  by_cases h : FlOK c.fl
  · refine ⟨true, ⟨fun _ => h, fun _ => rfl⟩, cpuOKI c true ?_, cpuOKS c true ?_⟩
    · obtain ⟨cc, p, z, s, o, e⟩ := h; rw [e]; exact flagsYesI cc p z s o
    · obtain ⟨cc, p, z, s, o, e⟩ := h; rw [e]; exact flagsYesS cc p z s o
  · exact ⟨false, ⟨(fun e => by cases e), (fun e => absurd e h)⟩, cpuOKI c false (fun w => flagsNoI _ w hw.fl h), cpuOKS c false (fun w => flagsNoS _ w hw.fl h)⟩
end Go.Proofs.YtbkgmpkednkbcaaGreatDoor
