/-
  What the law of bits asks of Alu, One, FlagsOf and ZeroOf, as contracts on the numbers that it draws; conditions: those in each head.
-/
import Derived.Test.YtifpcfhfglkbcaaGreatDoorWalkFlY
namespace Go.Proofs.YtifpcfhfglkbcaaGreatDoor
open Go.RowKit
set_option linter.unusedVariables false
theorem aluYes (op a b : Int) (c p z s o : Bool) (Xa Xb size : Nat) (w : World) (hop : 1 ≤ op ∧ (op ≤ 8 ∨ op = 10)) (hn : okSize (size : Int)) (ha : IntKind.u64.wrap a = (Xa : Int)) (hb : IntKind.u64.wrap b = (Xb : Int)) :
    Calls Tryz.prog 8 #[.int .i64 op, .int .i64 (size : Int), .int .i64 a, .int .i64 b, .int .i64 (flV c p z s o)] w fun e w' => e = .returned (.tuple #[.int .i64 (wrap64 ((aluN (8 * size) op (Xa % 2 ^ (8 * size)) (Xb % 2 ^ (8 * size)) (bif c then 1 else 0) : Nat) : Int)), .int .i64 (aluF (8 * size) op (Xa % 2 ^ (8 * size)) (Xb % 2 ^ (8 * size)) (bif c then 1 else 0)), .int .i64 0]) ∧ Below w.heap.size w w' := by
  obtain ⟨v, g, k, ⟨s', Xa', Xb', e1, e2, e3, h⟩, hc⟩ := AluI op (size : Int) a b c p z s o w hn
  obtain rfl : size = s' := by omega
  obtain rfl : Xa = Xa' := by omega
  obtain rfl : Xb = Xb' := by omega
  rcases h with ⟨_, _, rfl, rfl, rfl⟩ | ⟨h, _⟩
  · exact hc
  · exact absurd hop h
theorem oneYes (op a : Int) (c p z s o : Bool) (X size : Nat) (w : World) (hop : OneOp op) (hn : okSize (size : Int)) (ha : IntKind.u64.wrap a = (X : Int)) :
    Calls Tryz.prog 16 #[.int .i64 op, .int .i64 (size : Int), .int .i64 a, .int .i64 (flV c p z s o)] w fun e w' => e = .returned (.tuple #[.int .i64 (wrap64 ((oneN (8 * size) op (X % 2 ^ (8 * size)) : Nat) : Int)), .int .i64 (oneF (8 * size) op (X % 2 ^ (8 * size)) (flV c p z s o)), .int .i64 0]) ∧ Below w.heap.size w w' := by
  obtain ⟨v, g, k, ⟨s', X', e1, e2, h⟩, hc⟩ := OneI op (size : Int) a c p z s o w hn
  obtain rfl : size = s' := by omega
  obtain rfl : X = X' := by omega
  rcases h with ⟨_, rfl, rfl, rfl⟩ | ⟨h, _⟩
  · exact hc
  · exact absurd hop h
theorem flagsYes (a : Int) (X size : Nat) (w : World) (hn : okSize (size : Int)) (ha : IntKind.u64.wrap a = (X : Int)) : Calls Tryz.prog 17 #[.int .i64 (size : Int), .int .i64 a] w fun e w' => e = .returned (.tuple #[.int .i64 (szp (8 * size) (X % 2 ^ (8 * size))), .int .i64 0]) ∧ Below w.heap.size w w' := by
  rcases (by unfold okSize at hn; omega : size = 1 ∨ size = 2 ∨ size = 4 ∨ size = 8) with rfl | rfl | rfl | rfl
  · exact FlagsI_u8 a X w ha
  · exact FlagsI_u16 a X w ha
  · exact FlagsI_u32 a X w ha
  · exact FlagsI_u64 a X w ha
theorem and_xor (A B : Nat) (hA : A < 18446744073709551616) (hB : B < 18446744073709551616) : (A &&& B) + (A ^^^ B) = A ||| B := by
  have h := BitVec.add_eq_or_of_and_eq_zero (w := 65) (BitVec.ofNat 65 A &&& BitVec.ofNat 65 B) (BitVec.ofNat 65 A ^^^ BitVec.ofNat 65 B) (by
    apply BitVec.eq_of_getLsbD_eq
    intro i hi
    simp only [BitVec.getLsbD_and, BitVec.getLsbD_xor, BitVec.getLsbD_zero]
    cases (BitVec.ofNat 65 A).getLsbD i <;> cases (BitVec.ofNat 65 B).getLsbD i <;> rfl)
  have h2 : (BitVec.ofNat 65 A &&& BitVec.ofNat 65 B) ||| (BitVec.ofNat 65 A ^^^ BitVec.ofNat 65 B) = BitVec.ofNat 65 A ||| BitVec.ofNat 65 B := by
    apply BitVec.eq_of_getLsbD_eq
    intro i hi
    simp only [BitVec.getLsbD_and, BitVec.getLsbD_xor, BitVec.getLsbD_or]
    cases (BitVec.ofNat 65 A).getLsbD i <;> cases (BitVec.ofNat 65 B).getLsbD i <;> rfl
  rw [h2] at h
  have h3 := congrArg BitVec.toNat h
  have l1 : A &&& B ≤ A := Nat.and_le_left
  have l2 : A ^^^ B < 2 ^ 64 := Nat.xor_lt_two_pow (by omega) (by omega)
  have e65 : (2 : Nat) ^ 65 = 36893488147419103232 := by decide
  have e64 : (2 : Nat) ^ 64 = 18446744073709551616 := by decide
  rw [BitVec.toNat_add, BitVec.toNat_and, BitVec.toNat_xor, BitVec.toNat_or, BitVec.toNat_ofNat, BitVec.toNat_ofNat, Nat.mod_eq_of_lt (a := A) (by omega), Nat.mod_eq_of_lt (a := B) (by omega), Nat.mod_eq_of_lt (by omega)] at h3
  exact h3
theorem up_down {w A : Nat} (hw : 1 ≤ w) (hA : A < 2 ^ w) : difN w (sumN w A 1 0) 1 0 = A := by
  have h := difN_int (w := w) (A := sumN w A 1 0) (B := 1) (c := 0) (sumN_lt _ _ _ _)
  have hp : ((2 : Int) ^ w) = ((2 ^ w : Nat) : Int) := by simp
  have h2 : 2 ≤ 2 ^ w := by
    have := Nat.pow_le_pow_right (n := 2) (by decide) hw
    omega
  rw [hp] at h
  unfold sumN at *
  generalize 2 ^ w = m at *
  generalize difN w ((A + 1 + 0) % m) 1 0 = D at *
  rcases (by omega : A + 1 < m ∨ A + 1 = m) with e | e
  · rw [Nat.add_zero, Nat.mod_eq_of_lt e] at h
    rw [Int.emod_eq_of_lt (by omega) (by omega)] at h
    omega
  · rw [Nat.add_zero, e, Nat.mod_self] at h
    have : ((0 : Nat) : Int) - (1 : Nat) - (0 : Nat) = ((m - 1 : Nat) : Int) + (m : Int) * (-1) := by omega
    rw [this, Int.add_mul_emod_self_left, Int.emod_eq_of_lt (by omega) (by omega)] at h
    omega
theorem neg_not {w A : Nat} (hw : 1 ≤ w) (hA : A < 2 ^ w) : difN w 0 (2 ^ w - 1 - A) 0 = sumN w A 1 0 := by
  have h := difN_int (w := w) (A := 0) (B := 2 ^ w - 1 - A) (c := 0) (Nat.two_pow_pos w)
  have hp : ((2 : Int) ^ w) = ((2 ^ w : Nat) : Int) := by simp
  rw [hp] at h
  unfold sumN
  generalize difN w 0 (2 ^ w - 1 - A) 0 = D at *
  generalize 2 ^ w = m at *
  have e : ((0 : Nat) : Int) - ((m - 1 - A : Nat) : Int) - (0 : Nat) = ((A + 1 : Nat) : Int) + (m : Int) * (-1) := by omega
  rw [e, Int.add_mul_emod_self_left] at h
  rw [Nat.add_zero]
  omega
theorem neg_carry {w T : Nat} (hT : T < 2 ^ w) : decide (cryN (2 ^ w - 1 - 0) T 0 w = 1) = decide (T ≠ 0) := by
  refine decide_eq_decide.mpr ?_
  unfold cryN
  have hp := Nat.two_pow_pos w
  rw [Nat.mod_eq_of_lt (a := T) hT, Nat.mod_eq_of_lt (a := 2 ^ w - 1 - 0) (by omega)]
  generalize 2 ^ w = m at *
  by_cases h : T = 0
  · subst h
    rw [Nat.div_eq_of_lt (by omega)]; omega
  · have : (m - 1 - 0 + T + 0) / m = 1 := by
      rw [show m - 1 - 0 + T + 0 = (T - 1) + m * 1 by omega, Nat.add_mul_div_left _ _ hp, Nat.div_eq_of_lt (by omega)]
    rw [this]; omega
theorem bit1 (c p z s o : Bool) : bits .and .i64 (flV c p z s o) 1 = (bif c then 1 else 0) := by revert c p z s o; decide +kernel
theorem bit2048 (c p z s o : Bool) : bits .and .i64 (flV c p z s o) 2048 = (bif o then 2048 else 0) := by revert c p z s o; decide +kernel
theorem keep_flV (c p z s o c' p' z' s' o' : Bool) : keepF (flV c p z s o) (flV c' p' z' s' o') = flV c' p z s o := keepC c p z s o c' p' z' s' o'
set_option maxHeartbeats 400000 in
theorem plusL (a b : Int) (w : World) : Calls Tryz.prog 15 #[.int .i64 a, .int .i64 b] w fun e w' => e = .returned (.int .i64 (wrap64 (IntKind.u64.wrap (IntKind.u64.wrap a + IntKind.u64.wrap b)))) ∧ w = w' := by
  go_enter Tryz.func15, Tryz.ntmps15
  go_wp2
  go_ret
  exact ⟨rfl, rfl⟩
theorem plusX {a b : Int} {X Y : Nat} (ha : IntKind.u64.wrap a = (X : Int)) (hb : IntKind.u64.wrap b = (Y : Int)) : IntKind.u64.wrap (wrap64 (IntKind.u64.wrap (IntKind.u64.wrap a + IntKind.u64.wrap b))) = (((X + Y) % 18446744073709551616 : Nat) : Int) := by
  rw [ha, hb, wrapU ((X : Int) + Y), show ((X : Int) + Y) % 18446744073709551616 = (((X + Y) % 18446744073709551616 : Nat) : Int) by omega]
  exact u64_w64 (by omega)
/-- what the law asks -/
structure LgF (n a b f : Int) (x u g v h ww i up j l tn q : Int) (bq : Bool) : Prop where
  c0 : ∀ w, Calls Tryz.prog 14 #[.int .i64 a, .int .i64 n] w fun e w' => e = .returned (.tuple #[.int .i64 x, .int .i64 0]) ∧ w = w'
  c1 : ∀ w, Calls Tryz.prog 8 #[.int .i64 5, .int .i64 n, .int .i64 a, .int .i64 b, .int .i64 f] w fun e w' => e = .returned (.tuple #[.int .i64 u, .int .i64 g, .int .i64 0]) ∧ Below w.heap.size w w'
  c2 : ∀ w, Calls Tryz.prog 8 #[.int .i64 2, .int .i64 n, .int .i64 a, .int .i64 b, .int .i64 f] w fun e w' => e = .returned (.tuple #[.int .i64 v, .int .i64 h, .int .i64 0]) ∧ Below w.heap.size w w'
  c3 : ∀ w, Calls Tryz.prog 8 #[.int .i64 7, .int .i64 n, .int .i64 a, .int .i64 b, .int .i64 f] w fun e w' => e = .returned (.tuple #[.int .i64 ww, .int .i64 i, .int .i64 0]) ∧ Below w.heap.size w w'
  c4 : ∃ su, (∀ w, Calls Tryz.prog 15 #[.int .i64 u, .int .i64 ww] w fun e w' => e = .returned (.int .i64 su) ∧ w = w') ∧ ∀ w, Calls Tryz.prog 14 #[.int .i64 su, .int .i64 n] w fun e w' => e = .returned (.tuple #[.int .i64 v, .int .i64 0]) ∧ w = w'
  c5 : ∀ w, Calls Tryz.prog 16 #[.int .i64 18, .int .i64 n, .int .i64 a, .int .i64 f] w fun e w' => e = .returned (.tuple #[.int .i64 up, .int .i64 j, .int .i64 0]) ∧ Below w.heap.size w w'
  c6 : ∀ w, Calls Tryz.prog 16 #[.int .i64 19, .int .i64 n, .int .i64 up, .int .i64 j] w fun e w' => e = .returned (.tuple #[.int .i64 x, .int .i64 l, .int .i64 0]) ∧ Below w.heap.size w w'
  c7 : ∀ w, Calls Tryz.prog 16 #[.int .i64 11, .int .i64 n, .int .i64 a, .int .i64 f] w fun e w' => e = .returned (.tuple #[.int .i64 tn, .int .i64 f, .int .i64 0]) ∧ Below w.heap.size w w'
  c8 : ∀ w, Calls Tryz.prog 16 #[.int .i64 12, .int .i64 n, .int .i64 tn, .int .i64 f] w fun e w' => e = .returned (.tuple #[.int .i64 up, .int .i64 q, .int .i64 0]) ∧ Below w.heap.size w w'
  c9 : ∃ sa, (∀ w, Calls Tryz.prog 15 #[.int .i64 a, .int .i64 1] w fun e w' => e = .returned (.int .i64 sa) ∧ w = w') ∧ ∀ w, Calls Tryz.prog 14 #[.int .i64 sa, .int .i64 n] w fun e w' => e = .returned (.tuple #[.int .i64 up, .int .i64 0]) ∧ w = w'
  c11 : ∀ w, Calls Tryz.prog 17 #[.int .i64 n, .int .i64 v] w fun e w' => e = .returned (.tuple #[.int .i64 h, .int .i64 0]) ∧ Below w.heap.size w w'
  c12 : ∀ w, Calls Tryz.prog 31 #[.int .i64 10, .int .i64 n, .int .i64 a, .int .i64 b, .int .i64 f] w fun e w' => e = .returned (.tuple #[.int .i64 x, .int .i64 g]) ∧ w = w'
  c13 : ∀ w, Calls Tryz.prog 8 #[.int .i64 10, .int .i64 n, .int .i64 a, .int .i64 b, .int .i64 f] w fun e w' => e = .returned (.tuple #[.int .i64 x, .int .i64 g, .int .i64 0]) ∧ Below w.heap.size w w'
  f1 : bits .and .i64 g 1 = 0
  f2 : bits .and .i64 i 2048 = 0
  f3 : bits .and .i64 j 1 = bits .and .i64 f 1
  f4 : bits .and .i64 l 1 = bits .and .i64 f 1
  f5 : (bits .and .i64 q 1 != 0) = bq
  f6 : (tn != 0) = bq
theorem lg_facts (a b f : Int) (size : Nat) (hn : okSize (size : Int)) (hf : FlOK f) : ∃ x u g v h ww i up j l tn q bq, LgF (size : Int) a b f x u g v h ww i up j l tn q bq := by
  obtain ⟨c, p, z, s, o, rfl⟩ := hf
  obtain ⟨X, hX⟩ := natU a
  obtain ⟨Y, hY⟩ := natU b
  have hs : 1 ≤ size ∧ size ≤ 8 := by rcases hn with h | h | h | h <;> omega
  obtain ⟨hs1, hs8⟩ := hs
  have h64 := pow_le64 hs8
  have w1 : 1 ≤ 8 * size := by omega
  have hA : X % 2 ^ (8 * size) < 2 ^ (8 * size) := Nat.mod_lt _ (Nat.two_pow_pos _)
  have hB : Y % 2 ^ (8 * size) < 2 ^ (8 * size) := Nat.mod_lt _ (Nat.two_pow_pos _)
  have u (N : Nat) (h : N < 2 ^ (8 * size)) : IntKind.u64.wrap (wrap64 (N : Int)) = (N : Int) := u64_w64 (Nat.lt_of_lt_of_le h h64)
  have m (N : Nat) (h : N < 2 ^ (8 * size)) : N % 2 ^ (8 * size) = N := Nat.mod_eq_of_lt h
  have dv : 2 ^ (8 * size) ∣ 18446744073709551616 := (Nat.pow_dvd_pow 2 (show 8 * size ≤ 64 by omega))
  have md (N : Nat) : N % 18446744073709551616 % 2 ^ (8 * size) = N % 2 ^ (8 * size) := Nat.mod_mod_of_dvd _ dv
  have hT : 2 ^ (8 * size) - 1 - X % 2 ^ (8 * size) < 2 ^ (8 * size) := by omega
  have q1 : aluN (8 * size) 5 (X % 2 ^ (8 * size)) (Y % 2 ^ (8 * size)) (bif c then 1 else 0) = (X % 2 ^ (8 * size)) &&& (Y % 2 ^ (8 * size)) := rfl
  have hor : (X % 2 ^ (8 * size)) ||| (Y % 2 ^ (8 * size)) < 2 ^ (8 * size) := Nat.or_lt_two_pow hA hB
  have e1 : OneOp 18 := .inr (.inr (.inl rfl))
  have e2 : OneOp 19 := .inr (.inr (.inr rfl))
  have e3 : OneOp 11 := .inl rfl
  have e4 : OneOp 12 := .inr (.inl rfl)
  have hup := sumN_lt (8 * size) (X % 2 ^ (8 * size)) 1 0
  obtain ⟨c1, p1, z1, s1, o1, hj⟩ : ∃ c1 p1 z1 s1 o1, keepF (sumF (8 * size) (X % 2 ^ (8 * size)) 1 0) (flV c p z s o) = flV c1 p1 z1 s1 o1 ∧ c1 = c := by
    unfold sumF; exact ⟨_, _, _, _, _, keep_flV _ _ _ _ _ _ _ _ _ _, rfl⟩
  obtain ⟨hj, rfl⟩ := hj
  refine ⟨wrap64 ((X % 2 ^ (8 * size) : Nat) : Int), wrap64 (((X % 2 ^ (8 * size)) &&& (Y % 2 ^ (8 * size)) : Nat) : Int), szp (8 * size) ((X % 2 ^ (8 * size)) &&& (Y % 2 ^ (8 * size))), wrap64 (((X % 2 ^ (8 * size)) ||| (Y % 2 ^ (8 * size)) : Nat) : Int), szp (8 * size) ((X % 2 ^ (8 * size)) ||| (Y % 2 ^ (8 * size))),
    wrap64 (((X % 2 ^ (8 * size)) ^^^ (Y % 2 ^ (8 * size)) : Nat) : Int), szp (8 * size) ((X % 2 ^ (8 * size)) ^^^ (Y % 2 ^ (8 * size))), wrap64 ((sumN (8 * size) (X % 2 ^ (8 * size)) 1 0 : Nat) : Int), flV c1 p1 z1 s1 o1, keepF (difF (8 * size) (sumN (8 * size) (X % 2 ^ (8 * size)) 1 0) 1 0) (flV c1 p1 z1 s1 o1),
    wrap64 ((2 ^ (8 * size) - 1 - X % 2 ^ (8 * size) : Nat) : Int), difF (8 * size) 0 (2 ^ (8 * size) - 1 - X % 2 ^ (8 * size)) 0, decide (2 ^ (8 * size) - 1 - X % 2 ^ (8 * size) ≠ 0),
    ⟨fun w => specZeroYes a X size _ w rfl hX hn, fun w => aluYes 5 a b c1 p z s o X Y size w (by decide) hn hX hY, fun w => aluYes 2 a b c1 p z s o X Y size w (by decide) hn hX hY, fun w => aluYes 7 a b c1 p z s o X Y size w (by decide) hn hX hY,
     ⟨_, fun w => plusL _ _ w, fun w => ?_⟩, fun w => ?_, fun w => ?_, fun w => oneYes 11 a c1 p z s o X size w e3 hn hX, fun w => ?_, ⟨_, fun w => plusL _ _ w, fun w => ?_⟩, fun w => ?_, fun w => ?_, fun w => aluYes 10 a b c1 p z s o X Y size w (by decide) hn hX hY, ?_, ?_, ?_, ?_, ?_, ?_⟩⟩
  · have h := specZeroYes _ _ size _ w rfl (plusX (u _ (Nat.and_lt_two_pow (X % 2 ^ (8 * size)) hB)) (u _ (Nat.xor_lt_two_pow hA hB))) hn
    rw [and_xor _ _ (Nat.lt_of_lt_of_le hA h64) (Nat.lt_of_lt_of_le hB h64), md, m _ hor] at h; exact h
  · have h := oneYes 18 a c1 p z s o X size w e1 hn hX
    rw [show oneF (8 * size) 18 (X % 2 ^ (8 * size)) (flV c1 p z s o) = flV c1 p1 z1 s1 o1 from hj] at h; exact h
  · have h := oneYes 19 _ c1 p1 z1 s1 o1 _ size w e2 hn (u _ hup)
    rw [m _ hup, show oneN (8 * size) 19 (sumN (8 * size) (X % 2 ^ (8 * size)) 1 0) = X % 2 ^ (8 * size) from up_down w1 hA] at h; exact h
  · have h := oneYes 12 _ c1 p z s o _ size w e4 hn (u _ hT)
    rw [m _ hT, show oneN (8 * size) 12 (2 ^ (8 * size) - 1 - X % 2 ^ (8 * size)) = sumN (8 * size) (X % 2 ^ (8 * size)) 1 0 from neg_not w1 hA] at h; exact h
  · have h := specZeroYes _ _ size _ w rfl (plusX hX (show IntKind.u64.wrap 1 = ((1 : Nat) : Int) by decide +kernel)) hn
    rw [md, show (X + 1) % 2 ^ (8 * size) = sumN (8 * size) (X % 2 ^ (8 * size)) 1 0 from (Nat.mod_add_mod X (2 ^ (8 * size)) 1).symm] at h; exact h
  · have h := flagsYes _ _ size w hn (u _ hor)
    rw [m _ hor] at h; exact h
  · exact aluSAll 10 a b _ X Y size _ _ _ w (by decide) hX hY hs1 hs8 (carN_of c1 p z s o) rfl rfl
  · unfold szp; rw [bit1]; rfl
  · unfold szp; rw [bit2048]; rfl
  · rw [bit1, bit1]
  · unfold difF; rw [keep_flV, bit1, bit1]
  · unfold difF; rw [bit1, neg_carry hT]
    cases decide (2 ^ (8 * size) - 1 - X % 2 ^ (8 * size) ≠ 0) <;> rfl
  · have h := w64_zero (Nat.lt_of_lt_of_le hT h64)
    rw [bne, h]
    by_cases e : 2 ^ (8 * size) - 1 - X % 2 ^ (8 * size) = 0
    · rw [e]; rfl
    · rw [beq_eq_false_iff_ne.mpr e, decide_eq_true e]; rfl
end Go.Proofs.YtifpcfhfglkbcaaGreatDoor
