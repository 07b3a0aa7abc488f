/-
  What the law of sums asks of Alu, Holds, ZeroOf, SignOf and BelowU, as contracts on the numbers that it draws; conditions: those in each head.
-/
import Derived.Test.YtifpcfhfglkbcaaGreatDoorWalkFlLg
import Derived.Test.YtifpcfhfglkbcaaGreatDoorWalkHoldsJ
import Derived.Test.YtifpcfhfglkbcaaGreatDoorMathCmp
namespace Go.Proofs.YtifpcfhfglkbcaaGreatDoor
open Go.RowKit
set_option linter.unusedVariables false
theorem zeroYesI (v : Int) (X size : Nat) (w : World) (hX : IntKind.u64.wrap v = (X : Int)) (hn : okSize (size : Int)) :
    Calls Tryz.prog 10 #[.int .i64 v, .int .i64 (size : Int)] w fun e w' => e = .returned (.tuple #[.int .i64 (wrap64 ((X % 2 ^ (8 * size) : Nat) : Int)), .int .i64 0]) ∧ Below w.heap.size w w' := by
  rcases (by unfold okSize at hn; omega : size = 1 ∨ size = 2 ∨ size = 4 ∨ size = 8) with rfl | rfl | rfl | rfl
  · rw [eqZ1 hX]; exact implZeroYes v 1 _ w (unsigned1 v w)
  · rw [eqZ2 hX]; exact implZeroYes v 2 _ w (unsigned2 v w)
  · rw [eqZ4 hX]; exact implZeroYes v 4 _ w (unsigned4 v w)
  · rw [eqZ8 hX]; exact implZeroYes v 8 _ w (unsigned8 v w)
theorem signYesI (v : Int) (X size : Nat) (w : World) (hv : (Lit.int .i64 v).wf = true) (hX : IntKind.u64.wrap v = (X : Int)) (hn : okSize (size : Int)) :
    Calls Tryz.prog 12 #[.int .i64 v, .int .i64 (size : Int)] w fun e w' => e = .returned (.tuple #[.int .i64 (wrap64 (sgnU X size : Int)), .int .i64 0]) ∧ Below w.heap.size w w' := by
  rcases (by unfold okSize at hn; omega : size = 1 ∨ size = 2 ∨ size = 4 ∨ size = 8) with rfl | rfl | rfl | rfl
  · rw [eqS1 hX]; exact implSignYes v 1 _ w (signed1 v w)
  · rw [eqS2 hX]; exact implSignYes v 2 _ w (signed2 v w)
  · rw [eqS4 hX]; exact implSignYes v 4 _ w (signed4 v w)
  · rw [eqS8 hv hX]; exact implSignYes v 8 _ w (signed8 v w)
theorem sgn_sgI (X size : Nat) (h1 : 1 ≤ size) (h8 : size ≤ 8) : wrap64 (sgnU X size : Int) = sgI (8 * size) (X % 2 ^ (8 * size)) := by
  rw [sgn_int X size h8]
  have hp := Nat.two_pow_pos (8 * size)
  have h2 := two_half (w := 8 * size) (by omega)
  have hm := Nat.mod_lt X hp
  have hpI : ((2 : Int) ^ (8 * size)) = ((2 ^ (8 * size) : Nat) : Int) := by simp
  unfold sgI
  rw [hpI, Int.bmod_def, ← Int.natCast_emod]
  generalize X % 2 ^ (8 * size) = r at *
  rw [h2] at *
  generalize 2 ^ (8 * size - 1) = m at *
  split <;> split <;> omega
set_option maxHeartbeats 400000 in
theorem belowUI (a b : Int) (w : World) :
    Calls Tryz.prog 13 #[.int .i64 a, .int .i64 b] w fun e w' => e = .returned (.bool (decide (IntKind.u64.wrap a < IntKind.u64.wrap b))) ∧ w = w' := by
  go_enter Tryz.func13, Tryz.ntmps13
  go_wp2
  go_ret
  exact ⟨rfl, rfl⟩
/-- what the law asks -/
structure AdF (n a b f : Int) (v g h x y k p r cg cf : Int) (bb ba bl : Bool) : Prop where
  c1 : ∀ w, Calls Tryz.prog 8 #[.int .i64 3, .int .i64 n, .int .i64 a, .int .i64 b, .int .i64 f] w fun e w' => e = .returned (.tuple #[.int .i64 v, .int .i64 g, .int .i64 0]) ∧ Below w.heap.size w w'
  c2 : ∀ w, Calls Tryz.prog 9 #[.int .i64 3, .int .i64 n, .int .i64 a, .int .i64 b, .int .i64 f] w fun e w' => e = .returned (.tuple #[.int .i64 v, .int .i64 g, .int .i64 0]) ∧ w = w'
  c3 : ∀ w, Calls Tryz.prog 8 #[.int .i64 4, .int .i64 n, .int .i64 v, .int .i64 b, .int .i64 f] w fun e w' => e = .returned (.tuple #[.int .i64 x, .int .i64 h, .int .i64 0]) ∧ Below w.heap.size w w'
  c4 : ∀ w, Calls Tryz.prog 10 #[.int .i64 a, .int .i64 n] w fun e w' => e = .returned (.tuple #[.int .i64 x, .int .i64 0]) ∧ Below w.heap.size w w'
  c5 : ∀ w, Calls Tryz.prog 10 #[.int .i64 b, .int .i64 n] w fun e w' => e = .returned (.tuple #[.int .i64 y, .int .i64 0]) ∧ Below w.heap.size w w'
  c6 : ∀ w, Calls Tryz.prog 8 #[.int .i64 8, .int .i64 n, .int .i64 a, .int .i64 b, .int .i64 f] w fun e w' => e = .returned (.tuple #[.int .i64 x, .int .i64 k, .int .i64 0]) ∧ Below w.heap.size w w'
  c7 : ∀ w, Calls Tryz.prog 11 #[.int .i64 2, .int .i64 k] w fun e w' => e = .returned (.tuple #[.bool bb, .int .i64 0]) ∧ Below w.heap.size w w'
  c8 : ∀ w, Calls Tryz.prog 11 #[.int .i64 4, .int .i64 k] w fun e w' => e = .returned (.tuple #[.bool ba, .int .i64 0]) ∧ Below w.heap.size w w'
  c9 : ∀ w, Calls Tryz.prog 11 #[.int .i64 12, .int .i64 k] w fun e w' => e = .returned (.tuple #[.bool bl, .int .i64 0]) ∧ Below w.heap.size w w'
  c10 : ∀ w, Calls Tryz.prog 12 #[.int .i64 a, .int .i64 n] w fun e w' => e = .returned (.tuple #[.int .i64 p, .int .i64 0]) ∧ Below w.heap.size w w'
  c11 : ∀ w, Calls Tryz.prog 12 #[.int .i64 b, .int .i64 n] w fun e w' => e = .returned (.tuple #[.int .i64 r, .int .i64 0]) ∧ Below w.heap.size w w'
  c12 : ∀ w, Calls Tryz.prog 13 #[.int .i64 x, .int .i64 y] w fun e w' => e = .returned (.bool bb) ∧ w = w'
  f0 : bits .and .i64 g 1 = cg
  f1 : bits .and .i64 h 1 = cg
  f2 : (x == y) = ba
  f3 : decide (p < r) = bl
  f4 : bits .and .i64 f 1 = cf
  f5 : (cg = 0 ∨ cg = 1) ∧ (cf = 0 ∨ cf = 1)
  f6 : n = 8 ∨ (0 ≤ v ∧ v ≤ 4294967295 ∧ 0 ≤ x ∧ x ≤ 4294967295 ∧ 0 ≤ y ∧ y ≤ 4294967295 ∧ v + cg * 2 ^ (8 * n.toNat) = x + y + cf)
theorem ad_facts (a b f : Int) (size : Nat) (ha : (Lit.int .i64 a).wf = true) (hb : (Lit.int .i64 b).wf = true) (hn : okSize (size : Int)) (hf : FlOK f) : ∃ v g h x y k p r cg cf bb ba bl, AdF (size : Int) a b f v g h x y k p r cg cf bb ba bl := by
  obtain ⟨c, pf, zf, sf, of, rfl⟩ := hf
  obtain ⟨X, hX⟩ := natU a
  obtain ⟨Y, hY⟩ := natU b
  have hs : 1 ≤ size ∧ size ≤ 8 := by rcases hn with h | h | h | h <;> omega
  obtain ⟨hs1, hs8⟩ := hs
  have h64 := pow_le64 hs8
  have w1 : 1 ≤ 8 * size := by omega
  have hA : X % 2 ^ (8 * size) < 2 ^ (8 * size) := Nat.mod_lt _ (Nat.two_pow_pos _)
  have hYY : Y % 2 ^ (8 * size) < 2 ^ (8 * size) := Nat.mod_lt _ (Nat.two_pow_pos _)
  have u (N : Nat) (h : N < 2 ^ (8 * size)) : IntKind.u64.wrap (wrap64 (N : Int)) = (N : Int) := u64_w64 (Nat.lt_of_lt_of_le h h64)
  have m (N : Nat) (h : N < 2 ^ (8 * size)) : N % 2 ^ (8 * size) = N := Nat.mod_eq_of_lt h
  obtain ⟨cc, hcc⟩ : ∃ cc : Nat, cc = (bif c then 1 else 0) := ⟨_, rfl⟩
  have hc1 : cc ≤ 1 := by rw [hcc]; cases c <;> decide
  have c1 := fun w => aluYes 3 a b c pf zf sf of X Y size w (by decide) hn hX hY
  obtain ⟨v2, g2, k2, h2, c2⟩ := AluS 3 (size : Int) a b c pf zf sf of default hn
  have hS := sumN_lt (8 * size) (X % 2 ^ (8 * size)) (Y % 2 ^ (8 * size)) cc
  have c3 := fun w => aluYes 4 _ b c pf zf sf of _ Y size w (by decide) hn (u _ hS) hY
  have c6 := fun w => aluYes 8 a b c pf zf sf of X Y size w (by decide) hn hX hY
  rw [← hcc] at c1 c3 c6
  rw [m _ hS] at c3
  have e3 : ∀ A B : Nat, aluN (8 * size) 3 A B cc = sumN (8 * size) A B cc := fun _ _ => rfl
  have e3f : ∀ A B : Nat, aluF (8 * size) 3 A B cc = sumF (8 * size) A B cc := fun _ _ => rfl
  have e4 : ∀ A B : Nat, aluN (8 * size) 4 A B cc = difN (8 * size) A B cc := fun _ _ => rfl
  have e4f : ∀ A B : Nat, aluF (8 * size) 4 A B cc = difF (8 * size) A B cc := fun _ _ => rfl
  have e8 : ∀ A B : Nat, aluN (8 * size) 8 A B cc = A := fun _ _ => rfl
  have e8f : ∀ A B : Nat, aluF (8 * size) 8 A B cc = difF (8 * size) A B 0 := fun _ _ => rfl
  simp only [e3, e3f] at c1
  simp only [e4, e4f] at c3
  simp only [e8, e8f] at c6
  rw [add_sub hA hYY hc1] at c3
  have hcar := cry_le (A := X % 2 ^ (8 * size)) (B := Y % 2 ^ (8 * size)) (c := cc) (k := 8 * size) hc1
  refine ⟨wrap64 ((sumN (8 * size) (X % 2 ^ (8 * size)) (Y % 2 ^ (8 * size)) cc : Nat) : Int), sumF (8 * size) (X % 2 ^ (8 * size)) (Y % 2 ^ (8 * size)) cc, difF (8 * size) (sumN (8 * size) (X % 2 ^ (8 * size)) (Y % 2 ^ (8 * size)) cc) (Y % 2 ^ (8 * size)) cc, wrap64 ((X % 2 ^ (8 * size) : Nat) : Int), wrap64 ((Y % 2 ^ (8 * size) : Nat) : Int), difF (8 * size) (X % 2 ^ (8 * size)) (Y % 2 ^ (8 * size)) 0, sgI (8 * size) (X % 2 ^ (8 * size)), sgI (8 * size) (Y % 2 ^ (8 * size)),
    ((cryN (X % 2 ^ (8 * size)) (Y % 2 ^ (8 * size)) cc (8 * size) : Nat) : Int), (cc : Int), decide (X % 2 ^ (8 * size) < Y % 2 ^ (8 * size)), decide (X % 2 ^ (8 * size) = Y % 2 ^ (8 * size)), decide (sgI (8 * size) (X % 2 ^ (8 * size)) < sgI (8 * size) (Y % 2 ^ (8 * size))),
    ⟨c1, fun w => ?_, c3, fun w => zeroYesI a X size w hX hn, fun w => zeroYesI b Y size w hY hn, c6, fun w => ?_, fun w => ?_, fun w => ?_, fun w => ?_, fun w => ?_, fun w => ?_, ?_, ?_, ?_, rfl, ?_, ⟨by omega, by omega⟩, ?_⟩⟩
  · have hcn := carN_of c pf zf sf of
    rw [← hcc] at hcn
    exact AluSYes 3 _ a b _ _ c pf zf sf of w (by decide) hn (Lib.hid fun W => aluS3 a b _ X Y size cc _ _ W hX hY hs1 hs8 hcn rfl rfl)
  · unfold difF
    have h := holdsI 2 (decide (cryN (2 ^ (8 * size) - 1 - X % 2 ^ (8 * size)) (Y % 2 ^ (8 * size)) 0 (8 * size) = 1)) (parN (difN (8 * size) (X % 2 ^ (8 * size)) (Y % 2 ^ (8 * size)) 0)) (difN (8 * size) (X % 2 ^ (8 * size)) (Y % 2 ^ (8 * size)) 0 == 0) (decide (2 ^ (8 * size - 1) ≤ difN (8 * size) (X % 2 ^ (8 * size)) (Y % 2 ^ (8 * size)) 0)) (decide (cryN (2 ^ (8 * size) - 1 - X % 2 ^ (8 * size)) (Y % 2 ^ (8 * size)) 0 (8 * size) ≠ cryN (2 ^ (8 * size) - 1 - X % 2 ^ (8 * size)) (Y % 2 ^ (8 * size)) 0 (8 * size - 1))) w (by decide) (by decide)
    rw [show ∀ c p z s o, hB 2 c p z s o = c by intro c p z s o; revert c p z s o; decide, decide_eq_decide.mpr (cmp_below hA hYY)] at h
    rw [decide_eq_decide.mpr (cmp_below hA hYY)]
    exact h
  · unfold difF
    have h := holdsI 4 (decide (cryN (2 ^ (8 * size) - 1 - X % 2 ^ (8 * size)) (Y % 2 ^ (8 * size)) 0 (8 * size) = 1)) (parN (difN (8 * size) (X % 2 ^ (8 * size)) (Y % 2 ^ (8 * size)) 0)) (difN (8 * size) (X % 2 ^ (8 * size)) (Y % 2 ^ (8 * size)) 0 == 0) (decide (2 ^ (8 * size - 1) ≤ difN (8 * size) (X % 2 ^ (8 * size)) (Y % 2 ^ (8 * size)) 0)) (decide (cryN (2 ^ (8 * size) - 1 - X % 2 ^ (8 * size)) (Y % 2 ^ (8 * size)) 0 (8 * size) ≠ cryN (2 ^ (8 * size) - 1 - X % 2 ^ (8 * size)) (Y % 2 ^ (8 * size)) 0 (8 * size - 1))) w (by decide) (by decide)
    rw [show ∀ c p z s o, hB 4 c p z s o = z by intro c p z s o; revert c p z s o; decide] at h
    have e : (difN (8 * size) (X % 2 ^ (8 * size)) (Y % 2 ^ (8 * size)) 0 == 0) = decide (X % 2 ^ (8 * size) = Y % 2 ^ (8 * size)) := by
      rw [Bool.eq_iff_iff, beq_iff_eq, decide_eq_true_iff]; exact cmp_zero hA hYY
    rw [e] at h ⊢
    exact h
  · unfold difF
    have h := holdsI 12 (decide (cryN (2 ^ (8 * size) - 1 - X % 2 ^ (8 * size)) (Y % 2 ^ (8 * size)) 0 (8 * size) = 1)) (parN (difN (8 * size) (X % 2 ^ (8 * size)) (Y % 2 ^ (8 * size)) 0)) (difN (8 * size) (X % 2 ^ (8 * size)) (Y % 2 ^ (8 * size)) 0 == 0) (decide (2 ^ (8 * size - 1) ≤ difN (8 * size) (X % 2 ^ (8 * size)) (Y % 2 ^ (8 * size)) 0)) (decide (cryN (2 ^ (8 * size) - 1 - X % 2 ^ (8 * size)) (Y % 2 ^ (8 * size)) 0 (8 * size) ≠ cryN (2 ^ (8 * size) - 1 - X % 2 ^ (8 * size)) (Y % 2 ^ (8 * size)) 0 (8 * size - 1))) w (by decide) (by decide)
    rw [show ∀ c p z s o, hB 12 c p z s o = (s != o) by intro c p z s o; revert c p z s o; decide, cmp_less w1 hA hYY] at h
    exact h
  · rw [← sgn_sgI X size hs1 hs8]; exact signYesI a X size w ha hX hn
  · rw [← sgn_sgI Y size hs1 hs8]; exact signYesI b Y size w hb hY hn
  · have h := belowUI (wrap64 ((X % 2 ^ (8 * size) : Nat) : Int)) (wrap64 ((Y % 2 ^ (8 * size) : Nat) : Int)) w
    rw [u _ hA, u _ hYY, decide_eq_decide.mpr Int.ofNat_lt] at h
    exact h
  · unfold sumF; rw [bit1]
    rcases (by omega : cryN (X % 2 ^ (8 * size)) (Y % 2 ^ (8 * size)) cc (8 * size) = 0 ∨ cryN (X % 2 ^ (8 * size)) (Y % 2 ^ (8 * size)) cc (8 * size) = 1) with e | e <;> rw [e] <;> rfl
  · unfold difF; rw [bit1, add_borrow hA hYY hc1]
    rcases (by omega : cryN (X % 2 ^ (8 * size)) (Y % 2 ^ (8 * size)) cc (8 * size) = 0 ∨ cryN (X % 2 ^ (8 * size)) (Y % 2 ^ (8 * size)) cc (8 * size) = 1) with e | e <;> rw [e] <;> rfl
  · rw [Bool.eq_iff_iff, beq_iff_eq, decide_eq_true_iff]
    constructor
    · intro e
      have e2 := congrArg IntKind.u64.wrap e
      rw [u _ hA, u _ hYY] at e2; omega
    · intro e; rw [e]
  · rw [bit1, hcc]; cases c <;> rfl
  · rcases (by unfold okSize at hn; omega : size = 8 ∨ size = 1 ∨ size = 2 ∨ size = 4) with e | e
    · left; rw [e]; rfl
    · right
      have h32 : 2 ^ (8 * size) ≤ 4294967296 := by rcases e with rfl | rfl | rfl <;> decide
      have t : ∀ N : Nat, N < 4294967296 → wrap64 (N : Int) = (N : Int) := fun N h => by unfold wrap64; omega
      rw [t _ (by omega), t _ (by omega), t _ (by omega)]
      have hd := Nat.div_add_mod (X % 2 ^ (8 * size) + Y % 2 ^ (8 * size) + cc) (2 ^ (8 * size))
      have hcq : cryN (X % 2 ^ (8 * size)) (Y % 2 ^ (8 * size)) cc (8 * size) = (X % 2 ^ (8 * size) + Y % 2 ^ (8 * size) + cc) / 2 ^ (8 * size) := by unfold cryN; rw [m _ hA, m _ hYY]
      rw [← hcq] at hd
      have hpI : ((2 : Int) ^ (8 * size)) = ((2 ^ (8 * size) : Nat) : Int) := by simp
      rw [show (8 * (size : Int).toNat) = 8 * size by omega, hpI]
      have hS2 : sumN (8 * size) (X % 2 ^ (8 * size)) (Y % 2 ^ (8 * size)) cc = (X % 2 ^ (8 * size) + Y % 2 ^ (8 * size) + cc) % 2 ^ (8 * size) := rfl
      rw [hS2] at hS ⊢
      refine ⟨by omega, by omega, by omega, by omega, by omega, by omega, ?_⟩
      have hd2 := congrArg (fun n : Nat => (n : Int)) hd
      simp only [Int.natCast_add, Int.natCast_mul] at hd2
      rw [Int.mul_comm ((cryN _ _ _ _ : Nat) : Int)]
      omega
end Go.Proofs.YtifpcfhfglkbcaaGreatDoor
