/-
  Divide with signs, its numbers told where the dividend is a product of the divisor, and where the divisor is zero; conditions: those in each head.
-/
import Derived.Test.YtbcbepdfijcbmaaDoorWalkDp
import Derived.Test.YtbcbepdfijcbmaaDoorWalkMx
namespace Go.Proofs.YtbcbepdfijcbmaaDoor
open Go.RowKit
set_option linter.unusedVariables false
theorem mulsgnP {u s : Int} (hs : 0 < s) : (0 ≤ u * s → 0 ≤ u) ∧ (u * s < 0 → u < 0) := by
  constructor <;> intro h
  · apply Int.not_lt.mp; intro hu
    have : u * s ≤ -1 * s := Int.mul_le_mul_of_nonneg_right (by omega) (by omega)
    omega
  · apply Int.not_le.mp; intro hu
    have : 0 ≤ u * s := Int.mul_nonneg hu (by omega)
    omega
theorem mulsgnN {u s : Int} (hs : s < 0) : (0 ≤ u * s → u ≤ 0) ∧ (u * s < 0 → 0 < u) := by
  have e : u * s = (-u) * (-s) := by rw [Int.neg_mul_neg]
  have := mulsgnP (u := -u) (s := -s) (by omega)
  rw [← e] at this
  constructor <;> intro h
  · have := this.1 h; omega
  · have := this.2 h; omega
theorem neg_two {H L : Int} (h0 : 0 ≤ H ∧ H < 18446744073709551616) (l0 : 0 ≤ L ∧ L < 18446744073709551616) (hn : 9223372036854775808 ≤ H) : negH H L * 18446744073709551616 + negL L = 340282366920938463463374607431768211456 - (H * 18446744073709551616 + L) := by
  unfold negH negL; split <;> omega
theorem bmod_b (d : Int) : (-128 ≤ Int.bmod d 256 ∧ Int.bmod d 256 < 128) ∧ (-32768 ≤ Int.bmod d 65536 ∧ Int.bmod d 65536 < 32768) ∧ (-2147483648 ≤ Int.bmod d 4294967296 ∧ Int.bmod d 4294967296 < 2147483648) ∧ (-9223372036854775808 ≤ Int.bmod d 18446744073709551616 ∧ Int.bmod d 18446744073709551616 < 9223372036854775808) := by
  simp only [Int.bmod_def]
  refine ⟨⟨?_, ?_⟩, ⟨?_, ?_⟩, ⟨?_, ?_⟩, ⟨?_, ?_⟩⟩ <;> split <;> omega
theorem joQ1 (h l : Int) (hh : (Lit.int .i64 h).wf = true) (hl : (Lit.int .i64 l).wf = true) : ∃ H L : Int, (0 ≤ H ∧ H < 18446744073709551616) ∧ (0 ≤ L ∧ L < 18446744073709551616) ∧ (((h % 256 * 256 + l % 256) < 32768 ∧ H * 18446744073709551616 + L = (h % 256 * 256 + l % 256)) ∨ (32768 ≤ (h % 256 * 256 + l % 256) ∧ H * 18446744073709551616 + L = 340282366920938463463374607431768145920 + (h % 256 * 256 + l % 256))) ∧
    (∀ w, Calls Tryd.prog 54 #[.int .i64 h, .int .i64 l, .int .i64 1, .bool true] w fun e w' => e = .returned (.agg #[.int .i64 (wrap64 H), .int .i64 (wrap64 L)]) ∧ Below w.heap.size w w') := by
  obtain ⟨X, hX⟩ := natU h
  obtain ⟨Y, hY⟩ := natU l
  have un (v : Int) (V : Nat) (hV : IntKind.u64.wrap v = (V : Int)) (w : World) : Calls Tryd.prog 46 #[.int .i64 v, .int .i64 1] w fun e w' => e = .returned (.tuple #[.int .i64 (wrap64 ((V % 2 ^ (8 * 1) : Nat) : Int)), .nilIface]) ∧ w = w' := by
    rw [eqZ1 hV]; exact unsigned1 v w
  have zr (v : Int) (V : Nat) (hV : IntKind.u64.wrap v = (V : Int)) (w : World) := specZeroL v V 1 w hV (by decide) (by decide)
  obtain ⟨V, hV, hV2, hor⟩ := orI1 X Y hX
  have uV : IntKind.u64.wrap (wrap64 (V : Int)) = (V : Int) := u_w64 (by omega) (by omega)
  have si (w : World) : Calls Tryd.prog 85 #[.int .i64 (wrap64 (V : Int)), .int .i64 2] w fun e w' => e = .returned (.tuple #[.int .i64 (wrap64 (sgnU V 2 : Int)), .nilIface]) ∧ w = w' := by
    rw [eqS2 uV]; exact signed2 _ w
  have hI := joinX1 h l 0 _ _ _ _ true hor (widUx l 1 _ (un l Y hY)) (widSx (wrap64 (V : Int)) 2 _ si)
  clear hor
  obtain ⟨s, hs⟩ : ∃ s : Int, s = wrap64 (sgnU V 2 : Int) := ⟨_, rfl⟩
  rw [← hs] at hI
  rw [sgn_int V 2 (by decide), show (2 : Nat) ^ (8 * 2) = 65536 from rfl, Int.bmod_def] at hs
  obtain ⟨A, hA⟩ : ∃ A : Nat, A = X % 256 * 256 + Y % 256 := ⟨_, rfl⟩
  have hAi : (A : Int) = (h % 256 * 256 + l % 256) := by clear hI hV hV2 uV hs si; rw [wrapU] at hX hY; omega
  have hA2 : A < 65536 := by rw [hA]; clear hI hV hV2 uV hs si hX hY hA hAi; omega
  rw [← hA] at hV
  rw [show (((V : Int) % (((65536 : Nat) : Int)))) = (A : Int) by rw [← hV]; rfl] at hs
  rw [← hAi]
  clear hX hY hV hV2 uV zr hA hAi un
  by_cases ht : A < 32768
  · have es : s = (A : Int) := by rw [hs, if_pos (by omega)]
    clear hs
    refine ⟨0, (A : Int), by decide, by omega, .inl ⟨by omega, by omega⟩, fun w => ?_⟩
    have e1 : s / 9223372036854775808 = wrap64 0 := by rw [w00, es]; omega
    have e2 : wrap64 (A : Int) = s := by rw [es]; exact w64_in (by omega) (by omega)
    rw [e2, ← e1]; exact hI w
  · have es : s = (A : Int) - 65536 := by rw [hs, if_neg (by omega)]; rfl
    clear hs
    refine ⟨18446744073709551615, (A : Int) + 18446744073709486080, by decide, by omega, .inr ⟨by omega, by omega⟩, fun w => ?_⟩
    have e1 : s / 9223372036854775808 = wrap64 18446744073709551615 := by rw [wm1, es]; omega
    have e2 : wrap64 ((A : Int) + 18446744073709486080) = s := by rw [es]; unfold wrap64; omega
    rw [e2, ← e1]; exact hI w
set_option maxHeartbeats 2000000 in
theorem divP16_1 (h l d u : Int) (hh : (Lit.int .i64 h).wf = true) (hl : (Lit.int .i64 l).wf = true) (hd : (Lit.int .i64 d).wf = true) (hu : -128 ≤ u ∧ u < 128) (hP : h % 256 * 256 + l % 256 = u * Int.bmod d 256 % 65536) (hd0 : Int.bmod d 256 ≠ 0) :
    ∀ w, Calls Tryd.prog 24 #[.int .i64 16, .int .i64 1, .int .i64 h, .int .i64 l, .int .i64 d] w fun e w' => e = .returned (.tuple #[.int .i64 (wrap64 (u % 256)), .int .i64 0, .int .i64 0]) ∧ Below w.heap.size w w' := by
  obtain ⟨D, hD⟩ := natU d
  have hn : okSize (1 : Int) := by unfold okSize; omega
  have un (v : Int) (V : Nat) (hV : IntKind.u64.wrap v = (V : Int)) (w : World) : Calls Tryd.prog 46 #[.int .i64 v, .int .i64 1] w fun e w' => e = .returned (.tuple #[.int .i64 (wrap64 ((V % 2 ^ (8 * 1) : Nat) : Int)), .nilIface]) ∧ w = w' := by
    rw [eqZ1 hV]; exact unsigned1 v w
  have zr (v : Int) (V : Nat) (hV : IntKind.u64.wrap v = (V : Int)) (w : World) := specZeroL v V 1 w hV (by decide) (by decide)
  have si (v : Int) (V : Nat) (hv : (Lit.int .i64 v).wf = true) (hV : IntKind.u64.wrap v = (V : Int)) (w : World) : Calls Tryd.prog 85 #[.int .i64 v, .int .i64 1] w fun e w' => e = .returned (.tuple #[.int .i64 (wrap64 (sgnU V 1 : Int)), .nilIface]) ∧ w = w' := by
    rw [eqS1 hV]; exact signed1 v w
  obtain ⟨H, L, hH, hL, eHL, jI⟩ := joQ1 h l hh hl
  obtain ⟨s, hs⟩ : ∃ s : Int, s = wrap64 (sgnU D 1 : Int) := ⟨_, rfl⟩
  have sb := sgn_b D 1 (by decide) (by decide)
  have wD := widSx d 1 _ (si d D hd hD)
  rw [← hs] at sb wD
  have es : s = Int.bmod d 256 := by
    rw [hs, sgn_int D 1 (by decide), show ((2 ^ (8 * 1) : Nat)) = 256 from rfl, Int.bmod_def, Int.bmod_def]
    clear hs sb wD eHL jI; rw [wrapU] at hD
    have : (D : Int) % ((256 : Nat) : Int) = d % ((256 : Nat) : Int) := by omega
    rw [this]
  have s0 := (bmod_b d).1
  rw [← es] at s0
  clear hs
  rw [← es] at hP hd0
  rw [hP] at eHL
  have pb := prodS_le (x := u) (y := s) (H := 128) (by omega) (by omega)
  have pos : 0 ≤ u * s → H * 18446744073709551616 + L = u * s := by clear hP es wD jI; generalize u * s = N at *; omega
  have neg : u * s < 0 → H * 18446744073709551616 + L = 340282366920938463463374607431768211456 + u * s := by clear hP es wD jI pos; generalize u * s = N at *; omega
  clear eHL hP es pb
  obtain ⟨Q, eQ⟩ := natU (wrap64 u)
  obtain ⟨R, eR⟩ := natU (wrap64 0)
  have wQ := widUx (wrap64 u) 1 _ (un _ Q eQ)
  have wR := widUx (wrap64 0) 1 _ (un _ R eR)
  have nw0 : wrap64 (-(wrap64 0)) = wrap64 0 := by unfold wrap64; omega
  have eQu : wrap64 ((Q % 2 ^ (8 * 1) : Nat) : Int) = wrap64 (u % 256) := by
    clear wQ wR; rw [wrapU] at eQ; rw [show (2 : Nat) ^ (8 * 1) = 256 from rfl]; unfold wrap64 at *; omega
  rw [lowU1 (by decide) (by decide) eR] at wR
  rw [eQu] at wQ
  clear eQu eR
  by_cases hN : 0 ≤ u * s
  · have eH := pos hN
    have b2 : u * s < 170141183460469231731687303715884105728 := by
      have := prodS_le (x := u) (y := s) (H := 128) (by omega) (by omega)
      omega
    have hm : ¬ 9223372036854775808 ≤ H := by omega
    clear pos neg b2
    by_cases hs0 : s < 0
    · have sg := (mulsgnN (u := u) hs0).1 hN
      have ea : absU s = (-s) := by unfold absU; omega
      have eN : H * 18446744073709551616 + L = (-u) * absU s := by
        rw [ea]
        rw [Int.neg_mul_neg]; exact eH
      have nb : 0 ≤ H ∧ H < 18446744073709551616 := hH
      have lb : 0 ≤ L ∧ L < 18446744073709551616 := hL
      have a0 : 0 < absU s := by rw [ea]; omega
      have hlt : H < absU s := hi_lt lb.1 (by omega) a0 eN
      obtain ⟨q1, q2⟩ := dq_prod (by omega) eN
      have hm' : decide (9223372036854775808 ≤ H) = false := decide_eq_false hm
      have hsn : decide (s < 0) = true := decide_eq_true hs0
      have ds := dsYesFT hH.1 hH.2 hL.1 hL.2 sb.1 sb.2 hm' hsn hlt
      simp only [q1, q2] at ds
      have eql : qL true (-u) = wrap64 u := by unfold qL; show wrap64 (- -u) = wrap64 u; rw [Int.neg_neg]
      rw [eql] at ds
      have fi := fitsX (qH true (-u)) (wrap64 u) 1 _ _ true (widSx (wrap64 u) 1 _ (si _ Q (wrap64_wf _) eQ))
      have eQ' : IntKind.u64.wrap (wrap64 (- -u)) = (Q : Int) := by rw [Int.neg_neg]; exact eQ
      have ft := fitT1 (q := -u) (by omega) (by omega) eQ'
      rw [Int.neg_neg] at ft
      rw [ft, show decide (128 < -u) = false from decide_eq_false (by omega), Bool.not_false] at fi
      intro w
      have fin := divI16Y 1 h l d _ _ _ _ _ _ _ _ _ _ _ hn jI wD ds fi wQ wR w
      rw [w00] at fin
      exact fin
    · have sg := (mulsgnP (u := u) (by omega : 0 < s)).1 hN
      have ea : absU s = s := by unfold absU; omega
      have eN : H * 18446744073709551616 + L = u * absU s := by
        rw [ea]
        exact eH
      have nb : 0 ≤ H ∧ H < 18446744073709551616 := hH
      have lb : 0 ≤ L ∧ L < 18446744073709551616 := hL
      have a0 : 0 < absU s := by rw [ea]; omega
      have hlt : H < absU s := hi_lt lb.1 (by omega) a0 eN
      obtain ⟨q1, q2⟩ := dq_prod (by omega) eN
      have hm' : decide (9223372036854775808 ≤ H) = false := decide_eq_false hm
      have hsn : decide (s < 0) = false := decide_eq_false hs0
      have ds := dsYesFF hH.1 hH.2 hL.1 hL.2 sb.1 sb.2 hm' hsn hlt
      simp only [q1, q2] at ds
      have fi := fitsX 0 (wrap64 u) 1 _ _ true (widSx (wrap64 u) 1 _ (si _ Q (wrap64_wf _) eQ))
      rw [fitP1 (by omega) (by omega) eQ, show decide (128 < u) = false from decide_eq_false (by omega), show (u == 128) = false from beq_eq_false_iff_ne.mpr (by omega), Bool.false_or, Bool.not_false] at fi
      intro w
      have fin := divI16Y 1 h l d _ _ _ _ _ _ _ _ _ _ _ hn jI wD ds fi wQ wR w
      rw [w00] at fin
      exact fin
  · have eH := neg (by omega)
    have b2 : -170141183460469231731687303715884105728 ≤ u * s := by
      have := prodS_le (x := u) (y := s) (H := 128) (by omega) (by omega)
      omega
    have hm : 9223372036854775808 ≤ H := by omega
    clear pos neg b2
    by_cases hs0 : s < 0
    · have sg := (mulsgnN (u := u) hs0).2 (by omega)
      have ea : absU s = (-s) := by unfold absU; omega
      have eN : (negH H L) * 18446744073709551616 + (negL L) = u * absU s := by
        rw [ea, neg_two hH hL hm]
        rw [Int.mul_neg]; omega
      have nb : 0 ≤ (negH H L) ∧ (negH H L) < 18446744073709551616 := negH_b (L := L) hH.1 hH.2
      have lb : 0 ≤ (negL L) ∧ (negL L) < 18446744073709551616 := negL_b L
      have a0 : 0 < absU s := by rw [ea]; omega
      have hlt : (negH H L) < absU s := hi_lt lb.1 (by omega) a0 eN
      obtain ⟨q1, q2⟩ := dq_prod (by omega) eN
      have hm' : decide (9223372036854775808 ≤ H) = true := decide_eq_true hm
      have hsn : decide (s < 0) = true := decide_eq_true hs0
      have ds := dsYesTT hH.1 hH.2 hL.1 hL.2 sb.1 sb.2 hm' hsn hlt
      simp only [q1, q2] at ds
      simp only [nw0] at ds
      have fi := fitsX 0 (wrap64 u) 1 _ _ true (widSx (wrap64 u) 1 _ (si _ Q (wrap64_wf _) eQ))
      rw [fitP1 (by omega) (by omega) eQ, show decide (128 < u) = false from decide_eq_false (by omega), show (u == 128) = false from beq_eq_false_iff_ne.mpr (by omega), Bool.false_or, Bool.not_false] at fi
      intro w
      have fin := divI16Y 1 h l d _ _ _ _ _ _ _ _ _ _ _ hn jI wD ds fi wQ wR w
      rw [w00] at fin
      exact fin
    · have sg := (mulsgnP (u := u) (by omega : 0 < s)).2 (by omega)
      have ea : absU s = s := by unfold absU; omega
      have eN : (negH H L) * 18446744073709551616 + (negL L) = (-u) * absU s := by
        rw [ea, neg_two hH hL hm]
        rw [Int.neg_mul]; omega
      have nb : 0 ≤ (negH H L) ∧ (negH H L) < 18446744073709551616 := negH_b (L := L) hH.1 hH.2
      have lb : 0 ≤ (negL L) ∧ (negL L) < 18446744073709551616 := negL_b L
      have a0 : 0 < absU s := by rw [ea]; omega
      have hlt : (negH H L) < absU s := hi_lt lb.1 (by omega) a0 eN
      obtain ⟨q1, q2⟩ := dq_prod (by omega) eN
      have hm' : decide (9223372036854775808 ≤ H) = true := decide_eq_true hm
      have hsn : decide (s < 0) = false := decide_eq_false hs0
      have ds := dsYesTF hH.1 hH.2 hL.1 hL.2 sb.1 sb.2 hm' hsn hlt
      simp only [q1, q2] at ds
      simp only [nw0] at ds
      have eql : qL true (-u) = wrap64 u := by unfold qL; show wrap64 (- -u) = wrap64 u; rw [Int.neg_neg]
      rw [eql] at ds
      have fi := fitsX (qH true (-u)) (wrap64 u) 1 _ _ true (widSx (wrap64 u) 1 _ (si _ Q (wrap64_wf _) eQ))
      have eQ' : IntKind.u64.wrap (wrap64 (- -u)) = (Q : Int) := by rw [Int.neg_neg]; exact eQ
      have ft := fitT1 (q := -u) (by omega) (by omega) eQ'
      rw [Int.neg_neg] at ft
      rw [ft, show decide (128 < -u) = false from decide_eq_false (by omega), Bool.not_false] at fi
      intro w
      have fin := divI16Y 1 h l d _ _ _ _ _ _ _ _ _ _ _ hn jI wD ds fi wQ wR w
      rw [w00] at fin
      exact fin
set_option maxHeartbeats 2000000 in
theorem divZ16_1 (h l d : Int) (hh : (Lit.int .i64 h).wf = true) (hl : (Lit.int .i64 l).wf = true) (hd : (Lit.int .i64 d).wf = true) (hd0 : Int.bmod d 256 = 0) :
    ∃ q r, ∀ w, Calls Tryd.prog 24 #[.int .i64 16, .int .i64 1, .int .i64 h, .int .i64 l, .int .i64 d] w fun e w' => e = .returned (.tuple #[.int .i64 q, .int .i64 r, .int .i64 16]) ∧ Below w.heap.size w w' := by
  obtain ⟨D, hD⟩ := natU d
  have hn : okSize (1 : Int) := by unfold okSize; omega
  have un (v : Int) (V : Nat) (hV : IntKind.u64.wrap v = (V : Int)) (w : World) : Calls Tryd.prog 46 #[.int .i64 v, .int .i64 1] w fun e w' => e = .returned (.tuple #[.int .i64 (wrap64 ((V % 2 ^ (8 * 1) : Nat) : Int)), .nilIface]) ∧ w = w' := by
    rw [eqZ1 hV]; exact unsigned1 v w
  have zr (v : Int) (V : Nat) (hV : IntKind.u64.wrap v = (V : Int)) (w : World) := specZeroL v V 1 w hV (by decide) (by decide)
  have si (v : Int) (V : Nat) (hv : (Lit.int .i64 v).wf = true) (hV : IntKind.u64.wrap v = (V : Int)) (w : World) : Calls Tryd.prog 85 #[.int .i64 v, .int .i64 1] w fun e w' => e = .returned (.tuple #[.int .i64 (wrap64 (sgnU V 1 : Int)), .nilIface]) ∧ w = w' := by
    rw [eqS1 hV]; exact signed1 v w
  obtain ⟨H, L, hH, hL, eHL, jI⟩ := joQ1 h l hh hl
  obtain ⟨s, hs⟩ : ∃ s : Int, s = wrap64 (sgnU D 1 : Int) := ⟨_, rfl⟩
  have sb := sgn_b D 1 (by decide) (by decide)
  have wD := widSx d 1 _ (si d D hd hD)
  rw [← hs] at sb wD
  have es : s = Int.bmod d 256 := by
    rw [hs, sgn_int D 1 (by decide), show ((2 ^ (8 * 1) : Nat)) = 256 from rfl, Int.bmod_def, Int.bmod_def]
    clear hs sb wD eHL jI; rw [wrapU] at hD
    have : (D : Int) % ((256 : Nat) : Int) = d % ((256 : Nat) : Int) := by omega
    rw [this]
  have s0 := (bmod_b d).1
  rw [← es] at s0
  clear hs
  rw [← es] at hd0
  have a0 : absU s = 0 := by unfold absU; omega
  have hsn : decide (s < 0) = false := decide_eq_false (by omega)
  by_cases hm : 9223372036854775808 ≤ H
  · have hm' : decide (9223372036854775808 ≤ H) = true := decide_eq_true hm
    have nb := negH_b (L := L) hH.1 hH.2
    have ds := dsNoTF hH.1 hH.2 hL.1 hL.2 sb.1 sb.2 hm' hsn (by rw [a0]; omega)
    exact ⟨_, _, fun w => divI16K 1 h l d _ _ _ _ _ _ _ 0 0 0 0 hn jI wD ds w⟩
  · have hm' : decide (9223372036854775808 ≤ H) = false := decide_eq_false hm
    have ds := dsNoFF hH.1 hH.2 hL.1 hL.2 sb.1 sb.2 hm' hsn (by rw [a0]; omega)
    exact ⟨_, _, fun w => divI16K 1 h l d _ _ _ _ _ _ _ 0 0 0 0 hn jI wD ds w⟩
theorem joQ2 (h l : Int) (hh : (Lit.int .i64 h).wf = true) (hl : (Lit.int .i64 l).wf = true) : ∃ H L : Int, (0 ≤ H ∧ H < 18446744073709551616) ∧ (0 ≤ L ∧ L < 18446744073709551616) ∧ (((h % 65536 * 65536 + l % 65536) < 2147483648 ∧ H * 18446744073709551616 + L = (h % 65536 * 65536 + l % 65536)) ∨ (2147483648 ≤ (h % 65536 * 65536 + l % 65536) ∧ H * 18446744073709551616 + L = 340282366920938463463374607427473244160 + (h % 65536 * 65536 + l % 65536))) ∧
    (∀ w, Calls Tryd.prog 54 #[.int .i64 h, .int .i64 l, .int .i64 2, .bool true] w fun e w' => e = .returned (.agg #[.int .i64 (wrap64 H), .int .i64 (wrap64 L)]) ∧ Below w.heap.size w w') := by
  obtain ⟨X, hX⟩ := natU h
  obtain ⟨Y, hY⟩ := natU l
  have un (v : Int) (V : Nat) (hV : IntKind.u64.wrap v = (V : Int)) (w : World) : Calls Tryd.prog 46 #[.int .i64 v, .int .i64 2] w fun e w' => e = .returned (.tuple #[.int .i64 (wrap64 ((V % 2 ^ (8 * 2) : Nat) : Int)), .nilIface]) ∧ w = w' := by
    rw [eqZ2 hV]; exact unsigned2 v w
  have zr (v : Int) (V : Nat) (hV : IntKind.u64.wrap v = (V : Int)) (w : World) := specZeroL v V 2 w hV (by decide) (by decide)
  obtain ⟨V, hV, hV2, hor⟩ := orI2 X Y hX
  have uV : IntKind.u64.wrap (wrap64 (V : Int)) = (V : Int) := u_w64 (by omega) (by omega)
  have si (w : World) : Calls Tryd.prog 85 #[.int .i64 (wrap64 (V : Int)), .int .i64 4] w fun e w' => e = .returned (.tuple #[.int .i64 (wrap64 (sgnU V 4 : Int)), .nilIface]) ∧ w = w' := by
    rw [eqS4 uV]; exact signed4 _ w
  have hI := joinX2 h l 0 _ _ _ _ true hor (widUx l 2 _ (un l Y hY)) (widSx (wrap64 (V : Int)) 4 _ si)
  clear hor
  obtain ⟨s, hs⟩ : ∃ s : Int, s = wrap64 (sgnU V 4 : Int) := ⟨_, rfl⟩
  rw [← hs] at hI
  rw [sgn_int V 4 (by decide), show (2 : Nat) ^ (8 * 4) = 4294967296 from rfl, Int.bmod_def] at hs
  obtain ⟨A, hA⟩ : ∃ A : Nat, A = X % 65536 * 65536 + Y % 65536 := ⟨_, rfl⟩
  have hAi : (A : Int) = (h % 65536 * 65536 + l % 65536) := by clear hI hV hV2 uV hs si; rw [wrapU] at hX hY; omega
  have hA2 : A < 4294967296 := by rw [hA]; clear hI hV hV2 uV hs si hX hY hA hAi; omega
  rw [← hA] at hV
  rw [show (((V : Int) % (((4294967296 : Nat) : Int)))) = (A : Int) by rw [← hV]; rfl] at hs
  rw [← hAi]
  clear hX hY hV hV2 uV zr hA hAi un
  by_cases ht : A < 2147483648
  · have es : s = (A : Int) := by rw [hs, if_pos (by omega)]
    clear hs
    refine ⟨0, (A : Int), by decide, by omega, .inl ⟨by omega, by omega⟩, fun w => ?_⟩
    have e1 : s / 9223372036854775808 = wrap64 0 := by rw [w00, es]; omega
    have e2 : wrap64 (A : Int) = s := by rw [es]; exact w64_in (by omega) (by omega)
    rw [e2, ← e1]; exact hI w
  · have es : s = (A : Int) - 4294967296 := by rw [hs, if_neg (by omega)]; rfl
    clear hs
    refine ⟨18446744073709551615, (A : Int) + 18446744069414584320, by decide, by omega, .inr ⟨by omega, by omega⟩, fun w => ?_⟩
    have e1 : s / 9223372036854775808 = wrap64 18446744073709551615 := by rw [wm1, es]; omega
    have e2 : wrap64 ((A : Int) + 18446744069414584320) = s := by rw [es]; unfold wrap64; omega
    rw [e2, ← e1]; exact hI w
set_option maxHeartbeats 2000000 in
theorem divP16_2 (h l d u : Int) (hh : (Lit.int .i64 h).wf = true) (hl : (Lit.int .i64 l).wf = true) (hd : (Lit.int .i64 d).wf = true) (hu : -32768 ≤ u ∧ u < 32768) (hP : h % 65536 * 65536 + l % 65536 = u * Int.bmod d 65536 % 4294967296) (hd0 : Int.bmod d 65536 ≠ 0) :
    ∀ w, Calls Tryd.prog 24 #[.int .i64 16, .int .i64 2, .int .i64 h, .int .i64 l, .int .i64 d] w fun e w' => e = .returned (.tuple #[.int .i64 (wrap64 (u % 65536)), .int .i64 0, .int .i64 0]) ∧ Below w.heap.size w w' := by
  obtain ⟨D, hD⟩ := natU d
  have hn : okSize (2 : Int) := by unfold okSize; omega
  have un (v : Int) (V : Nat) (hV : IntKind.u64.wrap v = (V : Int)) (w : World) : Calls Tryd.prog 46 #[.int .i64 v, .int .i64 2] w fun e w' => e = .returned (.tuple #[.int .i64 (wrap64 ((V % 2 ^ (8 * 2) : Nat) : Int)), .nilIface]) ∧ w = w' := by
    rw [eqZ2 hV]; exact unsigned2 v w
  have zr (v : Int) (V : Nat) (hV : IntKind.u64.wrap v = (V : Int)) (w : World) := specZeroL v V 2 w hV (by decide) (by decide)
  have si (v : Int) (V : Nat) (hv : (Lit.int .i64 v).wf = true) (hV : IntKind.u64.wrap v = (V : Int)) (w : World) : Calls Tryd.prog 85 #[.int .i64 v, .int .i64 2] w fun e w' => e = .returned (.tuple #[.int .i64 (wrap64 (sgnU V 2 : Int)), .nilIface]) ∧ w = w' := by
    rw [eqS2 hV]; exact signed2 v w
  obtain ⟨H, L, hH, hL, eHL, jI⟩ := joQ2 h l hh hl
  obtain ⟨s, hs⟩ : ∃ s : Int, s = wrap64 (sgnU D 2 : Int) := ⟨_, rfl⟩
  have sb := sgn_b D 2 (by decide) (by decide)
  have wD := widSx d 2 _ (si d D hd hD)
  rw [← hs] at sb wD
  have es : s = Int.bmod d 65536 := by
    rw [hs, sgn_int D 2 (by decide), show ((2 ^ (8 * 2) : Nat)) = 65536 from rfl, Int.bmod_def, Int.bmod_def]
    clear hs sb wD eHL jI; rw [wrapU] at hD
    have : (D : Int) % ((65536 : Nat) : Int) = d % ((65536 : Nat) : Int) := by omega
    rw [this]
  have s0 := (bmod_b d).2.1
  rw [← es] at s0
  clear hs
  rw [← es] at hP hd0
  rw [hP] at eHL
  have pb := prodS_le (x := u) (y := s) (H := 32768) (by omega) (by omega)
  have pos : 0 ≤ u * s → H * 18446744073709551616 + L = u * s := by clear hP es wD jI; generalize u * s = N at *; omega
  have neg : u * s < 0 → H * 18446744073709551616 + L = 340282366920938463463374607431768211456 + u * s := by clear hP es wD jI pos; generalize u * s = N at *; omega
  clear eHL hP es pb
  obtain ⟨Q, eQ⟩ := natU (wrap64 u)
  obtain ⟨R, eR⟩ := natU (wrap64 0)
  have wQ := widUx (wrap64 u) 2 _ (un _ Q eQ)
  have wR := widUx (wrap64 0) 2 _ (un _ R eR)
  have nw0 : wrap64 (-(wrap64 0)) = wrap64 0 := by unfold wrap64; omega
  have eQu : wrap64 ((Q % 2 ^ (8 * 2) : Nat) : Int) = wrap64 (u % 65536) := by
    clear wQ wR; rw [wrapU] at eQ; rw [show (2 : Nat) ^ (8 * 2) = 65536 from rfl]; unfold wrap64 at *; omega
  rw [lowU2 (by decide) (by decide) eR] at wR
  rw [eQu] at wQ
  clear eQu eR
  by_cases hN : 0 ≤ u * s
  · have eH := pos hN
    have b2 : u * s < 170141183460469231731687303715884105728 := by
      have := prodS_le (x := u) (y := s) (H := 32768) (by omega) (by omega)
      omega
    have hm : ¬ 9223372036854775808 ≤ H := by omega
    clear pos neg b2
    by_cases hs0 : s < 0
    · have sg := (mulsgnN (u := u) hs0).1 hN
      have ea : absU s = (-s) := by unfold absU; omega
      have eN : H * 18446744073709551616 + L = (-u) * absU s := by
        rw [ea]
        rw [Int.neg_mul_neg]; exact eH
      have nb : 0 ≤ H ∧ H < 18446744073709551616 := hH
      have lb : 0 ≤ L ∧ L < 18446744073709551616 := hL
      have a0 : 0 < absU s := by rw [ea]; omega
      have hlt : H < absU s := hi_lt lb.1 (by omega) a0 eN
      obtain ⟨q1, q2⟩ := dq_prod (by omega) eN
      have hm' : decide (9223372036854775808 ≤ H) = false := decide_eq_false hm
      have hsn : decide (s < 0) = true := decide_eq_true hs0
      have ds := dsYesFT hH.1 hH.2 hL.1 hL.2 sb.1 sb.2 hm' hsn hlt
      simp only [q1, q2] at ds
      have eql : qL true (-u) = wrap64 u := by unfold qL; show wrap64 (- -u) = wrap64 u; rw [Int.neg_neg]
      rw [eql] at ds
      have fi := fitsX (qH true (-u)) (wrap64 u) 2 _ _ true (widSx (wrap64 u) 2 _ (si _ Q (wrap64_wf _) eQ))
      have eQ' : IntKind.u64.wrap (wrap64 (- -u)) = (Q : Int) := by rw [Int.neg_neg]; exact eQ
      have ft := fitT2 (q := -u) (by omega) (by omega) eQ'
      rw [Int.neg_neg] at ft
      rw [ft, show decide (32768 < -u) = false from decide_eq_false (by omega), Bool.not_false] at fi
      intro w
      have fin := divI16Y 2 h l d _ _ _ _ _ _ _ _ _ _ _ hn jI wD ds fi wQ wR w
      rw [w00] at fin
      exact fin
    · have sg := (mulsgnP (u := u) (by omega : 0 < s)).1 hN
      have ea : absU s = s := by unfold absU; omega
      have eN : H * 18446744073709551616 + L = u * absU s := by
        rw [ea]
        exact eH
      have nb : 0 ≤ H ∧ H < 18446744073709551616 := hH
      have lb : 0 ≤ L ∧ L < 18446744073709551616 := hL
      have a0 : 0 < absU s := by rw [ea]; omega
      have hlt : H < absU s := hi_lt lb.1 (by omega) a0 eN
      obtain ⟨q1, q2⟩ := dq_prod (by omega) eN
      have hm' : decide (9223372036854775808 ≤ H) = false := decide_eq_false hm
      have hsn : decide (s < 0) = false := decide_eq_false hs0
      have ds := dsYesFF hH.1 hH.2 hL.1 hL.2 sb.1 sb.2 hm' hsn hlt
      simp only [q1, q2] at ds
      have fi := fitsX 0 (wrap64 u) 2 _ _ true (widSx (wrap64 u) 2 _ (si _ Q (wrap64_wf _) eQ))
      rw [fitP2 (by omega) (by omega) eQ, show decide (32768 < u) = false from decide_eq_false (by omega), show (u == 32768) = false from beq_eq_false_iff_ne.mpr (by omega), Bool.false_or, Bool.not_false] at fi
      intro w
      have fin := divI16Y 2 h l d _ _ _ _ _ _ _ _ _ _ _ hn jI wD ds fi wQ wR w
      rw [w00] at fin
      exact fin
  · have eH := neg (by omega)
    have b2 : -170141183460469231731687303715884105728 ≤ u * s := by
      have := prodS_le (x := u) (y := s) (H := 32768) (by omega) (by omega)
      omega
    have hm : 9223372036854775808 ≤ H := by omega
    clear pos neg b2
    by_cases hs0 : s < 0
    · have sg := (mulsgnN (u := u) hs0).2 (by omega)
      have ea : absU s = (-s) := by unfold absU; omega
      have eN : (negH H L) * 18446744073709551616 + (negL L) = u * absU s := by
        rw [ea, neg_two hH hL hm]
        rw [Int.mul_neg]; omega
      have nb : 0 ≤ (negH H L) ∧ (negH H L) < 18446744073709551616 := negH_b (L := L) hH.1 hH.2
      have lb : 0 ≤ (negL L) ∧ (negL L) < 18446744073709551616 := negL_b L
      have a0 : 0 < absU s := by rw [ea]; omega
      have hlt : (negH H L) < absU s := hi_lt lb.1 (by omega) a0 eN
      obtain ⟨q1, q2⟩ := dq_prod (by omega) eN
      have hm' : decide (9223372036854775808 ≤ H) = true := decide_eq_true hm
      have hsn : decide (s < 0) = true := decide_eq_true hs0
      have ds := dsYesTT hH.1 hH.2 hL.1 hL.2 sb.1 sb.2 hm' hsn hlt
      simp only [q1, q2] at ds
      simp only [nw0] at ds
      have fi := fitsX 0 (wrap64 u) 2 _ _ true (widSx (wrap64 u) 2 _ (si _ Q (wrap64_wf _) eQ))
      rw [fitP2 (by omega) (by omega) eQ, show decide (32768 < u) = false from decide_eq_false (by omega), show (u == 32768) = false from beq_eq_false_iff_ne.mpr (by omega), Bool.false_or, Bool.not_false] at fi
      intro w
      have fin := divI16Y 2 h l d _ _ _ _ _ _ _ _ _ _ _ hn jI wD ds fi wQ wR w
      rw [w00] at fin
      exact fin
    · have sg := (mulsgnP (u := u) (by omega : 0 < s)).2 (by omega)
      have ea : absU s = s := by unfold absU; omega
      have eN : (negH H L) * 18446744073709551616 + (negL L) = (-u) * absU s := by
        rw [ea, neg_two hH hL hm]
        rw [Int.neg_mul]; omega
      have nb : 0 ≤ (negH H L) ∧ (negH H L) < 18446744073709551616 := negH_b (L := L) hH.1 hH.2
      have lb : 0 ≤ (negL L) ∧ (negL L) < 18446744073709551616 := negL_b L
      have a0 : 0 < absU s := by rw [ea]; omega
      have hlt : (negH H L) < absU s := hi_lt lb.1 (by omega) a0 eN
      obtain ⟨q1, q2⟩ := dq_prod (by omega) eN
      have hm' : decide (9223372036854775808 ≤ H) = true := decide_eq_true hm
      have hsn : decide (s < 0) = false := decide_eq_false hs0
      have ds := dsYesTF hH.1 hH.2 hL.1 hL.2 sb.1 sb.2 hm' hsn hlt
      simp only [q1, q2] at ds
      simp only [nw0] at ds
      have eql : qL true (-u) = wrap64 u := by unfold qL; show wrap64 (- -u) = wrap64 u; rw [Int.neg_neg]
      rw [eql] at ds
      have fi := fitsX (qH true (-u)) (wrap64 u) 2 _ _ true (widSx (wrap64 u) 2 _ (si _ Q (wrap64_wf _) eQ))
      have eQ' : IntKind.u64.wrap (wrap64 (- -u)) = (Q : Int) := by rw [Int.neg_neg]; exact eQ
      have ft := fitT2 (q := -u) (by omega) (by omega) eQ'
      rw [Int.neg_neg] at ft
      rw [ft, show decide (32768 < -u) = false from decide_eq_false (by omega), Bool.not_false] at fi
      intro w
      have fin := divI16Y 2 h l d _ _ _ _ _ _ _ _ _ _ _ hn jI wD ds fi wQ wR w
      rw [w00] at fin
      exact fin
set_option maxHeartbeats 2000000 in
theorem divZ16_2 (h l d : Int) (hh : (Lit.int .i64 h).wf = true) (hl : (Lit.int .i64 l).wf = true) (hd : (Lit.int .i64 d).wf = true) (hd0 : Int.bmod d 65536 = 0) :
    ∃ q r, ∀ w, Calls Tryd.prog 24 #[.int .i64 16, .int .i64 2, .int .i64 h, .int .i64 l, .int .i64 d] w fun e w' => e = .returned (.tuple #[.int .i64 q, .int .i64 r, .int .i64 16]) ∧ Below w.heap.size w w' := by
  obtain ⟨D, hD⟩ := natU d
  have hn : okSize (2 : Int) := by unfold okSize; omega
  have un (v : Int) (V : Nat) (hV : IntKind.u64.wrap v = (V : Int)) (w : World) : Calls Tryd.prog 46 #[.int .i64 v, .int .i64 2] w fun e w' => e = .returned (.tuple #[.int .i64 (wrap64 ((V % 2 ^ (8 * 2) : Nat) : Int)), .nilIface]) ∧ w = w' := by
    rw [eqZ2 hV]; exact unsigned2 v w
  have zr (v : Int) (V : Nat) (hV : IntKind.u64.wrap v = (V : Int)) (w : World) := specZeroL v V 2 w hV (by decide) (by decide)
  have si (v : Int) (V : Nat) (hv : (Lit.int .i64 v).wf = true) (hV : IntKind.u64.wrap v = (V : Int)) (w : World) : Calls Tryd.prog 85 #[.int .i64 v, .int .i64 2] w fun e w' => e = .returned (.tuple #[.int .i64 (wrap64 (sgnU V 2 : Int)), .nilIface]) ∧ w = w' := by
    rw [eqS2 hV]; exact signed2 v w
  obtain ⟨H, L, hH, hL, eHL, jI⟩ := joQ2 h l hh hl
  obtain ⟨s, hs⟩ : ∃ s : Int, s = wrap64 (sgnU D 2 : Int) := ⟨_, rfl⟩
  have sb := sgn_b D 2 (by decide) (by decide)
  have wD := widSx d 2 _ (si d D hd hD)
  rw [← hs] at sb wD
  have es : s = Int.bmod d 65536 := by
    rw [hs, sgn_int D 2 (by decide), show ((2 ^ (8 * 2) : Nat)) = 65536 from rfl, Int.bmod_def, Int.bmod_def]
    clear hs sb wD eHL jI; rw [wrapU] at hD
    have : (D : Int) % ((65536 : Nat) : Int) = d % ((65536 : Nat) : Int) := by omega
    rw [this]
  have s0 := (bmod_b d).2.1
  rw [← es] at s0
  clear hs
  rw [← es] at hd0
  have a0 : absU s = 0 := by unfold absU; omega
  have hsn : decide (s < 0) = false := decide_eq_false (by omega)
  by_cases hm : 9223372036854775808 ≤ H
  · have hm' : decide (9223372036854775808 ≤ H) = true := decide_eq_true hm
    have nb := negH_b (L := L) hH.1 hH.2
    have ds := dsNoTF hH.1 hH.2 hL.1 hL.2 sb.1 sb.2 hm' hsn (by rw [a0]; omega)
    exact ⟨_, _, fun w => divI16K 2 h l d _ _ _ _ _ _ _ 0 0 0 0 hn jI wD ds w⟩
  · have hm' : decide (9223372036854775808 ≤ H) = false := decide_eq_false hm
    have ds := dsNoFF hH.1 hH.2 hL.1 hL.2 sb.1 sb.2 hm' hsn (by rw [a0]; omega)
    exact ⟨_, _, fun w => divI16K 2 h l d _ _ _ _ _ _ _ 0 0 0 0 hn jI wD ds w⟩
theorem joQ4 (h l : Int) (hh : (Lit.int .i64 h).wf = true) (hl : (Lit.int .i64 l).wf = true) : ∃ H L : Int, (0 ≤ H ∧ H < 18446744073709551616) ∧ (0 ≤ L ∧ L < 18446744073709551616) ∧ (((h % 4294967296 * 4294967296 + l % 4294967296) < 9223372036854775808 ∧ H * 18446744073709551616 + L = (h % 4294967296 * 4294967296 + l % 4294967296)) ∨ (9223372036854775808 ≤ (h % 4294967296 * 4294967296 + l % 4294967296) ∧ H * 18446744073709551616 + L = 340282366920938463444927863358058659840 + (h % 4294967296 * 4294967296 + l % 4294967296))) ∧
    (∀ w, Calls Tryd.prog 54 #[.int .i64 h, .int .i64 l, .int .i64 4, .bool true] w fun e w' => e = .returned (.agg #[.int .i64 (wrap64 H), .int .i64 (wrap64 L)]) ∧ Below w.heap.size w w') := by
  obtain ⟨X, hX⟩ := natU h
  obtain ⟨Y, hY⟩ := natU l
  have un (v : Int) (V : Nat) (hV : IntKind.u64.wrap v = (V : Int)) (w : World) : Calls Tryd.prog 46 #[.int .i64 v, .int .i64 4] w fun e w' => e = .returned (.tuple #[.int .i64 (wrap64 ((V % 2 ^ (8 * 4) : Nat) : Int)), .nilIface]) ∧ w = w' := by
    rw [eqZ4 hV]; exact unsigned4 v w
  have zr (v : Int) (V : Nat) (hV : IntKind.u64.wrap v = (V : Int)) (w : World) := specZeroL v V 4 w hV (by decide) (by decide)
  obtain ⟨V, hV, hV2, hor⟩ := orI4 X Y hX
  have uV : IntKind.u64.wrap (wrap64 (V : Int)) = (V : Int) := u_w64 (by omega) (by omega)
  have si (w : World) : Calls Tryd.prog 85 #[.int .i64 (wrap64 (V : Int)), .int .i64 8] w fun e w' => e = .returned (.tuple #[.int .i64 (wrap64 (sgnU V 8 : Int)), .nilIface]) ∧ w = w' := by
    rw [eqS8 (wrap64_wf _) uV]; exact signed8 _ w
  have hI := joinX4 h l 0 _ _ _ _ true hor (widUx l 4 _ (un l Y hY)) (widSx (wrap64 (V : Int)) 8 _ si)
  clear hor
  obtain ⟨s, hs⟩ : ∃ s : Int, s = wrap64 (sgnU V 8 : Int) := ⟨_, rfl⟩
  rw [← hs] at hI
  rw [sgn_int V 8 (by decide), show (2 : Nat) ^ (8 * 8) = 18446744073709551616 from rfl, Int.bmod_def] at hs
  obtain ⟨A, hA⟩ : ∃ A : Nat, A = X % 4294967296 * 4294967296 + Y % 4294967296 := ⟨_, rfl⟩
  have hAi : (A : Int) = (h % 4294967296 * 4294967296 + l % 4294967296) := by clear hI hV hV2 uV hs si; rw [wrapU] at hX hY; omega
  have hA2 : A < 18446744073709551616 := by rw [hA]; clear hI hV hV2 uV hs si hX hY hA hAi; omega
  rw [← hA] at hV
  rw [show (((V : Int) % (((18446744073709551616 : Nat) : Int)))) = (A : Int) by rw [← hV]; rfl] at hs
  rw [← hAi]
  clear hX hY hV hV2 uV zr hA hAi un
  by_cases ht : A < 9223372036854775808
  · have es : s = (A : Int) := by rw [hs, if_pos (by omega)]
    clear hs
    refine ⟨0, (A : Int), by decide, by omega, .inl ⟨by omega, by omega⟩, fun w => ?_⟩
    have e1 : s / 9223372036854775808 = wrap64 0 := by rw [w00, es]; omega
    have e2 : wrap64 (A : Int) = s := by rw [es]; exact w64_in (by omega) (by omega)
    rw [e2, ← e1]; exact hI w
  · have es : s = (A : Int) - 18446744073709551616 := by rw [hs, if_neg (by omega)]; rfl
    clear hs
    refine ⟨18446744073709551615, (A : Int) + 0, by decide, by omega, .inr ⟨by omega, by omega⟩, fun w => ?_⟩
    have e1 : s / 9223372036854775808 = wrap64 18446744073709551615 := by rw [wm1, es]; omega
    have e2 : wrap64 ((A : Int) + 0) = s := by rw [es]; unfold wrap64; omega
    rw [e2, ← e1]; exact hI w
set_option maxHeartbeats 2000000 in
theorem divP16_4 (h l d u : Int) (hh : (Lit.int .i64 h).wf = true) (hl : (Lit.int .i64 l).wf = true) (hd : (Lit.int .i64 d).wf = true) (hu : -2147483648 ≤ u ∧ u < 2147483648) (hP : h % 4294967296 * 4294967296 + l % 4294967296 = u * Int.bmod d 4294967296 % 18446744073709551616) (hd0 : Int.bmod d 4294967296 ≠ 0) :
    ∀ w, Calls Tryd.prog 24 #[.int .i64 16, .int .i64 4, .int .i64 h, .int .i64 l, .int .i64 d] w fun e w' => e = .returned (.tuple #[.int .i64 (wrap64 (u % 4294967296)), .int .i64 0, .int .i64 0]) ∧ Below w.heap.size w w' := by
  obtain ⟨D, hD⟩ := natU d
  have hn : okSize (4 : Int) := by unfold okSize; omega
  have un (v : Int) (V : Nat) (hV : IntKind.u64.wrap v = (V : Int)) (w : World) : Calls Tryd.prog 46 #[.int .i64 v, .int .i64 4] w fun e w' => e = .returned (.tuple #[.int .i64 (wrap64 ((V % 2 ^ (8 * 4) : Nat) : Int)), .nilIface]) ∧ w = w' := by
    rw [eqZ4 hV]; exact unsigned4 v w
  have zr (v : Int) (V : Nat) (hV : IntKind.u64.wrap v = (V : Int)) (w : World) := specZeroL v V 4 w hV (by decide) (by decide)
  have si (v : Int) (V : Nat) (hv : (Lit.int .i64 v).wf = true) (hV : IntKind.u64.wrap v = (V : Int)) (w : World) : Calls Tryd.prog 85 #[.int .i64 v, .int .i64 4] w fun e w' => e = .returned (.tuple #[.int .i64 (wrap64 (sgnU V 4 : Int)), .nilIface]) ∧ w = w' := by
    rw [eqS4 hV]; exact signed4 v w
  obtain ⟨H, L, hH, hL, eHL, jI⟩ := joQ4 h l hh hl
  obtain ⟨s, hs⟩ : ∃ s : Int, s = wrap64 (sgnU D 4 : Int) := ⟨_, rfl⟩
  have sb := sgn_b D 4 (by decide) (by decide)
  have wD := widSx d 4 _ (si d D hd hD)
  rw [← hs] at sb wD
  have es : s = Int.bmod d 4294967296 := by
    rw [hs, sgn_int D 4 (by decide), show ((2 ^ (8 * 4) : Nat)) = 4294967296 from rfl, Int.bmod_def, Int.bmod_def]
    clear hs sb wD eHL jI; rw [wrapU] at hD
    have : (D : Int) % ((4294967296 : Nat) : Int) = d % ((4294967296 : Nat) : Int) := by omega
    rw [this]
  have s0 := (bmod_b d).2.2.1
  rw [← es] at s0
  clear hs
  rw [← es] at hP hd0
  rw [hP] at eHL
  have pb := prodS_le (x := u) (y := s) (H := 2147483648) (by omega) (by omega)
  have pos : 0 ≤ u * s → H * 18446744073709551616 + L = u * s := by clear hP es wD jI; generalize u * s = N at *; omega
  have neg : u * s < 0 → H * 18446744073709551616 + L = 340282366920938463463374607431768211456 + u * s := by clear hP es wD jI pos; generalize u * s = N at *; omega
  clear eHL hP es pb
  obtain ⟨Q, eQ⟩ := natU (wrap64 u)
  obtain ⟨R, eR⟩ := natU (wrap64 0)
  have wQ := widUx (wrap64 u) 4 _ (un _ Q eQ)
  have wR := widUx (wrap64 0) 4 _ (un _ R eR)
  have nw0 : wrap64 (-(wrap64 0)) = wrap64 0 := by unfold wrap64; omega
  have eQu : wrap64 ((Q % 2 ^ (8 * 4) : Nat) : Int) = wrap64 (u % 4294967296) := by
    clear wQ wR; rw [wrapU] at eQ; rw [show (2 : Nat) ^ (8 * 4) = 4294967296 from rfl]; unfold wrap64 at *; omega
  rw [lowU4 (by decide) (by decide) eR] at wR
  rw [eQu] at wQ
  clear eQu eR
  by_cases hN : 0 ≤ u * s
  · have eH := pos hN
    have b2 : u * s < 170141183460469231731687303715884105728 := by
      have := prodS_le (x := u) (y := s) (H := 2147483648) (by omega) (by omega)
      omega
    have hm : ¬ 9223372036854775808 ≤ H := by omega
    clear pos neg b2
    by_cases hs0 : s < 0
    · have sg := (mulsgnN (u := u) hs0).1 hN
      have ea : absU s = (-s) := by unfold absU; omega
      have eN : H * 18446744073709551616 + L = (-u) * absU s := by
        rw [ea]
        rw [Int.neg_mul_neg]; exact eH
      have nb : 0 ≤ H ∧ H < 18446744073709551616 := hH
      have lb : 0 ≤ L ∧ L < 18446744073709551616 := hL
      have a0 : 0 < absU s := by rw [ea]; omega
      have hlt : H < absU s := hi_lt lb.1 (by omega) a0 eN
      obtain ⟨q1, q2⟩ := dq_prod (by omega) eN
      have hm' : decide (9223372036854775808 ≤ H) = false := decide_eq_false hm
      have hsn : decide (s < 0) = true := decide_eq_true hs0
      have ds := dsYesFT hH.1 hH.2 hL.1 hL.2 sb.1 sb.2 hm' hsn hlt
      simp only [q1, q2] at ds
      have eql : qL true (-u) = wrap64 u := by unfold qL; show wrap64 (- -u) = wrap64 u; rw [Int.neg_neg]
      rw [eql] at ds
      have fi := fitsX (qH true (-u)) (wrap64 u) 4 _ _ true (widSx (wrap64 u) 4 _ (si _ Q (wrap64_wf _) eQ))
      have eQ' : IntKind.u64.wrap (wrap64 (- -u)) = (Q : Int) := by rw [Int.neg_neg]; exact eQ
      have ft := fitT4 (q := -u) (by omega) (by omega) eQ'
      rw [Int.neg_neg] at ft
      rw [ft, show decide (2147483648 < -u) = false from decide_eq_false (by omega), Bool.not_false] at fi
      intro w
      have fin := divI16Y 4 h l d _ _ _ _ _ _ _ _ _ _ _ hn jI wD ds fi wQ wR w
      rw [w00] at fin
      exact fin
    · have sg := (mulsgnP (u := u) (by omega : 0 < s)).1 hN
      have ea : absU s = s := by unfold absU; omega
      have eN : H * 18446744073709551616 + L = u * absU s := by
        rw [ea]
        exact eH
      have nb : 0 ≤ H ∧ H < 18446744073709551616 := hH
      have lb : 0 ≤ L ∧ L < 18446744073709551616 := hL
      have a0 : 0 < absU s := by rw [ea]; omega
      have hlt : H < absU s := hi_lt lb.1 (by omega) a0 eN
      obtain ⟨q1, q2⟩ := dq_prod (by omega) eN
      have hm' : decide (9223372036854775808 ≤ H) = false := decide_eq_false hm
      have hsn : decide (s < 0) = false := decide_eq_false hs0
      have ds := dsYesFF hH.1 hH.2 hL.1 hL.2 sb.1 sb.2 hm' hsn hlt
      simp only [q1, q2] at ds
      have fi := fitsX 0 (wrap64 u) 4 _ _ true (widSx (wrap64 u) 4 _ (si _ Q (wrap64_wf _) eQ))
      rw [fitP4 (by omega) (by omega) eQ, show decide (2147483648 < u) = false from decide_eq_false (by omega), show (u == 2147483648) = false from beq_eq_false_iff_ne.mpr (by omega), Bool.false_or, Bool.not_false] at fi
      intro w
      have fin := divI16Y 4 h l d _ _ _ _ _ _ _ _ _ _ _ hn jI wD ds fi wQ wR w
      rw [w00] at fin
      exact fin
  · have eH := neg (by omega)
    have b2 : -170141183460469231731687303715884105728 ≤ u * s := by
      have := prodS_le (x := u) (y := s) (H := 2147483648) (by omega) (by omega)
      omega
    have hm : 9223372036854775808 ≤ H := by omega
    clear pos neg b2
    by_cases hs0 : s < 0
    · have sg := (mulsgnN (u := u) hs0).2 (by omega)
      have ea : absU s = (-s) := by unfold absU; omega
      have eN : (negH H L) * 18446744073709551616 + (negL L) = u * absU s := by
        rw [ea, neg_two hH hL hm]
        rw [Int.mul_neg]; omega
      have nb : 0 ≤ (negH H L) ∧ (negH H L) < 18446744073709551616 := negH_b (L := L) hH.1 hH.2
      have lb : 0 ≤ (negL L) ∧ (negL L) < 18446744073709551616 := negL_b L
      have a0 : 0 < absU s := by rw [ea]; omega
      have hlt : (negH H L) < absU s := hi_lt lb.1 (by omega) a0 eN
      obtain ⟨q1, q2⟩ := dq_prod (by omega) eN
      have hm' : decide (9223372036854775808 ≤ H) = true := decide_eq_true hm
      have hsn : decide (s < 0) = true := decide_eq_true hs0
      have ds := dsYesTT hH.1 hH.2 hL.1 hL.2 sb.1 sb.2 hm' hsn hlt
      simp only [q1, q2] at ds
      simp only [nw0] at ds
      have fi := fitsX 0 (wrap64 u) 4 _ _ true (widSx (wrap64 u) 4 _ (si _ Q (wrap64_wf _) eQ))
      rw [fitP4 (by omega) (by omega) eQ, show decide (2147483648 < u) = false from decide_eq_false (by omega), show (u == 2147483648) = false from beq_eq_false_iff_ne.mpr (by omega), Bool.false_or, Bool.not_false] at fi
      intro w
      have fin := divI16Y 4 h l d _ _ _ _ _ _ _ _ _ _ _ hn jI wD ds fi wQ wR w
      rw [w00] at fin
      exact fin
    · have sg := (mulsgnP (u := u) (by omega : 0 < s)).2 (by omega)
      have ea : absU s = s := by unfold absU; omega
      have eN : (negH H L) * 18446744073709551616 + (negL L) = (-u) * absU s := by
        rw [ea, neg_two hH hL hm]
        rw [Int.neg_mul]; omega
      have nb : 0 ≤ (negH H L) ∧ (negH H L) < 18446744073709551616 := negH_b (L := L) hH.1 hH.2
      have lb : 0 ≤ (negL L) ∧ (negL L) < 18446744073709551616 := negL_b L
      have a0 : 0 < absU s := by rw [ea]; omega
      have hlt : (negH H L) < absU s := hi_lt lb.1 (by omega) a0 eN
      obtain ⟨q1, q2⟩ := dq_prod (by omega) eN
      have hm' : decide (9223372036854775808 ≤ H) = true := decide_eq_true hm
      have hsn : decide (s < 0) = false := decide_eq_false hs0
      have ds := dsYesTF hH.1 hH.2 hL.1 hL.2 sb.1 sb.2 hm' hsn hlt
      simp only [q1, q2] at ds
      simp only [nw0] at ds
      have eql : qL true (-u) = wrap64 u := by unfold qL; show wrap64 (- -u) = wrap64 u; rw [Int.neg_neg]
      rw [eql] at ds
      have fi := fitsX (qH true (-u)) (wrap64 u) 4 _ _ true (widSx (wrap64 u) 4 _ (si _ Q (wrap64_wf _) eQ))
      have eQ' : IntKind.u64.wrap (wrap64 (- -u)) = (Q : Int) := by rw [Int.neg_neg]; exact eQ
      have ft := fitT4 (q := -u) (by omega) (by omega) eQ'
      rw [Int.neg_neg] at ft
      rw [ft, show decide (2147483648 < -u) = false from decide_eq_false (by omega), Bool.not_false] at fi
      intro w
      have fin := divI16Y 4 h l d _ _ _ _ _ _ _ _ _ _ _ hn jI wD ds fi wQ wR w
      rw [w00] at fin
      exact fin
set_option maxHeartbeats 2000000 in
theorem divZ16_4 (h l d : Int) (hh : (Lit.int .i64 h).wf = true) (hl : (Lit.int .i64 l).wf = true) (hd : (Lit.int .i64 d).wf = true) (hd0 : Int.bmod d 4294967296 = 0) :
    ∃ q r, ∀ w, Calls Tryd.prog 24 #[.int .i64 16, .int .i64 4, .int .i64 h, .int .i64 l, .int .i64 d] w fun e w' => e = .returned (.tuple #[.int .i64 q, .int .i64 r, .int .i64 16]) ∧ Below w.heap.size w w' := by
  obtain ⟨D, hD⟩ := natU d
  have hn : okSize (4 : Int) := by unfold okSize; omega
  have un (v : Int) (V : Nat) (hV : IntKind.u64.wrap v = (V : Int)) (w : World) : Calls Tryd.prog 46 #[.int .i64 v, .int .i64 4] w fun e w' => e = .returned (.tuple #[.int .i64 (wrap64 ((V % 2 ^ (8 * 4) : Nat) : Int)), .nilIface]) ∧ w = w' := by
    rw [eqZ4 hV]; exact unsigned4 v w
  have zr (v : Int) (V : Nat) (hV : IntKind.u64.wrap v = (V : Int)) (w : World) := specZeroL v V 4 w hV (by decide) (by decide)
  have si (v : Int) (V : Nat) (hv : (Lit.int .i64 v).wf = true) (hV : IntKind.u64.wrap v = (V : Int)) (w : World) : Calls Tryd.prog 85 #[.int .i64 v, .int .i64 4] w fun e w' => e = .returned (.tuple #[.int .i64 (wrap64 (sgnU V 4 : Int)), .nilIface]) ∧ w = w' := by
    rw [eqS4 hV]; exact signed4 v w
  obtain ⟨H, L, hH, hL, eHL, jI⟩ := joQ4 h l hh hl
  obtain ⟨s, hs⟩ : ∃ s : Int, s = wrap64 (sgnU D 4 : Int) := ⟨_, rfl⟩
  have sb := sgn_b D 4 (by decide) (by decide)
  have wD := widSx d 4 _ (si d D hd hD)
  rw [← hs] at sb wD
  have es : s = Int.bmod d 4294967296 := by
    rw [hs, sgn_int D 4 (by decide), show ((2 ^ (8 * 4) : Nat)) = 4294967296 from rfl, Int.bmod_def, Int.bmod_def]
    clear hs sb wD eHL jI; rw [wrapU] at hD
    have : (D : Int) % ((4294967296 : Nat) : Int) = d % ((4294967296 : Nat) : Int) := by omega
    rw [this]
  have s0 := (bmod_b d).2.2.1
  rw [← es] at s0
  clear hs
  rw [← es] at hd0
  have a0 : absU s = 0 := by unfold absU; omega
  have hsn : decide (s < 0) = false := decide_eq_false (by omega)
  by_cases hm : 9223372036854775808 ≤ H
  · have hm' : decide (9223372036854775808 ≤ H) = true := decide_eq_true hm
    have nb := negH_b (L := L) hH.1 hH.2
    have ds := dsNoTF hH.1 hH.2 hL.1 hL.2 sb.1 sb.2 hm' hsn (by rw [a0]; omega)
    exact ⟨_, _, fun w => divI16K 4 h l d _ _ _ _ _ _ _ 0 0 0 0 hn jI wD ds w⟩
  · have hm' : decide (9223372036854775808 ≤ H) = false := decide_eq_false hm
    have ds := dsNoFF hH.1 hH.2 hL.1 hL.2 sb.1 sb.2 hm' hsn (by rw [a0]; omega)
    exact ⟨_, _, fun w => divI16K 4 h l d _ _ _ _ _ _ _ 0 0 0 0 hn jI wD ds w⟩
theorem joQ8 (h l : Int) (hh : (Lit.int .i64 h).wf = true) (hl : (Lit.int .i64 l).wf = true) : ∃ H L : Int, (0 ≤ H ∧ H < 18446744073709551616) ∧ (0 ≤ L ∧ L < 18446744073709551616) ∧ (((h % 18446744073709551616 * 18446744073709551616 + l % 18446744073709551616) < 170141183460469231731687303715884105728 ∧ H * 18446744073709551616 + L = (h % 18446744073709551616 * 18446744073709551616 + l % 18446744073709551616)) ∨ (170141183460469231731687303715884105728 ≤ (h % 18446744073709551616 * 18446744073709551616 + l % 18446744073709551616) ∧ H * 18446744073709551616 + L = 0 + (h % 18446744073709551616 * 18446744073709551616 + l % 18446744073709551616))) ∧
    (∀ w, Calls Tryd.prog 54 #[.int .i64 h, .int .i64 l, .int .i64 8, .bool true] w fun e w' => e = .returned (.agg #[.int .i64 (wrap64 H), .int .i64 (wrap64 L)]) ∧ Below w.heap.size w w') := by
  have b1 := bounds_i64 hh
  have b2 := bounds_i64 hl
  refine ⟨IntKind.u64.wrap h, IntKind.u64.wrap l, by rw [wrapU]; omega, by rw [wrapU]; omega, by rw [wrapU, wrapU]; omega, fun w => ?_⟩
  have := joinX8 h l true w
  rw [w64_u, w64_u, w64_in b1.1 b1.2, w64_in b2.1 b2.2]
  exact this
set_option maxHeartbeats 2000000 in
theorem divP16_8 (h l d u : Int) (hh : (Lit.int .i64 h).wf = true) (hl : (Lit.int .i64 l).wf = true) (hd : (Lit.int .i64 d).wf = true) (hu : -9223372036854775808 ≤ u ∧ u < 9223372036854775808) (hP : h % 18446744073709551616 * 18446744073709551616 + l % 18446744073709551616 = u * Int.bmod d 18446744073709551616 % 340282366920938463463374607431768211456) (hd0 : Int.bmod d 18446744073709551616 ≠ 0) :
    ∀ w, Calls Tryd.prog 24 #[.int .i64 16, .int .i64 8, .int .i64 h, .int .i64 l, .int .i64 d] w fun e w' => e = .returned (.tuple #[.int .i64 (wrap64 (u % 18446744073709551616)), .int .i64 0, .int .i64 0]) ∧ Below w.heap.size w w' := by
  obtain ⟨D, hD⟩ := natU d
  have hn : okSize (8 : Int) := by unfold okSize; omega
  have un (v : Int) (V : Nat) (hV : IntKind.u64.wrap v = (V : Int)) (w : World) : Calls Tryd.prog 46 #[.int .i64 v, .int .i64 8] w fun e w' => e = .returned (.tuple #[.int .i64 (wrap64 ((V % 2 ^ (8 * 8) : Nat) : Int)), .nilIface]) ∧ w = w' := by
    rw [eqZ8 hV]; exact unsigned8 v w
  have zr (v : Int) (V : Nat) (hV : IntKind.u64.wrap v = (V : Int)) (w : World) := specZeroL v V 8 w hV (by decide) (by decide)
  have si (v : Int) (V : Nat) (hv : (Lit.int .i64 v).wf = true) (hV : IntKind.u64.wrap v = (V : Int)) (w : World) : Calls Tryd.prog 85 #[.int .i64 v, .int .i64 8] w fun e w' => e = .returned (.tuple #[.int .i64 (wrap64 (sgnU V 8 : Int)), .nilIface]) ∧ w = w' := by
    rw [eqS8 hv hV]; exact signed8 v w
  obtain ⟨H, L, hH, hL, eHL, jI⟩ := joQ8 h l hh hl
  obtain ⟨s, hs⟩ : ∃ s : Int, s = wrap64 (sgnU D 8 : Int) := ⟨_, rfl⟩
  have sb := sgn_b D 8 (by decide) (by decide)
  have wD := widSx d 8 _ (si d D hd hD)
  rw [← hs] at sb wD
  have es : s = Int.bmod d 18446744073709551616 := by
    rw [hs, sgn_int D 8 (by decide), show ((2 ^ (8 * 8) : Nat)) = 18446744073709551616 from rfl, Int.bmod_def, Int.bmod_def]
    clear hs sb wD eHL jI; rw [wrapU] at hD
    have : (D : Int) % ((18446744073709551616 : Nat) : Int) = d % ((18446744073709551616 : Nat) : Int) := by omega
    rw [this]
  have s0 := (bmod_b d).2.2.2
  rw [← es] at s0
  clear hs
  rw [← es] at hP hd0
  rw [hP] at eHL
  have pb := prodS_le (x := u) (y := s) (H := 9223372036854775808) (by omega) (by omega)
  have pos : 0 ≤ u * s → H * 18446744073709551616 + L = u * s := by clear hP es wD jI; generalize u * s = N at *; omega
  have neg : u * s < 0 → H * 18446744073709551616 + L = 340282366920938463463374607431768211456 + u * s := by clear hP es wD jI pos; generalize u * s = N at *; omega
  clear eHL hP es pb
  obtain ⟨Q, eQ⟩ := natU (wrap64 u)
  obtain ⟨R, eR⟩ := natU (wrap64 0)
  have wQ := widUx (wrap64 u) 8 _ (un _ Q eQ)
  have wR := widUx (wrap64 0) 8 _ (un _ R eR)
  have nw0 : wrap64 (-(wrap64 0)) = wrap64 0 := by unfold wrap64; omega
  have eQu : wrap64 ((Q % 2 ^ (8 * 8) : Nat) : Int) = wrap64 (u % 18446744073709551616) := by
    clear wQ wR; rw [wrapU] at eQ; rw [show (2 : Nat) ^ (8 * 8) = 18446744073709551616 from rfl]; unfold wrap64 at *; omega
  rw [lowU8 (by decide) (by decide) eR] at wR
  rw [eQu] at wQ
  clear eQu eR
  by_cases hN : 0 ≤ u * s
  · have eH := pos hN
    have b2 : u * s < 170141183460469231731687303715884105728 := by
      have := prodS_le (x := u) (y := s) (H := 9223372036854775808) (by omega) (by omega)
      omega
    have hm : ¬ 9223372036854775808 ≤ H := by omega
    clear pos neg b2
    by_cases hs0 : s < 0
    · have sg := (mulsgnN (u := u) hs0).1 hN
      have ea : absU s = (-s) := by unfold absU; omega
      have eN : H * 18446744073709551616 + L = (-u) * absU s := by
        rw [ea]
        rw [Int.neg_mul_neg]; exact eH
      have nb : 0 ≤ H ∧ H < 18446744073709551616 := hH
      have lb : 0 ≤ L ∧ L < 18446744073709551616 := hL
      have a0 : 0 < absU s := by rw [ea]; omega
      have hlt : H < absU s := hi_lt lb.1 (by omega) a0 eN
      obtain ⟨q1, q2⟩ := dq_prod (by omega) eN
      have hm' : decide (9223372036854775808 ≤ H) = false := decide_eq_false hm
      have hsn : decide (s < 0) = true := decide_eq_true hs0
      have ds := dsYesFT hH.1 hH.2 hL.1 hL.2 sb.1 sb.2 hm' hsn hlt
      simp only [q1, q2] at ds
      have eql : qL true (-u) = wrap64 u := by unfold qL; show wrap64 (- -u) = wrap64 u; rw [Int.neg_neg]
      rw [eql] at ds
      have fi := fitsX (qH true (-u)) (wrap64 u) 8 _ _ true (widSx (wrap64 u) 8 _ (si _ Q (wrap64_wf _) eQ))
      have eQ' : IntKind.u64.wrap (wrap64 (- -u)) = (Q : Int) := by rw [Int.neg_neg]; exact eQ
      have ft := fitT8 (q := -u) (by omega) (by omega) eQ'
      rw [Int.neg_neg] at ft
      rw [ft, show decide (9223372036854775808 < -u) = false from decide_eq_false (by omega), Bool.not_false] at fi
      intro w
      have fin := divI16Y 8 h l d _ _ _ _ _ _ _ _ _ _ _ hn jI wD ds fi wQ wR w
      rw [w00] at fin
      exact fin
    · have sg := (mulsgnP (u := u) (by omega : 0 < s)).1 hN
      have ea : absU s = s := by unfold absU; omega
      have eN : H * 18446744073709551616 + L = u * absU s := by
        rw [ea]
        exact eH
      have nb : 0 ≤ H ∧ H < 18446744073709551616 := hH
      have lb : 0 ≤ L ∧ L < 18446744073709551616 := hL
      have a0 : 0 < absU s := by rw [ea]; omega
      have hlt : H < absU s := hi_lt lb.1 (by omega) a0 eN
      obtain ⟨q1, q2⟩ := dq_prod (by omega) eN
      have hm' : decide (9223372036854775808 ≤ H) = false := decide_eq_false hm
      have hsn : decide (s < 0) = false := decide_eq_false hs0
      have ds := dsYesFF hH.1 hH.2 hL.1 hL.2 sb.1 sb.2 hm' hsn hlt
      simp only [q1, q2] at ds
      have fi := fitsX 0 (wrap64 u) 8 _ _ true (widSx (wrap64 u) 8 _ (si _ Q (wrap64_wf _) eQ))
      rw [fitP8 (by omega) (by omega) eQ, show decide (9223372036854775808 < u) = false from decide_eq_false (by omega), show (u == 9223372036854775808) = false from beq_eq_false_iff_ne.mpr (by omega), Bool.false_or, Bool.not_false] at fi
      intro w
      have fin := divI16Y 8 h l d _ _ _ _ _ _ _ _ _ _ _ hn jI wD ds fi wQ wR w
      rw [w00] at fin
      exact fin
  · have eH := neg (by omega)
    have b2 : -170141183460469231731687303715884105728 ≤ u * s := by
      have := prodS_le (x := u) (y := s) (H := 9223372036854775808) (by omega) (by omega)
      omega
    have hm : 9223372036854775808 ≤ H := by omega
    clear pos neg b2
    by_cases hs0 : s < 0
    · have sg := (mulsgnN (u := u) hs0).2 (by omega)
      have ea : absU s = (-s) := by unfold absU; omega
      have eN : (negH H L) * 18446744073709551616 + (negL L) = u * absU s := by
        rw [ea, neg_two hH hL hm]
        rw [Int.mul_neg]; omega
      have nb : 0 ≤ (negH H L) ∧ (negH H L) < 18446744073709551616 := negH_b (L := L) hH.1 hH.2
      have lb : 0 ≤ (negL L) ∧ (negL L) < 18446744073709551616 := negL_b L
      have a0 : 0 < absU s := by rw [ea]; omega
      have hlt : (negH H L) < absU s := hi_lt lb.1 (by omega) a0 eN
      obtain ⟨q1, q2⟩ := dq_prod (by omega) eN
      have hm' : decide (9223372036854775808 ≤ H) = true := decide_eq_true hm
      have hsn : decide (s < 0) = true := decide_eq_true hs0
      have ds := dsYesTT hH.1 hH.2 hL.1 hL.2 sb.1 sb.2 hm' hsn hlt
      simp only [q1, q2] at ds
      simp only [nw0] at ds
      have fi := fitsX 0 (wrap64 u) 8 _ _ true (widSx (wrap64 u) 8 _ (si _ Q (wrap64_wf _) eQ))
      rw [fitP8 (by omega) (by omega) eQ, show decide (9223372036854775808 < u) = false from decide_eq_false (by omega), show (u == 9223372036854775808) = false from beq_eq_false_iff_ne.mpr (by omega), Bool.false_or, Bool.not_false] at fi
      intro w
      have fin := divI16Y 8 h l d _ _ _ _ _ _ _ _ _ _ _ hn jI wD ds fi wQ wR w
      rw [w00] at fin
      exact fin
    · have sg := (mulsgnP (u := u) (by omega : 0 < s)).2 (by omega)
      have ea : absU s = s := by unfold absU; omega
      have eN : (negH H L) * 18446744073709551616 + (negL L) = (-u) * absU s := by
        rw [ea, neg_two hH hL hm]
        rw [Int.neg_mul]; omega
      have nb : 0 ≤ (negH H L) ∧ (negH H L) < 18446744073709551616 := negH_b (L := L) hH.1 hH.2
      have lb : 0 ≤ (negL L) ∧ (negL L) < 18446744073709551616 := negL_b L
      have a0 : 0 < absU s := by rw [ea]; omega
      have hlt : (negH H L) < absU s := hi_lt lb.1 (by omega) a0 eN
      obtain ⟨q1, q2⟩ := dq_prod (by omega) eN
      have hm' : decide (9223372036854775808 ≤ H) = true := decide_eq_true hm
      have hsn : decide (s < 0) = false := decide_eq_false hs0
      have ds := dsYesTF hH.1 hH.2 hL.1 hL.2 sb.1 sb.2 hm' hsn hlt
      simp only [q1, q2] at ds
      simp only [nw0] at ds
      have eql : qL true (-u) = wrap64 u := by unfold qL; show wrap64 (- -u) = wrap64 u; rw [Int.neg_neg]
      rw [eql] at ds
      have fi := fitsX (qH true (-u)) (wrap64 u) 8 _ _ true (widSx (wrap64 u) 8 _ (si _ Q (wrap64_wf _) eQ))
      have eQ' : IntKind.u64.wrap (wrap64 (- -u)) = (Q : Int) := by rw [Int.neg_neg]; exact eQ
      have ft := fitT8 (q := -u) (by omega) (by omega) eQ'
      rw [Int.neg_neg] at ft
      rw [ft, show decide (9223372036854775808 < -u) = false from decide_eq_false (by omega), Bool.not_false] at fi
      intro w
      have fin := divI16Y 8 h l d _ _ _ _ _ _ _ _ _ _ _ hn jI wD ds fi wQ wR w
      rw [w00] at fin
      exact fin
set_option maxHeartbeats 2000000 in
theorem divZ16_8 (h l d : Int) (hh : (Lit.int .i64 h).wf = true) (hl : (Lit.int .i64 l).wf = true) (hd : (Lit.int .i64 d).wf = true) (hd0 : Int.bmod d 18446744073709551616 = 0) :
    ∃ q r, ∀ w, Calls Tryd.prog 24 #[.int .i64 16, .int .i64 8, .int .i64 h, .int .i64 l, .int .i64 d] w fun e w' => e = .returned (.tuple #[.int .i64 q, .int .i64 r, .int .i64 16]) ∧ Below w.heap.size w w' := by
  obtain ⟨D, hD⟩ := natU d
  have hn : okSize (8 : Int) := by unfold okSize; omega
  have un (v : Int) (V : Nat) (hV : IntKind.u64.wrap v = (V : Int)) (w : World) : Calls Tryd.prog 46 #[.int .i64 v, .int .i64 8] w fun e w' => e = .returned (.tuple #[.int .i64 (wrap64 ((V % 2 ^ (8 * 8) : Nat) : Int)), .nilIface]) ∧ w = w' := by
    rw [eqZ8 hV]; exact unsigned8 v w
  have zr (v : Int) (V : Nat) (hV : IntKind.u64.wrap v = (V : Int)) (w : World) := specZeroL v V 8 w hV (by decide) (by decide)
  have si (v : Int) (V : Nat) (hv : (Lit.int .i64 v).wf = true) (hV : IntKind.u64.wrap v = (V : Int)) (w : World) : Calls Tryd.prog 85 #[.int .i64 v, .int .i64 8] w fun e w' => e = .returned (.tuple #[.int .i64 (wrap64 (sgnU V 8 : Int)), .nilIface]) ∧ w = w' := by
    rw [eqS8 hv hV]; exact signed8 v w
  obtain ⟨H, L, hH, hL, eHL, jI⟩ := joQ8 h l hh hl
  obtain ⟨s, hs⟩ : ∃ s : Int, s = wrap64 (sgnU D 8 : Int) := ⟨_, rfl⟩
  have sb := sgn_b D 8 (by decide) (by decide)
  have wD := widSx d 8 _ (si d D hd hD)
  rw [← hs] at sb wD
  have es : s = Int.bmod d 18446744073709551616 := by
    rw [hs, sgn_int D 8 (by decide), show ((2 ^ (8 * 8) : Nat)) = 18446744073709551616 from rfl, Int.bmod_def, Int.bmod_def]
    clear hs sb wD eHL jI; rw [wrapU] at hD
    have : (D : Int) % ((18446744073709551616 : Nat) : Int) = d % ((18446744073709551616 : Nat) : Int) := by omega
    rw [this]
  have s0 := (bmod_b d).2.2.2
  rw [← es] at s0
  clear hs
  rw [← es] at hd0
  have a0 : absU s = 0 := by unfold absU; omega
  have hsn : decide (s < 0) = false := decide_eq_false (by omega)
  by_cases hm : 9223372036854775808 ≤ H
  · have hm' : decide (9223372036854775808 ≤ H) = true := decide_eq_true hm
    have nb := negH_b (L := L) hH.1 hH.2
    have ds := dsNoTF hH.1 hH.2 hL.1 hL.2 sb.1 sb.2 hm' hsn (by rw [a0]; omega)
    exact ⟨_, _, fun w => divI16K 8 h l d _ _ _ _ _ _ _ 0 0 0 0 hn jI wD ds w⟩
  · have hm' : decide (9223372036854775808 ≤ H) = false := decide_eq_false hm
    have ds := dsNoFF hH.1 hH.2 hL.1 hL.2 sb.1 sb.2 hm' hsn (by rw [a0]; omega)
    exact ⟨_, _, fun w => divI16K 8 h l d _ _ _ _ _ _ _ 0 0 0 0 hn jI wD ds w⟩
end Go.Proofs.YtbcbepdfijcbmaaDoor
