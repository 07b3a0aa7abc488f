/-
  Divide: both answer alike; conditions: those in each head.
-/
import Derived.Test.YtbcbepdfijcbmaaDoorWalkDx1
namespace Go.Proofs.YtbcbepdfijcbmaaDoor
open Go.RowKit
set_option linter.unusedVariables false
theorem w64_w64 (x : Int) : wrap64 (wrap64 x) = wrap64 x := by unfold wrap64; omega
theorem fitT1 {q : Int} {Q : Nat} (h0 : 0 ≤ q) (h1 : q < 18446744073709551616) (e : IntKind.u64.wrap (wrap64 (-q)) = (Q : Int)) :
    (qH true q == wrap64 (sgnU Q 1 : Int) / 9223372036854775808 && wrap64 (-q) == wrap64 (sgnU Q 1 : Int)) = !(decide (128 < q)) := by
  by_cases hq : q = 0
  · subst hq
    have eq : Q = 0 := by rw [show wrap64 (-0) = 0 from w00] at e; rw [wrapU] at e; omega
    subst eq
    rw [show qH true 0 = 0 from rfl, show wrap64 (-0) = 0 from w00, sgn_int 0 1 (by decide)]
    decide
  · rw [show qH true q = -1 by unfold qH; simp [hq]]
    exact fitN1 (by omega) h1 e
theorem fitT2 {q : Int} {Q : Nat} (h0 : 0 ≤ q) (h1 : q < 18446744073709551616) (e : IntKind.u64.wrap (wrap64 (-q)) = (Q : Int)) :
    (qH true q == wrap64 (sgnU Q 2 : Int) / 9223372036854775808 && wrap64 (-q) == wrap64 (sgnU Q 2 : Int)) = !(decide (32768 < q)) := by
  by_cases hq : q = 0
  · subst hq
    have eq : Q = 0 := by rw [show wrap64 (-0) = 0 from w00] at e; rw [wrapU] at e; omega
    subst eq
    rw [show qH true 0 = 0 from rfl, show wrap64 (-0) = 0 from w00, sgn_int 0 2 (by decide)]
    decide
  · rw [show qH true q = -1 by unfold qH; simp [hq]]
    exact fitN2 (by omega) h1 e
theorem fitT4 {q : Int} {Q : Nat} (h0 : 0 ≤ q) (h1 : q < 18446744073709551616) (e : IntKind.u64.wrap (wrap64 (-q)) = (Q : Int)) :
    (qH true q == wrap64 (sgnU Q 4 : Int) / 9223372036854775808 && wrap64 (-q) == wrap64 (sgnU Q 4 : Int)) = !(decide (2147483648 < q)) := by
  by_cases hq : q = 0
  · subst hq
    have eq : Q = 0 := by rw [show wrap64 (-0) = 0 from w00] at e; rw [wrapU] at e; omega
    subst eq
    rw [show qH true 0 = 0 from rfl, show wrap64 (-0) = 0 from w00, sgn_int 0 4 (by decide)]
    decide
  · rw [show qH true q = -1 by unfold qH; simp [hq]]
    exact fitN4 (by omega) h1 e
theorem fitT8 {q : Int} {Q : Nat} (h0 : 0 ≤ q) (h1 : q < 18446744073709551616) (e : IntKind.u64.wrap (wrap64 (-q)) = (Q : Int)) :
    (qH true q == wrap64 (sgnU Q 8 : Int) / 9223372036854775808 && wrap64 (-q) == wrap64 (sgnU Q 8 : Int)) = !(decide (9223372036854775808 < q)) := by
  by_cases hq : q = 0
  · subst hq
    have eq : Q = 0 := by rw [show wrap64 (-0) = 0 from w00] at e; rw [wrapU] at e; omega
    subst eq
    rw [show qH true 0 = 0 from rfl, show wrap64 (-0) = 0 from w00, sgn_int 0 8 (by decide)]
    decide
  · rw [show qH true q = -1 by unfold qH; simp [hq]]
    exact fitN8 (by omega) h1 e
theorem sgn_b (X : Nat) (z : Nat) (h1 : 1 ≤ z) (h : z ≤ 8) : -9223372036854775808 ≤ wrap64 (sgnU X z : Int) ∧ wrap64 (sgnU X z : Int) ≤ 9223372036854775807 := by unfold wrap64; omega
theorem jofalse1 (h l : Int) (hh : (Lit.int .i64 h).wf = true) (hl : (Lit.int .i64 l).wf = true) : ∃ H L : Int, (0 ≤ H ∧ H < 18446744073709551616) ∧ (0 ≤ L ∧ L < 18446744073709551616) ∧
    (∀ w, Calls Tryd.prog 79 #[.int .i64 1, .int .i64 h, .int .i64 l, .bool false] w fun e w' => e = .returned (.tuple #[.int .u64 H, .int .u64 L]) ∧ w = w') ∧
    (∀ w, Calls Tryd.prog 54 #[.int .i64 h, .int .i64 l, .int .i64 1, .bool false] w fun e w' => e = .returned (.agg #[.int .i64 (wrap64 H), .int .i64 (wrap64 L)]) ∧ Below w.heap.size w w') := by
  obtain ⟨X, hX⟩ := natU h
  obtain ⟨Y, hY⟩ := natU l
  have un (v : Int) (V : Nat) (hV : IntKind.u64.wrap v = (V : Int)) (w : World) : Calls Tryd.prog 46 #[.int .i64 v, .int .i64 1] w fun e w' => e = .returned (.tuple #[.int .i64 (wrap64 ((V % 2 ^ (8 * 1) : Nat) : Int)), .nilIface]) ∧ w = w' := by
    rw [eqZ1 hV]; exact unsigned1 v w
  have zr (v : Int) (V : Nat) (hV : IntKind.u64.wrap v = (V : Int)) (w : World) := specZeroL v V 1 w hV (by decide) (by decide)
  obtain ⟨V, hV, hV2, hor⟩ := orI1 X Y hX
  have uV : IntKind.u64.wrap (wrap64 (V : Int)) = (V : Int) := u_w64 (by omega) (by omega)
  have hS := joinSP1 h l _ _ (zr h X hX) (zr l Y hY)
  rw [orS1] at hS
  have hI := joinX1 h l 0 _ _ 0 _ false hor (widUx l 1 _ (un l Y hY)) (widUx (wrap64 (V : Int)) 2 _ (fun w => unsigned2 _ w))
  clear hor
  rw [← eqZ2 uV, show (2 : Nat) ^ (8 * 2) = 65536 from rfl, hV] at hI
  refine ⟨0, _, by decide, ?_, hS, fun w => ?_⟩
  · omega
  · rw [w00]; exact hI w
theorem orC1 (A : Nat) (hA : A < 65536) : bits .or .u64 (A : Int) 18446744073709486080 = ((A + 18446744073709486080 : Nat) : Int) := by
  have := bits_or_u64_nat A 18446744073709486080 (by omega) (by decide)
  have e : A ||| 18446744073709486080 = A + 18446744073709486080 := by
    have h := Nat.two_pow_add_eq_or_of_lt (i := 16) (b := A) (by omega) 281474976710655
    rw [show (2 : Nat) ^ 16 * 281474976710655 = 18446744073709486080 from by decide] at h
    rw [Nat.or_comm, ← h]; omega
  rw [e] at this
  exact this
theorem half0_1 (X Y : Nat) (h : X / 128 % 2 = 0) : X % 256 * 256 + Y % 256 < 32768 := by omega
theorem half1_1 (X Y : Nat) (h : X / 128 % 2 = 1) : 32768 ≤ X % 256 * 256 + Y % 256 ∧ X % 256 * 256 + Y % 256 < 65536 := by omega
theorem jotrue1 (h l : Int) (hh : (Lit.int .i64 h).wf = true) (hl : (Lit.int .i64 l).wf = true) : ∃ H L : Int, (0 ≤ H ∧ H < 18446744073709551616) ∧ (0 ≤ L ∧ L < 18446744073709551616) ∧
    (∀ w, Calls Tryd.prog 79 #[.int .i64 1, .int .i64 h, .int .i64 l, .bool true] w fun e w' => e = .returned (.tuple #[.int .u64 H, .int .u64 L]) ∧ w = w') ∧
    (∀ w, Calls Tryd.prog 54 #[.int .i64 h, .int .i64 l, .int .i64 1, .bool true] w fun e w' => e = .returned (.agg #[.int .i64 (wrap64 H), .int .i64 (wrap64 L)]) ∧ Below w.heap.size w w') := by
  obtain ⟨X, hX⟩ := natU h
  obtain ⟨Y, hY⟩ := natU l
  have un (v : Int) (V : Nat) (hV : IntKind.u64.wrap v = (V : Int)) (w : World) : Calls Tryd.prog 46 #[.int .i64 v, .int .i64 1] w fun e w' => e = .returned (.tuple #[.int .i64 (wrap64 ((V % 2 ^ (8 * 1) : Nat) : Int)), .nilIface]) ∧ w = w' := by
    rw [eqZ1 hV]; exact unsigned1 v w
  have zr (v : Int) (V : Nat) (hV : IntKind.u64.wrap v = (V : Int)) (w : World) := specZeroL v V 1 w hV (by decide) (by decide)
  obtain ⟨V, hV, hV2, hor⟩ := orI1 X Y hX
  have uV : IntKind.u64.wrap (wrap64 (V : Int)) = (V : Int) := u_w64 (by omega) (by omega)
  have si (w : World) : Calls Tryd.prog 85 #[.int .i64 (wrap64 (V : Int)), .int .i64 2] w fun e w' => e = .returned (.tuple #[.int .i64 (wrap64 (sgnU V 2 : Int)), .nilIface]) ∧ w = w' := by
    rw [eqS2 uV]; exact signed2 _ w
  have hI := joinX1 h l 0 _ _ _ _ true hor (widUx l 1 _ (un l Y hY)) (widSx (wrap64 (V : Int)) 2 _ si)
  clear hor
  have hb := fun w => bitCI h X 7 7 (X / 2 ^ 7 % 2) w hX (by decide) rfl rfl
  obtain ⟨s, hs⟩ : ∃ s : Int, s = wrap64 (sgnU V 2 : Int) := ⟨_, rfl⟩
  rw [← hs] at hI
  rw [sgn_int V 2 (by decide), show (2 : Nat) ^ (8 * 2) = 65536 from rfl, Int.bmod_def] at hs
  obtain ⟨A, hA⟩ : ∃ A : Nat, A = X % 256 * 256 + Y % 256 := ⟨_, rfl⟩
  rw [← hA] at hV
  rw [show (((V : Int) % (((65536 : Nat) : Int)))) = (A : Int) by rw [← hV]; rfl] at hs
  rw [show (2 : Nat) ^ 7 = 128 from rfl] at hb
  by_cases ht : X / 128 % 2 = 0
  · have hb0 := half0_1 X Y ht
    rw [ht] at hb
    have hS := joinSN01 h l _ _ (zr h X hX) (zr l Y hY) hb
    rw [orS1, ← hA] at hS
    rw [← hA] at hb0
    clear hX hY hV hV2 uV ht hb zr hA
    have es : s = (A : Int) := by rw [hs, if_pos (by omega)]
    clear hs
    refine ⟨0, _, by decide, ?_, hS, fun w => ?_⟩
    · omega
    · have e1 : s / 9223372036854775808 = wrap64 0 := by rw [w00, es]; omega
      have e2 : wrap64 (A : Int) = s := by rw [es]; exact w64_in (by omega) (by omega)
      rw [e2, ← e1]; exact hI w
  · have ht1 : X / 128 % 2 = 1 := by omega
    have hb1 := half1_1 X Y ht1
    rw [ht1] at hb
    have hS := joinSN11 h l _ _ (zr h X hX) (zr l Y hY) hb
    rw [orS1, ← hA, orC1 A (by rw [hA]; exact hb1.2)] at hS
    rw [← hA] at hb1
    clear hX hY hV hV2 uV ht hb zr hA ht1
    have es : s = (A : Int) - 65536 := by rw [hs, if_neg (by omega)]; rfl
    clear hs
    refine ⟨18446744073709551615, _, by decide, ?_, hS, fun w => ?_⟩
    · omega
    · have e1 : s / 9223372036854775808 = wrap64 18446744073709551615 := by rw [wm1, es]; omega
      have e2 : wrap64 ((A + 18446744073709486080 : Nat) : Int) = s := by rw [es]; unfold wrap64; omega
      rw [e2, ← e1]; exact hI w
set_option maxHeartbeats 1000000 in
theorem divB15_1 (h l d : Int) (hh : (Lit.int .i64 h).wf = true) (hl : (Lit.int .i64 l).wf = true) (hd : (Lit.int .i64 d).wf = true) : ∃ q r k, (∀ w, Calls Tryd.prog 24 #[.int .i64 15, .int .i64 1, .int .i64 h, .int .i64 l, .int .i64 d] w fun e w' => e = .returned (.tuple #[.int .i64 q, .int .i64 r, .int .i64 k]) ∧ Below w.heap.size w w') ∧
    (∀ w, Calls Tryd.prog 23 #[.int .i64 15, .int .i64 1, .int .i64 h, .int .i64 l, .int .i64 d] w fun e w' => e = .returned (.tuple #[.int .i64 q, .int .i64 r, .int .i64 k]) ∧ w = w') := by
  obtain ⟨D, hD⟩ := natU d
  have hn : okSize (1 : Int) := by unfold okSize; omega
  have hDl : D < 18446744073709551616 := by rw [wrapU] at hD; omega
  have un (v : Int) (V : Nat) (hV : IntKind.u64.wrap v = (V : Int)) (w : World) : Calls Tryd.prog 46 #[.int .i64 v, .int .i64 1] w fun e w' => e = .returned (.tuple #[.int .i64 (wrap64 ((V % 2 ^ (8 * 1) : Nat) : Int)), .nilIface]) ∧ w = w' := by
    rw [eqZ1 hV]; exact unsigned1 v w
  have zr (v : Int) (V : Nat) (hV : IntKind.u64.wrap v = (V : Int)) (w : World) := specZeroL v V 1 w hV (by decide) (by decide)
  obtain ⟨H, L, hH, hL, jS, jI⟩ := jofalse1 h l hh hl
  obtain ⟨x, hx⟩ : ∃ x : Int, x = wrap64 ((D % 2 ^ (8 * 1) : Nat) : Int) := ⟨_, rfl⟩
  have zd := zr d D hD
  have wD := widUx d 1 _ (un d D hD)
  rw [← hx] at wD
  have zd' : ∀ w, Calls Tryd.prog 64 #[.int .i64 d, .int .i64 1] w fun e w' => e = .returned (.int .i64 x) ∧ w = w' := fun w => by rw [hx]; exact zd w
  obtain ⟨y, hy⟩ : ∃ y : Int, y = IntKind.u64.wrap x := ⟨_, rfl⟩
  have ey : y = ((D % 256 : Nat) : Int) := by rw [hy, hx, show (2 : Nat) ^ (8 * 1) = 256 from rfl]; exact u_w64 (by omega) (by omega)
  have ex : wrap64 y = x := by rw [hy, w64_u, hx]; exact w64_w64 _
  clear hx
  have hyb : 0 ≤ y ∧ y < 256 := by rw [ey]; omega
  by_cases hlt : H < y
  · have hge : decide (IntKind.u64.wrap x ≤ H) = false := by rw [← hy]; exact decide_eq_false (by omega)
    have qb := dq_b hH.1 hlt hL.1 hL.2
    have sp := divS15Yes1 h l d H L x _ _ hge jS zd' (fun w => by rw [← hy]; exact divide_any H L y w hH.1 hlt hL.1 hL.2 (by omega))
    have dw := fun w => dwYes hH.1 hlt hL.1 hL.2 (by omega : y < 18446744073709551616) w
    simp only [ex] at dw
    obtain ⟨q, hq⟩ : ∃ q : Int, q = dq H L y := ⟨_, rfl⟩
    obtain ⟨r, hr⟩ : ∃ r : Int, r = dr H L y := ⟨_, rfl⟩
    rw [← hq, ← hr] at qb sp
    simp only [← hq, ← hr] at dw
    have pl := plainX (wrap64 H) (wrap64 L) 0 x _ _ _ dw
    obtain ⟨Q, eQ⟩ := natU (wrap64 q)
    obtain ⟨R, eR⟩ := natU (wrap64 r)
    have wQ := widUx (wrap64 q) 1 _ (un _ Q eQ)
    have wR := widUx (wrap64 r) 1 _ (un _ R eR)
    have fi := fitsX 0 (wrap64 q) 1 _ _ false wQ
    rw [fitU1 qb.1.1 qb.1.2 eQ, show ((0 : Int) == 0) = true from rfl, Bool.true_and] at fi
    rw [lowU1 qb.2.1 (by omega) eR] at wR
    by_cases hf : q / 256 = 0
    · have hfb : (q / 256 == 0) = true := by rw [hf]; rfl
      rw [hfb] at fi sp
      rw [lowU1 qb.1.1 (by omega) eQ] at wQ
      exact ⟨_, _, 0, fun w => divI15Y 1 h l d _ _ _ _ _ _ _ _ _ _ _ hn jI wD pl fi wQ wR w, DivS15Y 1 h l d _ _ hn sp⟩
    · have hfb : (q / 256 == 0) = false := beq_eq_false_iff_ne.mpr hf
      rw [hfb] at fi sp
      exact ⟨_, _, 16, fun w => divI15N 1 h l d _ _ _ _ _ _ _ 0 0 0 0 hn jI wD pl fi w, DivS15N 1 h l d _ _ hn sp⟩
  · have hge : decide (IntKind.u64.wrap x ≤ H) = true := by rw [← hy]; exact decide_eq_true (by omega)
    have sp := divS15No1 h l d H L x hge jS zd'
    have dw := fun w => dwNo (l := L) hH.1 hH.2 hlt hyb.1 (by omega : y < 18446744073709551616) w
    simp only [ex] at dw
    have pl := plainX (wrap64 H) (wrap64 L) 0 x _ _ _ dw
    exact ⟨_, _, 16, fun w => divI15K 1 h l d _ _ _ _ _ _ _ 0 0 0 0 hn jI wD pl w, DivS15N 1 h l d _ _ hn sp⟩
set_option maxHeartbeats 2000000 in
theorem divB16_1 (h l d : Int) (hh : (Lit.int .i64 h).wf = true) (hl : (Lit.int .i64 l).wf = true) (hd : (Lit.int .i64 d).wf = true) : ∃ q r k, (∀ w, Calls Tryd.prog 24 #[.int .i64 16, .int .i64 1, .int .i64 h, .int .i64 l, .int .i64 d] w fun e w' => e = .returned (.tuple #[.int .i64 q, .int .i64 r, .int .i64 k]) ∧ Below w.heap.size w w') ∧
    (∀ w, Calls Tryd.prog 23 #[.int .i64 16, .int .i64 1, .int .i64 h, .int .i64 l, .int .i64 d] w fun e w' => e = .returned (.tuple #[.int .i64 q, .int .i64 r, .int .i64 k]) ∧ w = w') := by
  obtain ⟨D, hD⟩ := natU d
  have hn : okSize (1 : Int) := by unfold okSize; omega
  have un (v : Int) (V : Nat) (hV : IntKind.u64.wrap v = (V : Int)) (w : World) : Calls Tryd.prog 46 #[.int .i64 v, .int .i64 1] w fun e w' => e = .returned (.tuple #[.int .i64 (wrap64 ((V % 2 ^ (8 * 1) : Nat) : Int)), .nilIface]) ∧ w = w' := by
    rw [eqZ1 hV]; exact unsigned1 v w
  have zr (v : Int) (V : Nat) (hV : IntKind.u64.wrap v = (V : Int)) (w : World) := specZeroL v V 1 w hV (by decide) (by decide)
  have si (v : Int) (V : Nat) (hv : (Lit.int .i64 v).wf = true) (hV : IntKind.u64.wrap v = (V : Int)) (w : World) : Calls Tryd.prog 85 #[.int .i64 v, .int .i64 1] w fun e w' => e = .returned (.tuple #[.int .i64 (wrap64 (sgnU V 1 : Int)), .nilIface]) ∧ w = w' := by
    rw [eqS1 hV]; exact signed1 v w
  have sr (v : Int) (V : Nat) (hV : IntKind.u64.wrap v = (V : Int)) (w : World) := specSignL v V 1 w hV (by decide) (by decide)
  obtain ⟨H, L, hH, hL, jS, jI⟩ := jotrue1 h l hh hl
  obtain ⟨s, hs⟩ : ∃ s : Int, s = wrap64 (sgnU D 1 : Int) := ⟨_, rfl⟩
  have sb := sgn_b D 1 (by decide) (by decide)
  have wD := widSx d 1 _ (si d D hd hD)
  have zd := zr d D hD
  have sd := sr d D hD
  rw [← hs] at sb wD
  have sd' : ∀ w, Calls Tryd.prog 81 #[.int .i64 d, .int .i64 1] w fun e w' => e = .returned (.int .i64 s) ∧ w = w' := fun w => by rw [hs]; exact sd w
  have us := fun w => specSize s w (by rw [hs]; exact wrap64_wf _)
  have ab : 0 ≤ absU s ∧ absU s ≤ 9223372036854775808 := by unfold absU; omega
  by_cases hm : 9223372036854775808 ≤ H
  case neg =>
    have hmi : (H / 9223372036854775808 == 1) = false := beq_eq_false_iff_ne.mpr (by omega)
    have hm' : decide (9223372036854775808 ≤ H) = false := decide_eq_false hm
    by_cases hs0 : s < 0
    case neg =>
      have hsn : decide (s < 0) = false := decide_eq_false hs0
      by_cases hlt : H < absU s
      · have qb := dq_b hH.1 hlt hL.1 hL.2
        have dv := fun w => divide_any H L (absU s) w hH.1 hlt hL.1 hL.2 (by omega)
        have ds := dsYesFF hH.1 hH.2 hL.1 hL.2 sb.1 sb.2 hm' hsn hlt
        have hge : decide (absU s ≤ H) = false := decide_eq_false (by omega)
        obtain ⟨q, hq⟩ : ∃ q : Int, q = dq H L (absU s) := ⟨_, rfl⟩
        obtain ⟨r, hr⟩ : ∃ r : Int, r = dr H L (absU s) := ⟨_, rfl⟩
        rw [← hq, ← hr] at qb
        simp only [← hq, ← hr] at ds dv
        obtain ⟨Q, eQ⟩ := natU (wrap64 q)
        have fi := fitsX 0 (wrap64 q) 1 _ _ true (widSx (wrap64 q) 1 _ (si _ Q (wrap64_wf _) eQ))
        rw [fitP1 qb.1.1 qb.1.2 eQ] at fi
        have wQ := widUx (wrap64 q) 1 _ (un _ Q eQ)
        have zq := zr _ Q eQ
        obtain ⟨R, eR⟩ := natU (wrap64 r)
        have wR := widUx (wrap64 r) 1 _ (un _ R eR)
        have zrr := zr _ R eR
        by_cases hov' : 128 < q
        · have hov : decide (128 < q) = true := decide_eq_true hov'
          rw [hov, Bool.true_or, Bool.not_true] at fi
          have hgeW := hge; have dvW := dv
          have sp := divS16BFF1 h l d H L 0 0 0 _ s (absU s) q r 0 0 0 0 hmi hsn hgeW hov jS zd sd' us dvW
          exact ⟨_, _, 16, fun w => divI16N 1 h l d _ _ _ _ _ _ _ 0 0 0 0 hn jI wD ds fi w, DivS16N 1 h l d _ _ hn sp⟩
        · have hov : decide (128 < q) = false := decide_eq_false hov'
          by_cases heq' : q = 128
          · have heq : (q == 128) = true := beq_iff_eq.mpr heq'
            rw [hov, heq, Bool.false_or, Bool.not_true] at fi
            have hgeW := hge; have dvW := dv
            have sp := divS16EFF1 h l d H L 0 0 0 _ s (absU s) q r 0 0 0 0 hmi hsn hgeW hov heq jS zd sd' us dvW
            exact ⟨_, _, 16, fun w => divI16N 1 h l d _ _ _ _ _ _ _ 0 0 0 0 hn jI wD ds fi w, DivS16N 1 h l d _ _ hn sp⟩
          · have heq : (q == 128) = false := beq_eq_false_iff_ne.mpr heq'
            rw [hov, heq, Bool.false_or, Bool.not_false] at fi
            have hgeW := hge; have dvW := dv
            have sp := divS16YnFF1 h l d H L 0 0 0 _ s (absU s) q r 0 0 _ _ hmi hsn hgeW hov heq jS zd sd' us dvW zq zrr
            exact ⟨_, _, 0, fun w => divI16Y 1 h l d _ _ _ _ _ _ _ _ _ _ _ hn jI wD ds fi wQ wR w, DivS16Y 1 h l d _ _ hn sp⟩
      · have ds := dsNoFF hH.1 hH.2 hL.1 hL.2 sb.1 sb.2 hm' hsn hlt
        have hge : decide (absU s ≤ H) = true := decide_eq_true (by omega)
        have sp := divS16AFF1 h l d H L 0 0 0 _ s (absU s) 0 0 0 0 0 0 hmi hsn hge jS zd sd' us
        exact ⟨_, _, 16, fun w => divI16K 1 h l d _ _ _ _ _ _ _ 0 0 0 0 hn jI wD ds w, DivS16N 1 h l d _ _ hn sp⟩
    case pos =>
      have hsn : decide (s < 0) = true := decide_eq_true hs0
      by_cases hlt : H < absU s
      · have qb := dq_b hH.1 hlt hL.1 hL.2
        have dv := fun w => divide_any H L (absU s) w hH.1 hlt hL.1 hL.2 (by omega)
        have ds := dsYesFT hH.1 hH.2 hL.1 hL.2 sb.1 sb.2 hm' hsn hlt
        have hge : decide (absU s ≤ H) = false := decide_eq_false (by omega)
        obtain ⟨q, hq⟩ : ∃ q : Int, q = dq H L (absU s) := ⟨_, rfl⟩
        obtain ⟨r, hr⟩ : ∃ r : Int, r = dr H L (absU s) := ⟨_, rfl⟩
        rw [← hq, ← hr] at qb
        simp only [← hq, ← hr] at ds dv
        have eql : qL true q = wrap64 (-q) := by unfold qL; rfl
        rw [eql] at ds
        obtain ⟨Q, eQ⟩ := natU (wrap64 (-q))
        have wQ := widUx (wrap64 (-q)) 1 _ (un _ Q eQ)
        have zq' := zr _ Q eQ
        have zq : ∀ w, Calls Tryd.prog 64 #[.int .i64 (wrap64 (IntKind.u64.wrap (-q))), .int .i64 1] w fun e w' => e = .returned (.int .i64 (wrap64 ((Q % 2 ^ (8 * 1) : Nat) : Int))) ∧ w = w' := fun w => by rw [w64_u]; exact zq' w
        have fi := fitsX (qH true q) (wrap64 (-q)) 1 _ _ true (widSx (wrap64 (-q)) 1 _ (si _ Q (wrap64_wf _) eQ))
        rw [fitT1 qb.1.1 qb.1.2 eQ] at fi
        obtain ⟨R, eR⟩ := natU (wrap64 r)
        have wR := widUx (wrap64 r) 1 _ (un _ R eR)
        have zrr := zr _ R eR
        by_cases hov' : 128 < q
        · have hov : decide (128 < q) = true := decide_eq_true hov'
          rw [hov, Bool.not_true] at fi
          have hgeW := hge; have dvW := dv
          have sp := divS16BFT1 h l d H L 0 0 0 _ s (absU s) q r (IntKind.u64.wrap (-q)) 0 0 0 hmi hsn hgeW hov jS zd sd' us dvW
          exact ⟨_, _, 16, fun w => divI16N 1 h l d _ _ _ _ _ _ _ 0 0 0 0 hn jI wD ds fi w, DivS16N 1 h l d _ _ hn sp⟩
        · have hov : decide (128 < q) = false := decide_eq_false hov'
          rw [hov, Bool.not_false] at fi
          by_cases heq' : q = 128
          · have heq : (q == 128) = true := beq_iff_eq.mpr heq'
            have hgeW := hge; have dvW := dv
            have sp := divS16YeFT1 h l d H L 0 0 0 _ s (absU s) q r (IntKind.u64.wrap (-q)) 0 _ _ hmi hsn hgeW hov heq rfl jS zd sd' us dvW zq zrr
            exact ⟨_, _, 0, fun w => divI16Y 1 h l d _ _ _ _ _ _ _ _ _ _ _ hn jI wD ds fi wQ wR w, DivS16Y 1 h l d _ _ hn sp⟩
          · have heq : (q == 128) = false := beq_eq_false_iff_ne.mpr heq'
            have hgeW := hge; have dvW := dv
            have sp := divS16YnFT1 h l d H L 0 0 0 _ s (absU s) q r (IntKind.u64.wrap (-q)) 0 _ _ hmi hsn hgeW hov heq rfl jS zd sd' us dvW zq zrr
            exact ⟨_, _, 0, fun w => divI16Y 1 h l d _ _ _ _ _ _ _ _ _ _ _ hn jI wD ds fi wQ wR w, DivS16Y 1 h l d _ _ hn sp⟩
      · have ds := dsNoFT hH.1 hH.2 hL.1 hL.2 sb.1 sb.2 hm' hsn hlt
        have hge : decide (absU s ≤ H) = true := decide_eq_true (by omega)
        have sp := divS16AFT1 h l d H L 0 0 0 _ s (absU s) 0 0 0 0 0 0 hmi hsn hge jS zd sd' us
        exact ⟨_, _, 16, fun w => divI16K 1 h l d _ _ _ _ _ _ _ 0 0 0 0 hn jI wD ds w, DivS16N 1 h l d _ _ hn sp⟩
  case pos =>
    have hmi : (H / 9223372036854775808 == 1) = true := by rw [show H / 9223372036854775808 = 1 by omega]; rfl
    have hm' : decide (9223372036854775808 ≤ H) = true := decide_eq_true hm
    have nb := negH_b (L := L) hH.1 hH.2
    have lb := negL_b L
    have nh : bits .xor .u64 IntKind.u64.max H = 18446744073709551615 - H := not_u64 hH.1 hH.2
    by_cases hs0 : s < 0
    case neg =>
      have hsn : decide (s < 0) = false := decide_eq_false hs0
      by_cases hlt : (negH H L) < absU s
      · have qb := dq_b nb.1 hlt lb.1 lb.2
        have dv := fun w => divide_any (negH H L) (negL L) (absU s) w nb.1 hlt lb.1 lb.2 (by omega)
        have ds := dsYesTF hH.1 hH.2 hL.1 hL.2 sb.1 sb.2 hm' hsn hlt
        have hge : decide (absU s ≤ (negH H L)) = false := decide_eq_false (by omega)
        obtain ⟨q, hq⟩ : ∃ q : Int, q = dq (negH H L) (negL L) (absU s) := ⟨_, rfl⟩
        obtain ⟨r, hr⟩ : ∃ r : Int, r = dr (negH H L) (negL L) (absU s) := ⟨_, rfl⟩
        rw [← hq, ← hr] at qb
        simp only [← hq, ← hr] at ds dv
        have eql : qL true q = wrap64 (-q) := by unfold qL; rfl
        rw [eql] at ds
        obtain ⟨Q, eQ⟩ := natU (wrap64 (-q))
        have wQ := widUx (wrap64 (-q)) 1 _ (un _ Q eQ)
        have zq' := zr _ Q eQ
        have zq : ∀ w, Calls Tryd.prog 64 #[.int .i64 (wrap64 (IntKind.u64.wrap (-q))), .int .i64 1] w fun e w' => e = .returned (.int .i64 (wrap64 ((Q % 2 ^ (8 * 1) : Nat) : Int))) ∧ w = w' := fun w => by rw [w64_u]; exact zq' w
        have fi := fitsX (qH true q) (wrap64 (-q)) 1 _ _ true (widSx (wrap64 (-q)) 1 _ (si _ Q (wrap64_wf _) eQ))
        rw [fitT1 qb.1.1 qb.1.2 eQ] at fi
        obtain ⟨R, eR⟩ := natU (wrap64 (-r))
        rw [w64_neg] at ds
        have wR := widUx (wrap64 (-r)) 1 _ (un _ R eR)
        have zrr' := zr _ R eR
        have zrr : ∀ w, Calls Tryd.prog 64 #[.int .i64 (wrap64 (IntKind.u64.wrap (-r))), .int .i64 1] w fun e w' => e = .returned (.int .i64 (wrap64 ((R % 2 ^ (8 * 1) : Nat) : Int))) ∧ w = w' := fun w => by rw [w64_u]; exact zrr' w
        by_cases hov' : 128 < q
        · have hov : decide (128 < q) = true := decide_eq_true hov'
          rw [hov, Bool.not_true] at fi
          by_cases hL0 : L = 0
          · have e0 : negL L = 0 := by unfold negL; omega
            have eh : negH H L = (18446744073709551616 - H) % 18446744073709551616 := by unfold negH; rw [if_pos hL0]
            have nh0 := nh
            have nl0 : IntKind.u64.wrap (-L) = 0 := by rw [wrapU]; omega
            have nh2 : IntKind.u64.wrap (18446744073709551615 - H + 1) = negH H L := by rw [eh, wrapU]; omega
            have hgeW := hge
            have dvW := dv
            rw [e0] at dvW
            have sp := divS16BT0F1 h l d H L (18446744073709551615 - H) (negH H L) 0 _ s (absU s) q r (IntKind.u64.wrap (-q)) (IntKind.u64.wrap (-r)) 0 0 hmi nh0 nl0 nh2 hsn hgeW hov jS zd sd' us dvW
            exact ⟨_, _, 16, fun w => divI16N 1 h l d _ _ _ _ _ _ _ 0 0 0 0 hn jI wD ds fi w, DivS16N 1 h l d _ _ hn sp⟩
          · have eh : negH H L = 18446744073709551615 - H := by unfold negH; rw [if_neg hL0]
            have nh1 : bits .xor .u64 IntKind.u64.max H = negH H L := by rw [nh, eh]
            have nl1 : IntKind.u64.wrap (-L) = negL L := by rw [wrapU]; unfold negL; omega
            have nz1 : (negL L == 0) = false := beq_eq_false_iff_ne.mpr (by unfold negL; omega)
            have hgeW := hge
            have dvW := dv
            have sp := divS16BT1F1 h l d H L (negH H L) 0 (negL L) _ s (absU s) q r (IntKind.u64.wrap (-q)) (IntKind.u64.wrap (-r)) 0 0 hmi nh1 nl1 nz1 hsn hgeW hov jS zd sd' us dvW
            exact ⟨_, _, 16, fun w => divI16N 1 h l d _ _ _ _ _ _ _ 0 0 0 0 hn jI wD ds fi w, DivS16N 1 h l d _ _ hn sp⟩
        · have hov : decide (128 < q) = false := decide_eq_false hov'
          rw [hov, Bool.not_false] at fi
          by_cases heq' : q = 128
          · have heq : (q == 128) = true := beq_iff_eq.mpr heq'
            by_cases hL0 : L = 0
            · have e0 : negL L = 0 := by unfold negL; omega
              have eh : negH H L = (18446744073709551616 - H) % 18446744073709551616 := by unfold negH; rw [if_pos hL0]
              have nh0 := nh
              have nl0 : IntKind.u64.wrap (-L) = 0 := by rw [wrapU]; omega
              have nh2 : IntKind.u64.wrap (18446744073709551615 - H + 1) = negH H L := by rw [eh, wrapU]; omega
              have hgeW := hge
              have dvW := dv
              rw [e0] at dvW
              have sp := divS16YeT0F1 h l d H L (18446744073709551615 - H) (negH H L) 0 _ s (absU s) q r (IntKind.u64.wrap (-q)) (IntKind.u64.wrap (-r)) _ _ hmi nh0 nl0 nh2 hsn hgeW hov heq rfl rfl jS zd sd' us dvW zq zrr
              exact ⟨_, _, 0, fun w => divI16Y 1 h l d _ _ _ _ _ _ _ _ _ _ _ hn jI wD ds fi wQ wR w, DivS16Y 1 h l d _ _ hn sp⟩
            · have eh : negH H L = 18446744073709551615 - H := by unfold negH; rw [if_neg hL0]
              have nh1 : bits .xor .u64 IntKind.u64.max H = negH H L := by rw [nh, eh]
              have nl1 : IntKind.u64.wrap (-L) = negL L := by rw [wrapU]; unfold negL; omega
              have nz1 : (negL L == 0) = false := beq_eq_false_iff_ne.mpr (by unfold negL; omega)
              have hgeW := hge
              have dvW := dv
              have sp := divS16YeT1F1 h l d H L (negH H L) 0 (negL L) _ s (absU s) q r (IntKind.u64.wrap (-q)) (IntKind.u64.wrap (-r)) _ _ hmi nh1 nl1 nz1 hsn hgeW hov heq rfl rfl jS zd sd' us dvW zq zrr
              exact ⟨_, _, 0, fun w => divI16Y 1 h l d _ _ _ _ _ _ _ _ _ _ _ hn jI wD ds fi wQ wR w, DivS16Y 1 h l d _ _ hn sp⟩
          · have heq : (q == 128) = false := beq_eq_false_iff_ne.mpr heq'
            by_cases hL0 : L = 0
            · have e0 : negL L = 0 := by unfold negL; omega
              have eh : negH H L = (18446744073709551616 - H) % 18446744073709551616 := by unfold negH; rw [if_pos hL0]
              have nh0 := nh
              have nl0 : IntKind.u64.wrap (-L) = 0 := by rw [wrapU]; omega
              have nh2 : IntKind.u64.wrap (18446744073709551615 - H + 1) = negH H L := by rw [eh, wrapU]; omega
              have hgeW := hge
              have dvW := dv
              rw [e0] at dvW
              have sp := divS16YnT0F1 h l d H L (18446744073709551615 - H) (negH H L) 0 _ s (absU s) q r (IntKind.u64.wrap (-q)) (IntKind.u64.wrap (-r)) _ _ hmi nh0 nl0 nh2 hsn hgeW hov heq rfl rfl jS zd sd' us dvW zq zrr
              exact ⟨_, _, 0, fun w => divI16Y 1 h l d _ _ _ _ _ _ _ _ _ _ _ hn jI wD ds fi wQ wR w, DivS16Y 1 h l d _ _ hn sp⟩
            · have eh : negH H L = 18446744073709551615 - H := by unfold negH; rw [if_neg hL0]
              have nh1 : bits .xor .u64 IntKind.u64.max H = negH H L := by rw [nh, eh]
              have nl1 : IntKind.u64.wrap (-L) = negL L := by rw [wrapU]; unfold negL; omega
              have nz1 : (negL L == 0) = false := beq_eq_false_iff_ne.mpr (by unfold negL; omega)
              have hgeW := hge
              have dvW := dv
              have sp := divS16YnT1F1 h l d H L (negH H L) 0 (negL L) _ s (absU s) q r (IntKind.u64.wrap (-q)) (IntKind.u64.wrap (-r)) _ _ hmi nh1 nl1 nz1 hsn hgeW hov heq rfl rfl jS zd sd' us dvW zq zrr
              exact ⟨_, _, 0, fun w => divI16Y 1 h l d _ _ _ _ _ _ _ _ _ _ _ hn jI wD ds fi wQ wR w, DivS16Y 1 h l d _ _ hn sp⟩
      · have ds := dsNoTF hH.1 hH.2 hL.1 hL.2 sb.1 sb.2 hm' hsn hlt
        have hge : decide (absU s ≤ (negH H L)) = true := decide_eq_true (by omega)
        by_cases hL0 : L = 0
        · have eh : negH H L = (18446744073709551616 - H) % 18446744073709551616 := by unfold negH; rw [if_pos hL0]
          have nl0 : IntKind.u64.wrap (-L) = 0 := by rw [wrapU]; omega
          have nh2 : IntKind.u64.wrap (18446744073709551615 - H + 1) = negH H L := by rw [eh, wrapU]; omega
          have sp := divS16AT0F1 h l d H L (18446744073709551615 - H) (negH H L) 0 _ s (absU s) 0 0 0 0 0 0 hmi nh nl0 nh2 hsn hge jS zd sd' us
          exact ⟨_, _, 16, fun w => divI16K 1 h l d _ _ _ _ _ _ _ 0 0 0 0 hn jI wD ds w, DivS16N 1 h l d _ _ hn sp⟩
        · have eh : negH H L = 18446744073709551615 - H := by unfold negH; rw [if_neg hL0]
          have nh1 : bits .xor .u64 IntKind.u64.max H = negH H L := by rw [nh, eh]
          have nl1 : IntKind.u64.wrap (-L) = negL L := by rw [wrapU]; unfold negL; omega
          have nz1 : (negL L == 0) = false := beq_eq_false_iff_ne.mpr (by unfold negL; omega)
          have sp := divS16AT1F1 h l d H L (negH H L) 0 (negL L) _ s (absU s) 0 0 0 0 0 0 hmi nh1 nl1 nz1 hsn hge jS zd sd' us
          exact ⟨_, _, 16, fun w => divI16K 1 h l d _ _ _ _ _ _ _ 0 0 0 0 hn jI wD ds w, DivS16N 1 h l d _ _ hn sp⟩
    case pos =>
      have hsn : decide (s < 0) = true := decide_eq_true hs0
      by_cases hlt : (negH H L) < absU s
      · have qb := dq_b nb.1 hlt lb.1 lb.2
        have dv := fun w => divide_any (negH H L) (negL L) (absU s) w nb.1 hlt lb.1 lb.2 (by omega)
        have ds := dsYesTT hH.1 hH.2 hL.1 hL.2 sb.1 sb.2 hm' hsn hlt
        have hge : decide (absU s ≤ (negH H L)) = false := decide_eq_false (by omega)
        obtain ⟨q, hq⟩ : ∃ q : Int, q = dq (negH H L) (negL L) (absU s) := ⟨_, rfl⟩
        obtain ⟨r, hr⟩ : ∃ r : Int, r = dr (negH H L) (negL L) (absU s) := ⟨_, rfl⟩
        rw [← hq, ← hr] at qb
        simp only [← hq, ← hr] at ds dv
        obtain ⟨Q, eQ⟩ := natU (wrap64 q)
        have fi := fitsX 0 (wrap64 q) 1 _ _ true (widSx (wrap64 q) 1 _ (si _ Q (wrap64_wf _) eQ))
        rw [fitP1 qb.1.1 qb.1.2 eQ] at fi
        have wQ := widUx (wrap64 q) 1 _ (un _ Q eQ)
        have zq := zr _ Q eQ
        obtain ⟨R, eR⟩ := natU (wrap64 (-r))
        rw [w64_neg] at ds
        have wR := widUx (wrap64 (-r)) 1 _ (un _ R eR)
        have zrr' := zr _ R eR
        have zrr : ∀ w, Calls Tryd.prog 64 #[.int .i64 (wrap64 (IntKind.u64.wrap (-r))), .int .i64 1] w fun e w' => e = .returned (.int .i64 (wrap64 ((R % 2 ^ (8 * 1) : Nat) : Int))) ∧ w = w' := fun w => by rw [w64_u]; exact zrr' w
        by_cases hov' : 128 < q
        · have hov : decide (128 < q) = true := decide_eq_true hov'
          rw [hov, Bool.true_or, Bool.not_true] at fi
          by_cases hL0 : L = 0
          · have e0 : negL L = 0 := by unfold negL; omega
            have eh : negH H L = (18446744073709551616 - H) % 18446744073709551616 := by unfold negH; rw [if_pos hL0]
            have nh0 := nh
            have nl0 : IntKind.u64.wrap (-L) = 0 := by rw [wrapU]; omega
            have nh2 : IntKind.u64.wrap (18446744073709551615 - H + 1) = negH H L := by rw [eh, wrapU]; omega
            have hgeW := hge
            have dvW := dv
            rw [e0] at dvW
            have sp := divS16BT0T1 h l d H L (18446744073709551615 - H) (negH H L) 0 _ s (absU s) q r 0 (IntKind.u64.wrap (-r)) 0 0 hmi nh0 nl0 nh2 hsn hgeW hov jS zd sd' us dvW
            exact ⟨_, _, 16, fun w => divI16N 1 h l d _ _ _ _ _ _ _ 0 0 0 0 hn jI wD ds fi w, DivS16N 1 h l d _ _ hn sp⟩
          · have eh : negH H L = 18446744073709551615 - H := by unfold negH; rw [if_neg hL0]
            have nh1 : bits .xor .u64 IntKind.u64.max H = negH H L := by rw [nh, eh]
            have nl1 : IntKind.u64.wrap (-L) = negL L := by rw [wrapU]; unfold negL; omega
            have nz1 : (negL L == 0) = false := beq_eq_false_iff_ne.mpr (by unfold negL; omega)
            have hgeW := hge
            have dvW := dv
            have sp := divS16BT1T1 h l d H L (negH H L) 0 (negL L) _ s (absU s) q r 0 (IntKind.u64.wrap (-r)) 0 0 hmi nh1 nl1 nz1 hsn hgeW hov jS zd sd' us dvW
            exact ⟨_, _, 16, fun w => divI16N 1 h l d _ _ _ _ _ _ _ 0 0 0 0 hn jI wD ds fi w, DivS16N 1 h l d _ _ hn sp⟩
        · have hov : decide (128 < q) = false := decide_eq_false hov'
          by_cases heq' : q = 128
          · have heq : (q == 128) = true := beq_iff_eq.mpr heq'
            rw [hov, heq, Bool.false_or, Bool.not_true] at fi
            by_cases hL0 : L = 0
            · have e0 : negL L = 0 := by unfold negL; omega
              have eh : negH H L = (18446744073709551616 - H) % 18446744073709551616 := by unfold negH; rw [if_pos hL0]
              have nh0 := nh
              have nl0 : IntKind.u64.wrap (-L) = 0 := by rw [wrapU]; omega
              have nh2 : IntKind.u64.wrap (18446744073709551615 - H + 1) = negH H L := by rw [eh, wrapU]; omega
              have hgeW := hge
              have dvW := dv
              rw [e0] at dvW
              have sp := divS16ET0T1 h l d H L (18446744073709551615 - H) (negH H L) 0 _ s (absU s) q r 0 (IntKind.u64.wrap (-r)) 0 0 hmi nh0 nl0 nh2 hsn hgeW hov heq jS zd sd' us dvW
              exact ⟨_, _, 16, fun w => divI16N 1 h l d _ _ _ _ _ _ _ 0 0 0 0 hn jI wD ds fi w, DivS16N 1 h l d _ _ hn sp⟩
            · have eh : negH H L = 18446744073709551615 - H := by unfold negH; rw [if_neg hL0]
              have nh1 : bits .xor .u64 IntKind.u64.max H = negH H L := by rw [nh, eh]
              have nl1 : IntKind.u64.wrap (-L) = negL L := by rw [wrapU]; unfold negL; omega
              have nz1 : (negL L == 0) = false := beq_eq_false_iff_ne.mpr (by unfold negL; omega)
              have hgeW := hge
              have dvW := dv
              have sp := divS16ET1T1 h l d H L (negH H L) 0 (negL L) _ s (absU s) q r 0 (IntKind.u64.wrap (-r)) 0 0 hmi nh1 nl1 nz1 hsn hgeW hov heq jS zd sd' us dvW
              exact ⟨_, _, 16, fun w => divI16N 1 h l d _ _ _ _ _ _ _ 0 0 0 0 hn jI wD ds fi w, DivS16N 1 h l d _ _ hn sp⟩
          · have heq : (q == 128) = false := beq_eq_false_iff_ne.mpr heq'
            rw [hov, heq, Bool.false_or, Bool.not_false] at fi
            by_cases hL0 : L = 0
            · have e0 : negL L = 0 := by unfold negL; omega
              have eh : negH H L = (18446744073709551616 - H) % 18446744073709551616 := by unfold negH; rw [if_pos hL0]
              have nh0 := nh
              have nl0 : IntKind.u64.wrap (-L) = 0 := by rw [wrapU]; omega
              have nh2 : IntKind.u64.wrap (18446744073709551615 - H + 1) = negH H L := by rw [eh, wrapU]; omega
              have hgeW := hge
              have dvW := dv
              rw [e0] at dvW
              have sp := divS16YnT0T1 h l d H L (18446744073709551615 - H) (negH H L) 0 _ s (absU s) q r 0 (IntKind.u64.wrap (-r)) _ _ hmi nh0 nl0 nh2 hsn hgeW hov heq rfl jS zd sd' us dvW zq zrr
              exact ⟨_, _, 0, fun w => divI16Y 1 h l d _ _ _ _ _ _ _ _ _ _ _ hn jI wD ds fi wQ wR w, DivS16Y 1 h l d _ _ hn sp⟩
            · have eh : negH H L = 18446744073709551615 - H := by unfold negH; rw [if_neg hL0]
              have nh1 : bits .xor .u64 IntKind.u64.max H = negH H L := by rw [nh, eh]
              have nl1 : IntKind.u64.wrap (-L) = negL L := by rw [wrapU]; unfold negL; omega
              have nz1 : (negL L == 0) = false := beq_eq_false_iff_ne.mpr (by unfold negL; omega)
              have hgeW := hge
              have dvW := dv
              have sp := divS16YnT1T1 h l d H L (negH H L) 0 (negL L) _ s (absU s) q r 0 (IntKind.u64.wrap (-r)) _ _ hmi nh1 nl1 nz1 hsn hgeW hov heq rfl jS zd sd' us dvW zq zrr
              exact ⟨_, _, 0, fun w => divI16Y 1 h l d _ _ _ _ _ _ _ _ _ _ _ hn jI wD ds fi wQ wR w, DivS16Y 1 h l d _ _ hn sp⟩
      · have ds := dsNoTT hH.1 hH.2 hL.1 hL.2 sb.1 sb.2 hm' hsn hlt
        have hge : decide (absU s ≤ (negH H L)) = true := decide_eq_true (by omega)
        by_cases hL0 : L = 0
        · have eh : negH H L = (18446744073709551616 - H) % 18446744073709551616 := by unfold negH; rw [if_pos hL0]
          have nl0 : IntKind.u64.wrap (-L) = 0 := by rw [wrapU]; omega
          have nh2 : IntKind.u64.wrap (18446744073709551615 - H + 1) = negH H L := by rw [eh, wrapU]; omega
          have sp := divS16AT0T1 h l d H L (18446744073709551615 - H) (negH H L) 0 _ s (absU s) 0 0 0 0 0 0 hmi nh nl0 nh2 hsn hge jS zd sd' us
          exact ⟨_, _, 16, fun w => divI16K 1 h l d _ _ _ _ _ _ _ 0 0 0 0 hn jI wD ds w, DivS16N 1 h l d _ _ hn sp⟩
        · have eh : negH H L = 18446744073709551615 - H := by unfold negH; rw [if_neg hL0]
          have nh1 : bits .xor .u64 IntKind.u64.max H = negH H L := by rw [nh, eh]
          have nl1 : IntKind.u64.wrap (-L) = negL L := by rw [wrapU]; unfold negL; omega
          have nz1 : (negL L == 0) = false := beq_eq_false_iff_ne.mpr (by unfold negL; omega)
          have sp := divS16AT1T1 h l d H L (negH H L) 0 (negL L) _ s (absU s) 0 0 0 0 0 0 hmi nh1 nl1 nz1 hsn hge jS zd sd' us
          exact ⟨_, _, 16, fun w => divI16K 1 h l d _ _ _ _ _ _ _ 0 0 0 0 hn jI wD ds w, DivS16N 1 h l d _ _ hn sp⟩
theorem jofalse2 (h l : Int) (hh : (Lit.int .i64 h).wf = true) (hl : (Lit.int .i64 l).wf = true) : ∃ H L : Int, (0 ≤ H ∧ H < 18446744073709551616) ∧ (0 ≤ L ∧ L < 18446744073709551616) ∧
    (∀ w, Calls Tryd.prog 79 #[.int .i64 2, .int .i64 h, .int .i64 l, .bool false] w fun e w' => e = .returned (.tuple #[.int .u64 H, .int .u64 L]) ∧ w = w') ∧
    (∀ w, Calls Tryd.prog 54 #[.int .i64 h, .int .i64 l, .int .i64 2, .bool false] w fun e w' => e = .returned (.agg #[.int .i64 (wrap64 H), .int .i64 (wrap64 L)]) ∧ Below w.heap.size w w') := by
  obtain ⟨X, hX⟩ := natU h
  obtain ⟨Y, hY⟩ := natU l
  have un (v : Int) (V : Nat) (hV : IntKind.u64.wrap v = (V : Int)) (w : World) : Calls Tryd.prog 46 #[.int .i64 v, .int .i64 2] w fun e w' => e = .returned (.tuple #[.int .i64 (wrap64 ((V % 2 ^ (8 * 2) : Nat) : Int)), .nilIface]) ∧ w = w' := by
    rw [eqZ2 hV]; exact unsigned2 v w
  have zr (v : Int) (V : Nat) (hV : IntKind.u64.wrap v = (V : Int)) (w : World) := specZeroL v V 2 w hV (by decide) (by decide)
  obtain ⟨V, hV, hV2, hor⟩ := orI2 X Y hX
  have uV : IntKind.u64.wrap (wrap64 (V : Int)) = (V : Int) := u_w64 (by omega) (by omega)
  have hS := joinSP2 h l _ _ (zr h X hX) (zr l Y hY)
  rw [orS2] at hS
  have hI := joinX2 h l 0 _ _ 0 _ false hor (widUx l 2 _ (un l Y hY)) (widUx (wrap64 (V : Int)) 4 _ (fun w => unsigned4 _ w))
  clear hor
  rw [← eqZ4 uV, show (2 : Nat) ^ (8 * 4) = 4294967296 from rfl, hV] at hI
  refine ⟨0, _, by decide, ?_, hS, fun w => ?_⟩
  · omega
  · rw [w00]; exact hI w
theorem orC2 (A : Nat) (hA : A < 4294967296) : bits .or .u64 (A : Int) 18446744069414584320 = ((A + 18446744069414584320 : Nat) : Int) := by
  have := bits_or_u64_nat A 18446744069414584320 (by omega) (by decide)
  have e : A ||| 18446744069414584320 = A + 18446744069414584320 := by
    have h := Nat.two_pow_add_eq_or_of_lt (i := 32) (b := A) (by omega) 4294967295
    rw [show (2 : Nat) ^ 32 * 4294967295 = 18446744069414584320 from by decide] at h
    rw [Nat.or_comm, ← h]; omega
  rw [e] at this
  exact this
theorem half0_2 (X Y : Nat) (h : X / 32768 % 2 = 0) : X % 65536 * 65536 + Y % 65536 < 2147483648 := by omega
theorem half1_2 (X Y : Nat) (h : X / 32768 % 2 = 1) : 2147483648 ≤ X % 65536 * 65536 + Y % 65536 ∧ X % 65536 * 65536 + Y % 65536 < 4294967296 := by omega
theorem jotrue2 (h l : Int) (hh : (Lit.int .i64 h).wf = true) (hl : (Lit.int .i64 l).wf = true) : ∃ H L : Int, (0 ≤ H ∧ H < 18446744073709551616) ∧ (0 ≤ L ∧ L < 18446744073709551616) ∧
    (∀ w, Calls Tryd.prog 79 #[.int .i64 2, .int .i64 h, .int .i64 l, .bool true] w fun e w' => e = .returned (.tuple #[.int .u64 H, .int .u64 L]) ∧ w = w') ∧
    (∀ w, Calls Tryd.prog 54 #[.int .i64 h, .int .i64 l, .int .i64 2, .bool true] w fun e w' => e = .returned (.agg #[.int .i64 (wrap64 H), .int .i64 (wrap64 L)]) ∧ Below w.heap.size w w') := by
  obtain ⟨X, hX⟩ := natU h
  obtain ⟨Y, hY⟩ := natU l
  have un (v : Int) (V : Nat) (hV : IntKind.u64.wrap v = (V : Int)) (w : World) : Calls Tryd.prog 46 #[.int .i64 v, .int .i64 2] w fun e w' => e = .returned (.tuple #[.int .i64 (wrap64 ((V % 2 ^ (8 * 2) : Nat) : Int)), .nilIface]) ∧ w = w' := by
    rw [eqZ2 hV]; exact unsigned2 v w
  have zr (v : Int) (V : Nat) (hV : IntKind.u64.wrap v = (V : Int)) (w : World) := specZeroL v V 2 w hV (by decide) (by decide)
  obtain ⟨V, hV, hV2, hor⟩ := orI2 X Y hX
  have uV : IntKind.u64.wrap (wrap64 (V : Int)) = (V : Int) := u_w64 (by omega) (by omega)
  have si (w : World) : Calls Tryd.prog 85 #[.int .i64 (wrap64 (V : Int)), .int .i64 4] w fun e w' => e = .returned (.tuple #[.int .i64 (wrap64 (sgnU V 4 : Int)), .nilIface]) ∧ w = w' := by
    rw [eqS4 uV]; exact signed4 _ w
  have hI := joinX2 h l 0 _ _ _ _ true hor (widUx l 2 _ (un l Y hY)) (widSx (wrap64 (V : Int)) 4 _ si)
  clear hor
  have hb := fun w => bitCI h X 15 15 (X / 2 ^ 15 % 2) w hX (by decide) rfl rfl
  obtain ⟨s, hs⟩ : ∃ s : Int, s = wrap64 (sgnU V 4 : Int) := ⟨_, rfl⟩
  rw [← hs] at hI
  rw [sgn_int V 4 (by decide), show (2 : Nat) ^ (8 * 4) = 4294967296 from rfl, Int.bmod_def] at hs
  obtain ⟨A, hA⟩ : ∃ A : Nat, A = X % 65536 * 65536 + Y % 65536 := ⟨_, rfl⟩
  rw [← hA] at hV
  rw [show (((V : Int) % (((4294967296 : Nat) : Int)))) = (A : Int) by rw [← hV]; rfl] at hs
  rw [show (2 : Nat) ^ 15 = 32768 from rfl] at hb
  by_cases ht : X / 32768 % 2 = 0
  · have hb0 := half0_2 X Y ht
    rw [ht] at hb
    have hS := joinSN02 h l _ _ (zr h X hX) (zr l Y hY) hb
    rw [orS2, ← hA] at hS
    rw [← hA] at hb0
    clear hX hY hV hV2 uV ht hb zr hA
    have es : s = (A : Int) := by rw [hs, if_pos (by omega)]
    clear hs
    refine ⟨0, _, by decide, ?_, hS, fun w => ?_⟩
    · omega
    · have e1 : s / 9223372036854775808 = wrap64 0 := by rw [w00, es]; omega
      have e2 : wrap64 (A : Int) = s := by rw [es]; exact w64_in (by omega) (by omega)
      rw [e2, ← e1]; exact hI w
  · have ht1 : X / 32768 % 2 = 1 := by omega
    have hb1 := half1_2 X Y ht1
    rw [ht1] at hb
    have hS := joinSN12 h l _ _ (zr h X hX) (zr l Y hY) hb
    rw [orS2, ← hA, orC2 A (by rw [hA]; exact hb1.2)] at hS
    rw [← hA] at hb1
    clear hX hY hV hV2 uV ht hb zr hA ht1
    have es : s = (A : Int) - 4294967296 := by rw [hs, if_neg (by omega)]; rfl
    clear hs
    refine ⟨18446744073709551615, _, by decide, ?_, hS, fun w => ?_⟩
    · omega
    · have e1 : s / 9223372036854775808 = wrap64 18446744073709551615 := by rw [wm1, es]; omega
      have e2 : wrap64 ((A + 18446744069414584320 : Nat) : Int) = s := by rw [es]; unfold wrap64; omega
      rw [e2, ← e1]; exact hI w
set_option maxHeartbeats 1000000 in
theorem divB15_2 (h l d : Int) (hh : (Lit.int .i64 h).wf = true) (hl : (Lit.int .i64 l).wf = true) (hd : (Lit.int .i64 d).wf = true) : ∃ q r k, (∀ w, Calls Tryd.prog 24 #[.int .i64 15, .int .i64 2, .int .i64 h, .int .i64 l, .int .i64 d] w fun e w' => e = .returned (.tuple #[.int .i64 q, .int .i64 r, .int .i64 k]) ∧ Below w.heap.size w w') ∧
    (∀ w, Calls Tryd.prog 23 #[.int .i64 15, .int .i64 2, .int .i64 h, .int .i64 l, .int .i64 d] w fun e w' => e = .returned (.tuple #[.int .i64 q, .int .i64 r, .int .i64 k]) ∧ w = w') := by
  obtain ⟨D, hD⟩ := natU d
  have hn : okSize (2 : Int) := by unfold okSize; omega
  have hDl : D < 18446744073709551616 := by rw [wrapU] at hD; omega
  have un (v : Int) (V : Nat) (hV : IntKind.u64.wrap v = (V : Int)) (w : World) : Calls Tryd.prog 46 #[.int .i64 v, .int .i64 2] w fun e w' => e = .returned (.tuple #[.int .i64 (wrap64 ((V % 2 ^ (8 * 2) : Nat) : Int)), .nilIface]) ∧ w = w' := by
    rw [eqZ2 hV]; exact unsigned2 v w
  have zr (v : Int) (V : Nat) (hV : IntKind.u64.wrap v = (V : Int)) (w : World) := specZeroL v V 2 w hV (by decide) (by decide)
  obtain ⟨H, L, hH, hL, jS, jI⟩ := jofalse2 h l hh hl
  obtain ⟨x, hx⟩ : ∃ x : Int, x = wrap64 ((D % 2 ^ (8 * 2) : Nat) : Int) := ⟨_, rfl⟩
  have zd := zr d D hD
  have wD := widUx d 2 _ (un d D hD)
  rw [← hx] at wD
  have zd' : ∀ w, Calls Tryd.prog 64 #[.int .i64 d, .int .i64 2] w fun e w' => e = .returned (.int .i64 x) ∧ w = w' := fun w => by rw [hx]; exact zd w
  obtain ⟨y, hy⟩ : ∃ y : Int, y = IntKind.u64.wrap x := ⟨_, rfl⟩
  have ey : y = ((D % 65536 : Nat) : Int) := by rw [hy, hx, show (2 : Nat) ^ (8 * 2) = 65536 from rfl]; exact u_w64 (by omega) (by omega)
  have ex : wrap64 y = x := by rw [hy, w64_u, hx]; exact w64_w64 _
  clear hx
  have hyb : 0 ≤ y ∧ y < 65536 := by rw [ey]; omega
  by_cases hlt : H < y
  · have hge : decide (IntKind.u64.wrap x ≤ H) = false := by rw [← hy]; exact decide_eq_false (by omega)
    have qb := dq_b hH.1 hlt hL.1 hL.2
    have sp := divS15Yes2 h l d H L x _ _ hge jS zd' (fun w => by rw [← hy]; exact divide_any H L y w hH.1 hlt hL.1 hL.2 (by omega))
    have dw := fun w => dwYes hH.1 hlt hL.1 hL.2 (by omega : y < 18446744073709551616) w
    simp only [ex] at dw
    obtain ⟨q, hq⟩ : ∃ q : Int, q = dq H L y := ⟨_, rfl⟩
    obtain ⟨r, hr⟩ : ∃ r : Int, r = dr H L y := ⟨_, rfl⟩
    rw [← hq, ← hr] at qb sp
    simp only [← hq, ← hr] at dw
    have pl := plainX (wrap64 H) (wrap64 L) 0 x _ _ _ dw
    obtain ⟨Q, eQ⟩ := natU (wrap64 q)
    obtain ⟨R, eR⟩ := natU (wrap64 r)
    have wQ := widUx (wrap64 q) 2 _ (un _ Q eQ)
    have wR := widUx (wrap64 r) 2 _ (un _ R eR)
    have fi := fitsX 0 (wrap64 q) 2 _ _ false wQ
    rw [fitU2 qb.1.1 qb.1.2 eQ, show ((0 : Int) == 0) = true from rfl, Bool.true_and] at fi
    rw [lowU2 qb.2.1 (by omega) eR] at wR
    by_cases hf : q / 65536 = 0
    · have hfb : (q / 65536 == 0) = true := by rw [hf]; rfl
      rw [hfb] at fi sp
      rw [lowU2 qb.1.1 (by omega) eQ] at wQ
      exact ⟨_, _, 0, fun w => divI15Y 2 h l d _ _ _ _ _ _ _ _ _ _ _ hn jI wD pl fi wQ wR w, DivS15Y 2 h l d _ _ hn sp⟩
    · have hfb : (q / 65536 == 0) = false := beq_eq_false_iff_ne.mpr hf
      rw [hfb] at fi sp
      exact ⟨_, _, 16, fun w => divI15N 2 h l d _ _ _ _ _ _ _ 0 0 0 0 hn jI wD pl fi w, DivS15N 2 h l d _ _ hn sp⟩
  · have hge : decide (IntKind.u64.wrap x ≤ H) = true := by rw [← hy]; exact decide_eq_true (by omega)
    have sp := divS15No2 h l d H L x hge jS zd'
    have dw := fun w => dwNo (l := L) hH.1 hH.2 hlt hyb.1 (by omega : y < 18446744073709551616) w
    simp only [ex] at dw
    have pl := plainX (wrap64 H) (wrap64 L) 0 x _ _ _ dw
    exact ⟨_, _, 16, fun w => divI15K 2 h l d _ _ _ _ _ _ _ 0 0 0 0 hn jI wD pl w, DivS15N 2 h l d _ _ hn sp⟩
set_option maxHeartbeats 2000000 in
theorem divB16_2 (h l d : Int) (hh : (Lit.int .i64 h).wf = true) (hl : (Lit.int .i64 l).wf = true) (hd : (Lit.int .i64 d).wf = true) : ∃ q r k, (∀ w, Calls Tryd.prog 24 #[.int .i64 16, .int .i64 2, .int .i64 h, .int .i64 l, .int .i64 d] w fun e w' => e = .returned (.tuple #[.int .i64 q, .int .i64 r, .int .i64 k]) ∧ Below w.heap.size w w') ∧
    (∀ w, Calls Tryd.prog 23 #[.int .i64 16, .int .i64 2, .int .i64 h, .int .i64 l, .int .i64 d] w fun e w' => e = .returned (.tuple #[.int .i64 q, .int .i64 r, .int .i64 k]) ∧ w = w') := by
  obtain ⟨D, hD⟩ := natU d
  have hn : okSize (2 : Int) := by unfold okSize; omega
  have un (v : Int) (V : Nat) (hV : IntKind.u64.wrap v = (V : Int)) (w : World) : Calls Tryd.prog 46 #[.int .i64 v, .int .i64 2] w fun e w' => e = .returned (.tuple #[.int .i64 (wrap64 ((V % 2 ^ (8 * 2) : Nat) : Int)), .nilIface]) ∧ w = w' := by
    rw [eqZ2 hV]; exact unsigned2 v w
  have zr (v : Int) (V : Nat) (hV : IntKind.u64.wrap v = (V : Int)) (w : World) := specZeroL v V 2 w hV (by decide) (by decide)
  have si (v : Int) (V : Nat) (hv : (Lit.int .i64 v).wf = true) (hV : IntKind.u64.wrap v = (V : Int)) (w : World) : Calls Tryd.prog 85 #[.int .i64 v, .int .i64 2] w fun e w' => e = .returned (.tuple #[.int .i64 (wrap64 (sgnU V 2 : Int)), .nilIface]) ∧ w = w' := by
    rw [eqS2 hV]; exact signed2 v w
  have sr (v : Int) (V : Nat) (hV : IntKind.u64.wrap v = (V : Int)) (w : World) := specSignL v V 2 w hV (by decide) (by decide)
  obtain ⟨H, L, hH, hL, jS, jI⟩ := jotrue2 h l hh hl
  obtain ⟨s, hs⟩ : ∃ s : Int, s = wrap64 (sgnU D 2 : Int) := ⟨_, rfl⟩
  have sb := sgn_b D 2 (by decide) (by decide)
  have wD := widSx d 2 _ (si d D hd hD)
  have zd := zr d D hD
  have sd := sr d D hD
  rw [← hs] at sb wD
  have sd' : ∀ w, Calls Tryd.prog 81 #[.int .i64 d, .int .i64 2] w fun e w' => e = .returned (.int .i64 s) ∧ w = w' := fun w => by rw [hs]; exact sd w
  have us := fun w => specSize s w (by rw [hs]; exact wrap64_wf _)
  have ab : 0 ≤ absU s ∧ absU s ≤ 9223372036854775808 := by unfold absU; omega
  by_cases hm : 9223372036854775808 ≤ H
  case neg =>
    have hmi : (H / 9223372036854775808 == 1) = false := beq_eq_false_iff_ne.mpr (by omega)
    have hm' : decide (9223372036854775808 ≤ H) = false := decide_eq_false hm
    by_cases hs0 : s < 0
    case neg =>
      have hsn : decide (s < 0) = false := decide_eq_false hs0
      by_cases hlt : H < absU s
      · have qb := dq_b hH.1 hlt hL.1 hL.2
        have dv := fun w => divide_any H L (absU s) w hH.1 hlt hL.1 hL.2 (by omega)
        have ds := dsYesFF hH.1 hH.2 hL.1 hL.2 sb.1 sb.2 hm' hsn hlt
        have hge : decide (absU s ≤ H) = false := decide_eq_false (by omega)
        obtain ⟨q, hq⟩ : ∃ q : Int, q = dq H L (absU s) := ⟨_, rfl⟩
        obtain ⟨r, hr⟩ : ∃ r : Int, r = dr H L (absU s) := ⟨_, rfl⟩
        rw [← hq, ← hr] at qb
        simp only [← hq, ← hr] at ds dv
        obtain ⟨Q, eQ⟩ := natU (wrap64 q)
        have fi := fitsX 0 (wrap64 q) 2 _ _ true (widSx (wrap64 q) 2 _ (si _ Q (wrap64_wf _) eQ))
        rw [fitP2 qb.1.1 qb.1.2 eQ] at fi
        have wQ := widUx (wrap64 q) 2 _ (un _ Q eQ)
        have zq := zr _ Q eQ
        obtain ⟨R, eR⟩ := natU (wrap64 r)
        have wR := widUx (wrap64 r) 2 _ (un _ R eR)
        have zrr := zr _ R eR
        by_cases hov' : 32768 < q
        · have hov : decide (32768 < q) = true := decide_eq_true hov'
          rw [hov, Bool.true_or, Bool.not_true] at fi
          have hgeW := hge; have dvW := dv
          have sp := divS16BFF2 h l d H L 0 0 0 _ s (absU s) q r 0 0 0 0 hmi hsn hgeW hov jS zd sd' us dvW
          exact ⟨_, _, 16, fun w => divI16N 2 h l d _ _ _ _ _ _ _ 0 0 0 0 hn jI wD ds fi w, DivS16N 2 h l d _ _ hn sp⟩
        · have hov : decide (32768 < q) = false := decide_eq_false hov'
          by_cases heq' : q = 32768
          · have heq : (q == 32768) = true := beq_iff_eq.mpr heq'
            rw [hov, heq, Bool.false_or, Bool.not_true] at fi
            have hgeW := hge; have dvW := dv
            have sp := divS16EFF2 h l d H L 0 0 0 _ s (absU s) q r 0 0 0 0 hmi hsn hgeW hov heq jS zd sd' us dvW
            exact ⟨_, _, 16, fun w => divI16N 2 h l d _ _ _ _ _ _ _ 0 0 0 0 hn jI wD ds fi w, DivS16N 2 h l d _ _ hn sp⟩
          · have heq : (q == 32768) = false := beq_eq_false_iff_ne.mpr heq'
            rw [hov, heq, Bool.false_or, Bool.not_false] at fi
            have hgeW := hge; have dvW := dv
            have sp := divS16YnFF2 h l d H L 0 0 0 _ s (absU s) q r 0 0 _ _ hmi hsn hgeW hov heq jS zd sd' us dvW zq zrr
            exact ⟨_, _, 0, fun w => divI16Y 2 h l d _ _ _ _ _ _ _ _ _ _ _ hn jI wD ds fi wQ wR w, DivS16Y 2 h l d _ _ hn sp⟩
      · have ds := dsNoFF hH.1 hH.2 hL.1 hL.2 sb.1 sb.2 hm' hsn hlt
        have hge : decide (absU s ≤ H) = true := decide_eq_true (by omega)
        have sp := divS16AFF2 h l d H L 0 0 0 _ s (absU s) 0 0 0 0 0 0 hmi hsn hge jS zd sd' us
        exact ⟨_, _, 16, fun w => divI16K 2 h l d _ _ _ _ _ _ _ 0 0 0 0 hn jI wD ds w, DivS16N 2 h l d _ _ hn sp⟩
    case pos =>
      have hsn : decide (s < 0) = true := decide_eq_true hs0
      by_cases hlt : H < absU s
      · have qb := dq_b hH.1 hlt hL.1 hL.2
        have dv := fun w => divide_any H L (absU s) w hH.1 hlt hL.1 hL.2 (by omega)
        have ds := dsYesFT hH.1 hH.2 hL.1 hL.2 sb.1 sb.2 hm' hsn hlt
        have hge : decide (absU s ≤ H) = false := decide_eq_false (by omega)
        obtain ⟨q, hq⟩ : ∃ q : Int, q = dq H L (absU s) := ⟨_, rfl⟩
        obtain ⟨r, hr⟩ : ∃ r : Int, r = dr H L (absU s) := ⟨_, rfl⟩
        rw [← hq, ← hr] at qb
        simp only [← hq, ← hr] at ds dv
        have eql : qL true q = wrap64 (-q) := by unfold qL; rfl
        rw [eql] at ds
        obtain ⟨Q, eQ⟩ := natU (wrap64 (-q))
        have wQ := widUx (wrap64 (-q)) 2 _ (un _ Q eQ)
        have zq' := zr _ Q eQ
        have zq : ∀ w, Calls Tryd.prog 64 #[.int .i64 (wrap64 (IntKind.u64.wrap (-q))), .int .i64 2] w fun e w' => e = .returned (.int .i64 (wrap64 ((Q % 2 ^ (8 * 2) : Nat) : Int))) ∧ w = w' := fun w => by rw [w64_u]; exact zq' w
        have fi := fitsX (qH true q) (wrap64 (-q)) 2 _ _ true (widSx (wrap64 (-q)) 2 _ (si _ Q (wrap64_wf _) eQ))
        rw [fitT2 qb.1.1 qb.1.2 eQ] at fi
        obtain ⟨R, eR⟩ := natU (wrap64 r)
        have wR := widUx (wrap64 r) 2 _ (un _ R eR)
        have zrr := zr _ R eR
        by_cases hov' : 32768 < q
        · have hov : decide (32768 < q) = true := decide_eq_true hov'
          rw [hov, Bool.not_true] at fi
          have hgeW := hge; have dvW := dv
          have sp := divS16BFT2 h l d H L 0 0 0 _ s (absU s) q r (IntKind.u64.wrap (-q)) 0 0 0 hmi hsn hgeW hov jS zd sd' us dvW
          exact ⟨_, _, 16, fun w => divI16N 2 h l d _ _ _ _ _ _ _ 0 0 0 0 hn jI wD ds fi w, DivS16N 2 h l d _ _ hn sp⟩
        · have hov : decide (32768 < q) = false := decide_eq_false hov'
          rw [hov, Bool.not_false] at fi
          by_cases heq' : q = 32768
          · have heq : (q == 32768) = true := beq_iff_eq.mpr heq'
            have hgeW := hge; have dvW := dv
            have sp := divS16YeFT2 h l d H L 0 0 0 _ s (absU s) q r (IntKind.u64.wrap (-q)) 0 _ _ hmi hsn hgeW hov heq rfl jS zd sd' us dvW zq zrr
            exact ⟨_, _, 0, fun w => divI16Y 2 h l d _ _ _ _ _ _ _ _ _ _ _ hn jI wD ds fi wQ wR w, DivS16Y 2 h l d _ _ hn sp⟩
          · have heq : (q == 32768) = false := beq_eq_false_iff_ne.mpr heq'
            have hgeW := hge; have dvW := dv
            have sp := divS16YnFT2 h l d H L 0 0 0 _ s (absU s) q r (IntKind.u64.wrap (-q)) 0 _ _ hmi hsn hgeW hov heq rfl jS zd sd' us dvW zq zrr
            exact ⟨_, _, 0, fun w => divI16Y 2 h l d _ _ _ _ _ _ _ _ _ _ _ hn jI wD ds fi wQ wR w, DivS16Y 2 h l d _ _ hn sp⟩
      · have ds := dsNoFT hH.1 hH.2 hL.1 hL.2 sb.1 sb.2 hm' hsn hlt
        have hge : decide (absU s ≤ H) = true := decide_eq_true (by omega)
        have sp := divS16AFT2 h l d H L 0 0 0 _ s (absU s) 0 0 0 0 0 0 hmi hsn hge jS zd sd' us
        exact ⟨_, _, 16, fun w => divI16K 2 h l d _ _ _ _ _ _ _ 0 0 0 0 hn jI wD ds w, DivS16N 2 h l d _ _ hn sp⟩
  case pos =>
    have hmi : (H / 9223372036854775808 == 1) = true := by rw [show H / 9223372036854775808 = 1 by omega]; rfl
    have hm' : decide (9223372036854775808 ≤ H) = true := decide_eq_true hm
    have nb := negH_b (L := L) hH.1 hH.2
    have lb := negL_b L
    have nh : bits .xor .u64 IntKind.u64.max H = 18446744073709551615 - H := not_u64 hH.1 hH.2
    by_cases hs0 : s < 0
    case neg =>
      have hsn : decide (s < 0) = false := decide_eq_false hs0
      by_cases hlt : (negH H L) < absU s
      · have qb := dq_b nb.1 hlt lb.1 lb.2
        have dv := fun w => divide_any (negH H L) (negL L) (absU s) w nb.1 hlt lb.1 lb.2 (by omega)
        have ds := dsYesTF hH.1 hH.2 hL.1 hL.2 sb.1 sb.2 hm' hsn hlt
        have hge : decide (absU s ≤ (negH H L)) = false := decide_eq_false (by omega)
        obtain ⟨q, hq⟩ : ∃ q : Int, q = dq (negH H L) (negL L) (absU s) := ⟨_, rfl⟩
        obtain ⟨r, hr⟩ : ∃ r : Int, r = dr (negH H L) (negL L) (absU s) := ⟨_, rfl⟩
        rw [← hq, ← hr] at qb
        simp only [← hq, ← hr] at ds dv
        have eql : qL true q = wrap64 (-q) := by unfold qL; rfl
        rw [eql] at ds
        obtain ⟨Q, eQ⟩ := natU (wrap64 (-q))
        have wQ := widUx (wrap64 (-q)) 2 _ (un _ Q eQ)
        have zq' := zr _ Q eQ
        have zq : ∀ w, Calls Tryd.prog 64 #[.int .i64 (wrap64 (IntKind.u64.wrap (-q))), .int .i64 2] w fun e w' => e = .returned (.int .i64 (wrap64 ((Q % 2 ^ (8 * 2) : Nat) : Int))) ∧ w = w' := fun w => by rw [w64_u]; exact zq' w
        have fi := fitsX (qH true q) (wrap64 (-q)) 2 _ _ true (widSx (wrap64 (-q)) 2 _ (si _ Q (wrap64_wf _) eQ))
        rw [fitT2 qb.1.1 qb.1.2 eQ] at fi
        obtain ⟨R, eR⟩ := natU (wrap64 (-r))
        rw [w64_neg] at ds
        have wR := widUx (wrap64 (-r)) 2 _ (un _ R eR)
        have zrr' := zr _ R eR
        have zrr : ∀ w, Calls Tryd.prog 64 #[.int .i64 (wrap64 (IntKind.u64.wrap (-r))), .int .i64 2] w fun e w' => e = .returned (.int .i64 (wrap64 ((R % 2 ^ (8 * 2) : Nat) : Int))) ∧ w = w' := fun w => by rw [w64_u]; exact zrr' w
        by_cases hov' : 32768 < q
        · have hov : decide (32768 < q) = true := decide_eq_true hov'
          rw [hov, Bool.not_true] at fi
          by_cases hL0 : L = 0
          · have e0 : negL L = 0 := by unfold negL; omega
            have eh : negH H L = (18446744073709551616 - H) % 18446744073709551616 := by unfold negH; rw [if_pos hL0]
            have nh0 := nh
            have nl0 : IntKind.u64.wrap (-L) = 0 := by rw [wrapU]; omega
            have nh2 : IntKind.u64.wrap (18446744073709551615 - H + 1) = negH H L := by rw [eh, wrapU]; omega
            have hgeW := hge
            have dvW := dv
            rw [e0] at dvW
            have sp := divS16BT0F2 h l d H L (18446744073709551615 - H) (negH H L) 0 _ s (absU s) q r (IntKind.u64.wrap (-q)) (IntKind.u64.wrap (-r)) 0 0 hmi nh0 nl0 nh2 hsn hgeW hov jS zd sd' us dvW
            exact ⟨_, _, 16, fun w => divI16N 2 h l d _ _ _ _ _ _ _ 0 0 0 0 hn jI wD ds fi w, DivS16N 2 h l d _ _ hn sp⟩
          · have eh : negH H L = 18446744073709551615 - H := by unfold negH; rw [if_neg hL0]
            have nh1 : bits .xor .u64 IntKind.u64.max H = negH H L := by rw [nh, eh]
            have nl1 : IntKind.u64.wrap (-L) = negL L := by rw [wrapU]; unfold negL; omega
            have nz1 : (negL L == 0) = false := beq_eq_false_iff_ne.mpr (by unfold negL; omega)
            have hgeW := hge
            have dvW := dv
            have sp := divS16BT1F2 h l d H L (negH H L) 0 (negL L) _ s (absU s) q r (IntKind.u64.wrap (-q)) (IntKind.u64.wrap (-r)) 0 0 hmi nh1 nl1 nz1 hsn hgeW hov jS zd sd' us dvW
            exact ⟨_, _, 16, fun w => divI16N 2 h l d _ _ _ _ _ _ _ 0 0 0 0 hn jI wD ds fi w, DivS16N 2 h l d _ _ hn sp⟩
        · have hov : decide (32768 < q) = false := decide_eq_false hov'
          rw [hov, Bool.not_false] at fi
          by_cases heq' : q = 32768
          · have heq : (q == 32768) = true := beq_iff_eq.mpr heq'
            by_cases hL0 : L = 0
            · have e0 : negL L = 0 := by unfold negL; omega
              have eh : negH H L = (18446744073709551616 - H) % 18446744073709551616 := by unfold negH; rw [if_pos hL0]
              have nh0 := nh
              have nl0 : IntKind.u64.wrap (-L) = 0 := by rw [wrapU]; omega
              have nh2 : IntKind.u64.wrap (18446744073709551615 - H + 1) = negH H L := by rw [eh, wrapU]; omega
              have hgeW := hge
              have dvW := dv
              rw [e0] at dvW
              have sp := divS16YeT0F2 h l d H L (18446744073709551615 - H) (negH H L) 0 _ s (absU s) q r (IntKind.u64.wrap (-q)) (IntKind.u64.wrap (-r)) _ _ hmi nh0 nl0 nh2 hsn hgeW hov heq rfl rfl jS zd sd' us dvW zq zrr
              exact ⟨_, _, 0, fun w => divI16Y 2 h l d _ _ _ _ _ _ _ _ _ _ _ hn jI wD ds fi wQ wR w, DivS16Y 2 h l d _ _ hn sp⟩
            · have eh : negH H L = 18446744073709551615 - H := by unfold negH; rw [if_neg hL0]
              have nh1 : bits .xor .u64 IntKind.u64.max H = negH H L := by rw [nh, eh]
              have nl1 : IntKind.u64.wrap (-L) = negL L := by rw [wrapU]; unfold negL; omega
              have nz1 : (negL L == 0) = false := beq_eq_false_iff_ne.mpr (by unfold negL; omega)
              have hgeW := hge
              have dvW := dv
              have sp := divS16YeT1F2 h l d H L (negH H L) 0 (negL L) _ s (absU s) q r (IntKind.u64.wrap (-q)) (IntKind.u64.wrap (-r)) _ _ hmi nh1 nl1 nz1 hsn hgeW hov heq rfl rfl jS zd sd' us dvW zq zrr
              exact ⟨_, _, 0, fun w => divI16Y 2 h l d _ _ _ _ _ _ _ _ _ _ _ hn jI wD ds fi wQ wR w, DivS16Y 2 h l d _ _ hn sp⟩
          · have heq : (q == 32768) = false := beq_eq_false_iff_ne.mpr heq'
            by_cases hL0 : L = 0
            · have e0 : negL L = 0 := by unfold negL; omega
              have eh : negH H L = (18446744073709551616 - H) % 18446744073709551616 := by unfold negH; rw [if_pos hL0]
              have nh0 := nh
              have nl0 : IntKind.u64.wrap (-L) = 0 := by rw [wrapU]; omega
              have nh2 : IntKind.u64.wrap (18446744073709551615 - H + 1) = negH H L := by rw [eh, wrapU]; omega
              have hgeW := hge
              have dvW := dv
              rw [e0] at dvW
              have sp := divS16YnT0F2 h l d H L (18446744073709551615 - H) (negH H L) 0 _ s (absU s) q r (IntKind.u64.wrap (-q)) (IntKind.u64.wrap (-r)) _ _ hmi nh0 nl0 nh2 hsn hgeW hov heq rfl rfl jS zd sd' us dvW zq zrr
              exact ⟨_, _, 0, fun w => divI16Y 2 h l d _ _ _ _ _ _ _ _ _ _ _ hn jI wD ds fi wQ wR w, DivS16Y 2 h l d _ _ hn sp⟩
            · have eh : negH H L = 18446744073709551615 - H := by unfold negH; rw [if_neg hL0]
              have nh1 : bits .xor .u64 IntKind.u64.max H = negH H L := by rw [nh, eh]
              have nl1 : IntKind.u64.wrap (-L) = negL L := by rw [wrapU]; unfold negL; omega
              have nz1 : (negL L == 0) = false := beq_eq_false_iff_ne.mpr (by unfold negL; omega)
              have hgeW := hge
              have dvW := dv
              have sp := divS16YnT1F2 h l d H L (negH H L) 0 (negL L) _ s (absU s) q r (IntKind.u64.wrap (-q)) (IntKind.u64.wrap (-r)) _ _ hmi nh1 nl1 nz1 hsn hgeW hov heq rfl rfl jS zd sd' us dvW zq zrr
              exact ⟨_, _, 0, fun w => divI16Y 2 h l d _ _ _ _ _ _ _ _ _ _ _ hn jI wD ds fi wQ wR w, DivS16Y 2 h l d _ _ hn sp⟩
      · have ds := dsNoTF hH.1 hH.2 hL.1 hL.2 sb.1 sb.2 hm' hsn hlt
        have hge : decide (absU s ≤ (negH H L)) = true := decide_eq_true (by omega)
        by_cases hL0 : L = 0
        · have eh : negH H L = (18446744073709551616 - H) % 18446744073709551616 := by unfold negH; rw [if_pos hL0]
          have nl0 : IntKind.u64.wrap (-L) = 0 := by rw [wrapU]; omega
          have nh2 : IntKind.u64.wrap (18446744073709551615 - H + 1) = negH H L := by rw [eh, wrapU]; omega
          have sp := divS16AT0F2 h l d H L (18446744073709551615 - H) (negH H L) 0 _ s (absU s) 0 0 0 0 0 0 hmi nh nl0 nh2 hsn hge jS zd sd' us
          exact ⟨_, _, 16, fun w => divI16K 2 h l d _ _ _ _ _ _ _ 0 0 0 0 hn jI wD ds w, DivS16N 2 h l d _ _ hn sp⟩
        · have eh : negH H L = 18446744073709551615 - H := by unfold negH; rw [if_neg hL0]
          have nh1 : bits .xor .u64 IntKind.u64.max H = negH H L := by rw [nh, eh]
          have nl1 : IntKind.u64.wrap (-L) = negL L := by rw [wrapU]; unfold negL; omega
          have nz1 : (negL L == 0) = false := beq_eq_false_iff_ne.mpr (by unfold negL; omega)
          have sp := divS16AT1F2 h l d H L (negH H L) 0 (negL L) _ s (absU s) 0 0 0 0 0 0 hmi nh1 nl1 nz1 hsn hge jS zd sd' us
          exact ⟨_, _, 16, fun w => divI16K 2 h l d _ _ _ _ _ _ _ 0 0 0 0 hn jI wD ds w, DivS16N 2 h l d _ _ hn sp⟩
    case pos =>
      have hsn : decide (s < 0) = true := decide_eq_true hs0
      by_cases hlt : (negH H L) < absU s
      · have qb := dq_b nb.1 hlt lb.1 lb.2
        have dv := fun w => divide_any (negH H L) (negL L) (absU s) w nb.1 hlt lb.1 lb.2 (by omega)
        have ds := dsYesTT hH.1 hH.2 hL.1 hL.2 sb.1 sb.2 hm' hsn hlt
        have hge : decide (absU s ≤ (negH H L)) = false := decide_eq_false (by omega)
        obtain ⟨q, hq⟩ : ∃ q : Int, q = dq (negH H L) (negL L) (absU s) := ⟨_, rfl⟩
        obtain ⟨r, hr⟩ : ∃ r : Int, r = dr (negH H L) (negL L) (absU s) := ⟨_, rfl⟩
        rw [← hq, ← hr] at qb
        simp only [← hq, ← hr] at ds dv
        obtain ⟨Q, eQ⟩ := natU (wrap64 q)
        have fi := fitsX 0 (wrap64 q) 2 _ _ true (widSx (wrap64 q) 2 _ (si _ Q (wrap64_wf _) eQ))
        rw [fitP2 qb.1.1 qb.1.2 eQ] at fi
        have wQ := widUx (wrap64 q) 2 _ (un _ Q eQ)
        have zq := zr _ Q eQ
        obtain ⟨R, eR⟩ := natU (wrap64 (-r))
        rw [w64_neg] at ds
        have wR := widUx (wrap64 (-r)) 2 _ (un _ R eR)
        have zrr' := zr _ R eR
        have zrr : ∀ w, Calls Tryd.prog 64 #[.int .i64 (wrap64 (IntKind.u64.wrap (-r))), .int .i64 2] w fun e w' => e = .returned (.int .i64 (wrap64 ((R % 2 ^ (8 * 2) : Nat) : Int))) ∧ w = w' := fun w => by rw [w64_u]; exact zrr' w
        by_cases hov' : 32768 < q
        · have hov : decide (32768 < q) = true := decide_eq_true hov'
          rw [hov, Bool.true_or, Bool.not_true] at fi
          by_cases hL0 : L = 0
          · have e0 : negL L = 0 := by unfold negL; omega
            have eh : negH H L = (18446744073709551616 - H) % 18446744073709551616 := by unfold negH; rw [if_pos hL0]
            have nh0 := nh
            have nl0 : IntKind.u64.wrap (-L) = 0 := by rw [wrapU]; omega
            have nh2 : IntKind.u64.wrap (18446744073709551615 - H + 1) = negH H L := by rw [eh, wrapU]; omega
            have hgeW := hge
            have dvW := dv
            rw [e0] at dvW
            have sp := divS16BT0T2 h l d H L (18446744073709551615 - H) (negH H L) 0 _ s (absU s) q r 0 (IntKind.u64.wrap (-r)) 0 0 hmi nh0 nl0 nh2 hsn hgeW hov jS zd sd' us dvW
            exact ⟨_, _, 16, fun w => divI16N 2 h l d _ _ _ _ _ _ _ 0 0 0 0 hn jI wD ds fi w, DivS16N 2 h l d _ _ hn sp⟩
          · have eh : negH H L = 18446744073709551615 - H := by unfold negH; rw [if_neg hL0]
            have nh1 : bits .xor .u64 IntKind.u64.max H = negH H L := by rw [nh, eh]
            have nl1 : IntKind.u64.wrap (-L) = negL L := by rw [wrapU]; unfold negL; omega
            have nz1 : (negL L == 0) = false := beq_eq_false_iff_ne.mpr (by unfold negL; omega)
            have hgeW := hge
            have dvW := dv
            have sp := divS16BT1T2 h l d H L (negH H L) 0 (negL L) _ s (absU s) q r 0 (IntKind.u64.wrap (-r)) 0 0 hmi nh1 nl1 nz1 hsn hgeW hov jS zd sd' us dvW
            exact ⟨_, _, 16, fun w => divI16N 2 h l d _ _ _ _ _ _ _ 0 0 0 0 hn jI wD ds fi w, DivS16N 2 h l d _ _ hn sp⟩
        · have hov : decide (32768 < q) = false := decide_eq_false hov'
          by_cases heq' : q = 32768
          · have heq : (q == 32768) = true := beq_iff_eq.mpr heq'
            rw [hov, heq, Bool.false_or, Bool.not_true] at fi
            by_cases hL0 : L = 0
            · have e0 : negL L = 0 := by unfold negL; omega
              have eh : negH H L = (18446744073709551616 - H) % 18446744073709551616 := by unfold negH; rw [if_pos hL0]
              have nh0 := nh
              have nl0 : IntKind.u64.wrap (-L) = 0 := by rw [wrapU]; omega
              have nh2 : IntKind.u64.wrap (18446744073709551615 - H + 1) = negH H L := by rw [eh, wrapU]; omega
              have hgeW := hge
              have dvW := dv
              rw [e0] at dvW
              have sp := divS16ET0T2 h l d H L (18446744073709551615 - H) (negH H L) 0 _ s (absU s) q r 0 (IntKind.u64.wrap (-r)) 0 0 hmi nh0 nl0 nh2 hsn hgeW hov heq jS zd sd' us dvW
              exact ⟨_, _, 16, fun w => divI16N 2 h l d _ _ _ _ _ _ _ 0 0 0 0 hn jI wD ds fi w, DivS16N 2 h l d _ _ hn sp⟩
            · have eh : negH H L = 18446744073709551615 - H := by unfold negH; rw [if_neg hL0]
              have nh1 : bits .xor .u64 IntKind.u64.max H = negH H L := by rw [nh, eh]
              have nl1 : IntKind.u64.wrap (-L) = negL L := by rw [wrapU]; unfold negL; omega
              have nz1 : (negL L == 0) = false := beq_eq_false_iff_ne.mpr (by unfold negL; omega)
              have hgeW := hge
              have dvW := dv
              have sp := divS16ET1T2 h l d H L (negH H L) 0 (negL L) _ s (absU s) q r 0 (IntKind.u64.wrap (-r)) 0 0 hmi nh1 nl1 nz1 hsn hgeW hov heq jS zd sd' us dvW
              exact ⟨_, _, 16, fun w => divI16N 2 h l d _ _ _ _ _ _ _ 0 0 0 0 hn jI wD ds fi w, DivS16N 2 h l d _ _ hn sp⟩
          · have heq : (q == 32768) = false := beq_eq_false_iff_ne.mpr heq'
            rw [hov, heq, Bool.false_or, Bool.not_false] at fi
            by_cases hL0 : L = 0
            · have e0 : negL L = 0 := by unfold negL; omega
              have eh : negH H L = (18446744073709551616 - H) % 18446744073709551616 := by unfold negH; rw [if_pos hL0]
              have nh0 := nh
              have nl0 : IntKind.u64.wrap (-L) = 0 := by rw [wrapU]; omega
              have nh2 : IntKind.u64.wrap (18446744073709551615 - H + 1) = negH H L := by rw [eh, wrapU]; omega
              have hgeW := hge
              have dvW := dv
              rw [e0] at dvW
              have sp := divS16YnT0T2 h l d H L (18446744073709551615 - H) (negH H L) 0 _ s (absU s) q r 0 (IntKind.u64.wrap (-r)) _ _ hmi nh0 nl0 nh2 hsn hgeW hov heq rfl jS zd sd' us dvW zq zrr
              exact ⟨_, _, 0, fun w => divI16Y 2 h l d _ _ _ _ _ _ _ _ _ _ _ hn jI wD ds fi wQ wR w, DivS16Y 2 h l d _ _ hn sp⟩
            · have eh : negH H L = 18446744073709551615 - H := by unfold negH; rw [if_neg hL0]
              have nh1 : bits .xor .u64 IntKind.u64.max H = negH H L := by rw [nh, eh]
              have nl1 : IntKind.u64.wrap (-L) = negL L := by rw [wrapU]; unfold negL; omega
              have nz1 : (negL L == 0) = false := beq_eq_false_iff_ne.mpr (by unfold negL; omega)
              have hgeW := hge
              have dvW := dv
              have sp := divS16YnT1T2 h l d H L (negH H L) 0 (negL L) _ s (absU s) q r 0 (IntKind.u64.wrap (-r)) _ _ hmi nh1 nl1 nz1 hsn hgeW hov heq rfl jS zd sd' us dvW zq zrr
              exact ⟨_, _, 0, fun w => divI16Y 2 h l d _ _ _ _ _ _ _ _ _ _ _ hn jI wD ds fi wQ wR w, DivS16Y 2 h l d _ _ hn sp⟩
      · have ds := dsNoTT hH.1 hH.2 hL.1 hL.2 sb.1 sb.2 hm' hsn hlt
        have hge : decide (absU s ≤ (negH H L)) = true := decide_eq_true (by omega)
        by_cases hL0 : L = 0
        · have eh : negH H L = (18446744073709551616 - H) % 18446744073709551616 := by unfold negH; rw [if_pos hL0]
          have nl0 : IntKind.u64.wrap (-L) = 0 := by rw [wrapU]; omega
          have nh2 : IntKind.u64.wrap (18446744073709551615 - H + 1) = negH H L := by rw [eh, wrapU]; omega
          have sp := divS16AT0T2 h l d H L (18446744073709551615 - H) (negH H L) 0 _ s (absU s) 0 0 0 0 0 0 hmi nh nl0 nh2 hsn hge jS zd sd' us
          exact ⟨_, _, 16, fun w => divI16K 2 h l d _ _ _ _ _ _ _ 0 0 0 0 hn jI wD ds w, DivS16N 2 h l d _ _ hn sp⟩
        · have eh : negH H L = 18446744073709551615 - H := by unfold negH; rw [if_neg hL0]
          have nh1 : bits .xor .u64 IntKind.u64.max H = negH H L := by rw [nh, eh]
          have nl1 : IntKind.u64.wrap (-L) = negL L := by rw [wrapU]; unfold negL; omega
          have nz1 : (negL L == 0) = false := beq_eq_false_iff_ne.mpr (by unfold negL; omega)
          have sp := divS16AT1T2 h l d H L (negH H L) 0 (negL L) _ s (absU s) 0 0 0 0 0 0 hmi nh1 nl1 nz1 hsn hge jS zd sd' us
          exact ⟨_, _, 16, fun w => divI16K 2 h l d _ _ _ _ _ _ _ 0 0 0 0 hn jI wD ds w, DivS16N 2 h l d _ _ hn sp⟩
theorem jofalse4 (h l : Int) (hh : (Lit.int .i64 h).wf = true) (hl : (Lit.int .i64 l).wf = true) : ∃ H L : Int, (0 ≤ H ∧ H < 18446744073709551616) ∧ (0 ≤ L ∧ L < 18446744073709551616) ∧
    (∀ w, Calls Tryd.prog 79 #[.int .i64 4, .int .i64 h, .int .i64 l, .bool false] w fun e w' => e = .returned (.tuple #[.int .u64 H, .int .u64 L]) ∧ w = w') ∧
    (∀ w, Calls Tryd.prog 54 #[.int .i64 h, .int .i64 l, .int .i64 4, .bool false] w fun e w' => e = .returned (.agg #[.int .i64 (wrap64 H), .int .i64 (wrap64 L)]) ∧ Below w.heap.size w w') := by
  obtain ⟨X, hX⟩ := natU h
  obtain ⟨Y, hY⟩ := natU l
  have un (v : Int) (V : Nat) (hV : IntKind.u64.wrap v = (V : Int)) (w : World) : Calls Tryd.prog 46 #[.int .i64 v, .int .i64 4] w fun e w' => e = .returned (.tuple #[.int .i64 (wrap64 ((V % 2 ^ (8 * 4) : Nat) : Int)), .nilIface]) ∧ w = w' := by
    rw [eqZ4 hV]; exact unsigned4 v w
  have zr (v : Int) (V : Nat) (hV : IntKind.u64.wrap v = (V : Int)) (w : World) := specZeroL v V 4 w hV (by decide) (by decide)
  obtain ⟨V, hV, hV2, hor⟩ := orI4 X Y hX
  have uV : IntKind.u64.wrap (wrap64 (V : Int)) = (V : Int) := u_w64 (by omega) (by omega)
  have hS := joinSP4 h l _ _ (zr h X hX) (zr l Y hY)
  rw [orS4] at hS
  have hI := joinX4 h l 0 _ _ 0 _ false hor (widUx l 4 _ (un l Y hY)) (widUx (wrap64 (V : Int)) 8 _ (fun w => unsigned8 _ w))
  clear hor
  rw [← eqZ8 uV, show (2 : Nat) ^ (8 * 8) = 18446744073709551616 from rfl, hV] at hI
  refine ⟨0, _, by decide, ?_, hS, fun w => ?_⟩
  · omega
  · rw [w00]; exact hI w
theorem orC4 (A : Nat) (hA : A < 18446744073709551616) : bits .or .u64 (A : Int) 0 = ((A + 0 : Nat) : Int) := by
  have := bits_or_u64_nat A 0 (by omega) (by decide)
  have e : A ||| 0 = A + 0 := by
    have h := Nat.two_pow_add_eq_or_of_lt (i := 64) (b := A) (by omega) 0
    rw [show (2 : Nat) ^ 64 * 0 = 0 from by decide] at h
    rw [Nat.or_comm, ← h]; omega
  rw [e] at this
  exact this
theorem half0_4 (X Y : Nat) (h : X / 2147483648 % 2 = 0) : X % 4294967296 * 4294967296 + Y % 4294967296 < 9223372036854775808 := by omega
theorem half1_4 (X Y : Nat) (h : X / 2147483648 % 2 = 1) : 9223372036854775808 ≤ X % 4294967296 * 4294967296 + Y % 4294967296 ∧ X % 4294967296 * 4294967296 + Y % 4294967296 < 18446744073709551616 := by omega
theorem jotrue4 (h l : Int) (hh : (Lit.int .i64 h).wf = true) (hl : (Lit.int .i64 l).wf = true) : ∃ H L : Int, (0 ≤ H ∧ H < 18446744073709551616) ∧ (0 ≤ L ∧ L < 18446744073709551616) ∧
    (∀ w, Calls Tryd.prog 79 #[.int .i64 4, .int .i64 h, .int .i64 l, .bool true] w fun e w' => e = .returned (.tuple #[.int .u64 H, .int .u64 L]) ∧ w = w') ∧
    (∀ w, Calls Tryd.prog 54 #[.int .i64 h, .int .i64 l, .int .i64 4, .bool true] w fun e w' => e = .returned (.agg #[.int .i64 (wrap64 H), .int .i64 (wrap64 L)]) ∧ Below w.heap.size w w') := by
  obtain ⟨X, hX⟩ := natU h
  obtain ⟨Y, hY⟩ := natU l
  have un (v : Int) (V : Nat) (hV : IntKind.u64.wrap v = (V : Int)) (w : World) : Calls Tryd.prog 46 #[.int .i64 v, .int .i64 4] w fun e w' => e = .returned (.tuple #[.int .i64 (wrap64 ((V % 2 ^ (8 * 4) : Nat) : Int)), .nilIface]) ∧ w = w' := by
    rw [eqZ4 hV]; exact unsigned4 v w
  have zr (v : Int) (V : Nat) (hV : IntKind.u64.wrap v = (V : Int)) (w : World) := specZeroL v V 4 w hV (by decide) (by decide)
  obtain ⟨V, hV, hV2, hor⟩ := orI4 X Y hX
  have uV : IntKind.u64.wrap (wrap64 (V : Int)) = (V : Int) := u_w64 (by omega) (by omega)
  have si (w : World) : Calls Tryd.prog 85 #[.int .i64 (wrap64 (V : Int)), .int .i64 8] w fun e w' => e = .returned (.tuple #[.int .i64 (wrap64 (sgnU V 8 : Int)), .nilIface]) ∧ w = w' := by
    rw [eqS8 (wrap64_wf _) uV]; exact signed8 _ w
  have hI := joinX4 h l 0 _ _ _ _ true hor (widUx l 4 _ (un l Y hY)) (widSx (wrap64 (V : Int)) 8 _ si)
  clear hor
  have hb := fun w => bitCI h X 31 31 (X / 2 ^ 31 % 2) w hX (by decide) rfl rfl
  obtain ⟨s, hs⟩ : ∃ s : Int, s = wrap64 (sgnU V 8 : Int) := ⟨_, rfl⟩
  rw [← hs] at hI
  rw [sgn_int V 8 (by decide), show (2 : Nat) ^ (8 * 8) = 18446744073709551616 from rfl, Int.bmod_def] at hs
  obtain ⟨A, hA⟩ : ∃ A : Nat, A = X % 4294967296 * 4294967296 + Y % 4294967296 := ⟨_, rfl⟩
  rw [← hA] at hV
  rw [show (((V : Int) % (((18446744073709551616 : Nat) : Int)))) = (A : Int) by rw [← hV]; rfl] at hs
  rw [show (2 : Nat) ^ 31 = 2147483648 from rfl] at hb
  by_cases ht : X / 2147483648 % 2 = 0
  · have hb0 := half0_4 X Y ht
    rw [ht] at hb
    have hS := joinSN04 h l _ _ (zr h X hX) (zr l Y hY) hb
    rw [orS4, ← hA] at hS
    rw [← hA] at hb0
    clear hX hY hV hV2 uV ht hb zr hA
    have es : s = (A : Int) := by rw [hs, if_pos (by omega)]
    clear hs
    refine ⟨0, _, by decide, ?_, hS, fun w => ?_⟩
    · omega
    · have e1 : s / 9223372036854775808 = wrap64 0 := by rw [w00, es]; omega
      have e2 : wrap64 (A : Int) = s := by rw [es]; exact w64_in (by omega) (by omega)
      rw [e2, ← e1]; exact hI w
  · have ht1 : X / 2147483648 % 2 = 1 := by omega
    have hb1 := half1_4 X Y ht1
    rw [ht1] at hb
    have hS := joinSN14 h l _ _ (zr h X hX) (zr l Y hY) hb
    rw [orS4, ← hA] at hS
    rw [← hA] at hb1
    clear hX hY hV hV2 uV ht hb zr hA ht1
    have es : s = (A : Int) - 18446744073709551616 := by rw [hs, if_neg (by omega)]; rfl
    clear hs
    refine ⟨18446744073709551615, _, by decide, ?_, hS, fun w => ?_⟩
    · omega
    · have e1 : s / 9223372036854775808 = wrap64 18446744073709551615 := by rw [wm1, es]; omega
      have e2 : wrap64 ((A : Nat) : Int) = s := by rw [es]; unfold wrap64; omega
      rw [e2, ← e1]; exact hI w
set_option maxHeartbeats 1000000 in
theorem divB15_4 (h l d : Int) (hh : (Lit.int .i64 h).wf = true) (hl : (Lit.int .i64 l).wf = true) (hd : (Lit.int .i64 d).wf = true) : ∃ q r k, (∀ w, Calls Tryd.prog 24 #[.int .i64 15, .int .i64 4, .int .i64 h, .int .i64 l, .int .i64 d] w fun e w' => e = .returned (.tuple #[.int .i64 q, .int .i64 r, .int .i64 k]) ∧ Below w.heap.size w w') ∧
    (∀ w, Calls Tryd.prog 23 #[.int .i64 15, .int .i64 4, .int .i64 h, .int .i64 l, .int .i64 d] w fun e w' => e = .returned (.tuple #[.int .i64 q, .int .i64 r, .int .i64 k]) ∧ w = w') := by
  obtain ⟨D, hD⟩ := natU d
  have hn : okSize (4 : Int) := by unfold okSize; omega
  have hDl : D < 18446744073709551616 := by rw [wrapU] at hD; omega
  have un (v : Int) (V : Nat) (hV : IntKind.u64.wrap v = (V : Int)) (w : World) : Calls Tryd.prog 46 #[.int .i64 v, .int .i64 4] w fun e w' => e = .returned (.tuple #[.int .i64 (wrap64 ((V % 2 ^ (8 * 4) : Nat) : Int)), .nilIface]) ∧ w = w' := by
    rw [eqZ4 hV]; exact unsigned4 v w
  have zr (v : Int) (V : Nat) (hV : IntKind.u64.wrap v = (V : Int)) (w : World) := specZeroL v V 4 w hV (by decide) (by decide)
  obtain ⟨H, L, hH, hL, jS, jI⟩ := jofalse4 h l hh hl
  obtain ⟨x, hx⟩ : ∃ x : Int, x = wrap64 ((D % 2 ^ (8 * 4) : Nat) : Int) := ⟨_, rfl⟩
  have zd := zr d D hD
  have wD := widUx d 4 _ (un d D hD)
  rw [← hx] at wD
  have zd' : ∀ w, Calls Tryd.prog 64 #[.int .i64 d, .int .i64 4] w fun e w' => e = .returned (.int .i64 x) ∧ w = w' := fun w => by rw [hx]; exact zd w
  obtain ⟨y, hy⟩ : ∃ y : Int, y = IntKind.u64.wrap x := ⟨_, rfl⟩
  have ey : y = ((D % 4294967296 : Nat) : Int) := by rw [hy, hx, show (2 : Nat) ^ (8 * 4) = 4294967296 from rfl]; exact u_w64 (by omega) (by omega)
  have ex : wrap64 y = x := by rw [hy, w64_u, hx]; exact w64_w64 _
  clear hx
  have hyb : 0 ≤ y ∧ y < 4294967296 := by rw [ey]; omega
  by_cases hlt : H < y
  · have hge : decide (IntKind.u64.wrap x ≤ H) = false := by rw [← hy]; exact decide_eq_false (by omega)
    have qb := dq_b hH.1 hlt hL.1 hL.2
    have sp := divS15Yes4 h l d H L x _ _ hge jS zd' (fun w => by rw [← hy]; exact divide_any H L y w hH.1 hlt hL.1 hL.2 (by omega))
    have dw := fun w => dwYes hH.1 hlt hL.1 hL.2 (by omega : y < 18446744073709551616) w
    simp only [ex] at dw
    obtain ⟨q, hq⟩ : ∃ q : Int, q = dq H L y := ⟨_, rfl⟩
    obtain ⟨r, hr⟩ : ∃ r : Int, r = dr H L y := ⟨_, rfl⟩
    rw [← hq, ← hr] at qb sp
    simp only [← hq, ← hr] at dw
    have pl := plainX (wrap64 H) (wrap64 L) 0 x _ _ _ dw
    obtain ⟨Q, eQ⟩ := natU (wrap64 q)
    obtain ⟨R, eR⟩ := natU (wrap64 r)
    have wQ := widUx (wrap64 q) 4 _ (un _ Q eQ)
    have wR := widUx (wrap64 r) 4 _ (un _ R eR)
    have fi := fitsX 0 (wrap64 q) 4 _ _ false wQ
    rw [fitU4 qb.1.1 qb.1.2 eQ, show ((0 : Int) == 0) = true from rfl, Bool.true_and] at fi
    rw [lowU4 qb.2.1 (by omega) eR] at wR
    by_cases hf : q / 4294967296 = 0
    · have hfb : (q / 4294967296 == 0) = true := by rw [hf]; rfl
      rw [hfb] at fi sp
      rw [lowU4 qb.1.1 (by omega) eQ] at wQ
      exact ⟨_, _, 0, fun w => divI15Y 4 h l d _ _ _ _ _ _ _ _ _ _ _ hn jI wD pl fi wQ wR w, DivS15Y 4 h l d _ _ hn sp⟩
    · have hfb : (q / 4294967296 == 0) = false := beq_eq_false_iff_ne.mpr hf
      rw [hfb] at fi sp
      exact ⟨_, _, 16, fun w => divI15N 4 h l d _ _ _ _ _ _ _ 0 0 0 0 hn jI wD pl fi w, DivS15N 4 h l d _ _ hn sp⟩
  · have hge : decide (IntKind.u64.wrap x ≤ H) = true := by rw [← hy]; exact decide_eq_true (by omega)
    have sp := divS15No4 h l d H L x hge jS zd'
    have dw := fun w => dwNo (l := L) hH.1 hH.2 hlt hyb.1 (by omega : y < 18446744073709551616) w
    simp only [ex] at dw
    have pl := plainX (wrap64 H) (wrap64 L) 0 x _ _ _ dw
    exact ⟨_, _, 16, fun w => divI15K 4 h l d _ _ _ _ _ _ _ 0 0 0 0 hn jI wD pl w, DivS15N 4 h l d _ _ hn sp⟩
set_option maxHeartbeats 2000000 in
theorem divB16_4 (h l d : Int) (hh : (Lit.int .i64 h).wf = true) (hl : (Lit.int .i64 l).wf = true) (hd : (Lit.int .i64 d).wf = true) : ∃ q r k, (∀ w, Calls Tryd.prog 24 #[.int .i64 16, .int .i64 4, .int .i64 h, .int .i64 l, .int .i64 d] w fun e w' => e = .returned (.tuple #[.int .i64 q, .int .i64 r, .int .i64 k]) ∧ Below w.heap.size w w') ∧
    (∀ w, Calls Tryd.prog 23 #[.int .i64 16, .int .i64 4, .int .i64 h, .int .i64 l, .int .i64 d] w fun e w' => e = .returned (.tuple #[.int .i64 q, .int .i64 r, .int .i64 k]) ∧ w = w') := by
  obtain ⟨D, hD⟩ := natU d
  have hn : okSize (4 : Int) := by unfold okSize; omega
  have un (v : Int) (V : Nat) (hV : IntKind.u64.wrap v = (V : Int)) (w : World) : Calls Tryd.prog 46 #[.int .i64 v, .int .i64 4] w fun e w' => e = .returned (.tuple #[.int .i64 (wrap64 ((V % 2 ^ (8 * 4) : Nat) : Int)), .nilIface]) ∧ w = w' := by
    rw [eqZ4 hV]; exact unsigned4 v w
  have zr (v : Int) (V : Nat) (hV : IntKind.u64.wrap v = (V : Int)) (w : World) := specZeroL v V 4 w hV (by decide) (by decide)
  have si (v : Int) (V : Nat) (hv : (Lit.int .i64 v).wf = true) (hV : IntKind.u64.wrap v = (V : Int)) (w : World) : Calls Tryd.prog 85 #[.int .i64 v, .int .i64 4] w fun e w' => e = .returned (.tuple #[.int .i64 (wrap64 (sgnU V 4 : Int)), .nilIface]) ∧ w = w' := by
    rw [eqS4 hV]; exact signed4 v w
  have sr (v : Int) (V : Nat) (hV : IntKind.u64.wrap v = (V : Int)) (w : World) := specSignL v V 4 w hV (by decide) (by decide)
  obtain ⟨H, L, hH, hL, jS, jI⟩ := jotrue4 h l hh hl
  obtain ⟨s, hs⟩ : ∃ s : Int, s = wrap64 (sgnU D 4 : Int) := ⟨_, rfl⟩
  have sb := sgn_b D 4 (by decide) (by decide)
  have wD := widSx d 4 _ (si d D hd hD)
  have zd := zr d D hD
  have sd := sr d D hD
  rw [← hs] at sb wD
  have sd' : ∀ w, Calls Tryd.prog 81 #[.int .i64 d, .int .i64 4] w fun e w' => e = .returned (.int .i64 s) ∧ w = w' := fun w => by rw [hs]; exact sd w
  have us := fun w => specSize s w (by rw [hs]; exact wrap64_wf _)
  have ab : 0 ≤ absU s ∧ absU s ≤ 9223372036854775808 := by unfold absU; omega
  by_cases hm : 9223372036854775808 ≤ H
  case neg =>
    have hmi : (H / 9223372036854775808 == 1) = false := beq_eq_false_iff_ne.mpr (by omega)
    have hm' : decide (9223372036854775808 ≤ H) = false := decide_eq_false hm
    by_cases hs0 : s < 0
    case neg =>
      have hsn : decide (s < 0) = false := decide_eq_false hs0
      by_cases hlt : H < absU s
      · have qb := dq_b hH.1 hlt hL.1 hL.2
        have dv := fun w => divide_any H L (absU s) w hH.1 hlt hL.1 hL.2 (by omega)
        have ds := dsYesFF hH.1 hH.2 hL.1 hL.2 sb.1 sb.2 hm' hsn hlt
        have hge : decide (absU s ≤ H) = false := decide_eq_false (by omega)
        obtain ⟨q, hq⟩ : ∃ q : Int, q = dq H L (absU s) := ⟨_, rfl⟩
        obtain ⟨r, hr⟩ : ∃ r : Int, r = dr H L (absU s) := ⟨_, rfl⟩
        rw [← hq, ← hr] at qb
        simp only [← hq, ← hr] at ds dv
        obtain ⟨Q, eQ⟩ := natU (wrap64 q)
        have fi := fitsX 0 (wrap64 q) 4 _ _ true (widSx (wrap64 q) 4 _ (si _ Q (wrap64_wf _) eQ))
        rw [fitP4 qb.1.1 qb.1.2 eQ] at fi
        have wQ := widUx (wrap64 q) 4 _ (un _ Q eQ)
        have zq := zr _ Q eQ
        obtain ⟨R, eR⟩ := natU (wrap64 r)
        have wR := widUx (wrap64 r) 4 _ (un _ R eR)
        have zrr := zr _ R eR
        by_cases hov' : 2147483648 < q
        · have hov : decide (2147483648 < q) = true := decide_eq_true hov'
          rw [hov, Bool.true_or, Bool.not_true] at fi
          have hgeW := hge; have dvW := dv
          have sp := divS16BFF4 h l d H L 0 0 0 _ s (absU s) q r 0 0 0 0 hmi hsn hgeW hov jS zd sd' us dvW
          exact ⟨_, _, 16, fun w => divI16N 4 h l d _ _ _ _ _ _ _ 0 0 0 0 hn jI wD ds fi w, DivS16N 4 h l d _ _ hn sp⟩
        · have hov : decide (2147483648 < q) = false := decide_eq_false hov'
          by_cases heq' : q = 2147483648
          · have heq : (q == 2147483648) = true := beq_iff_eq.mpr heq'
            rw [hov, heq, Bool.false_or, Bool.not_true] at fi
            have hgeW := hge; have dvW := dv
            have sp := divS16EFF4 h l d H L 0 0 0 _ s (absU s) q r 0 0 0 0 hmi hsn hgeW hov heq jS zd sd' us dvW
            exact ⟨_, _, 16, fun w => divI16N 4 h l d _ _ _ _ _ _ _ 0 0 0 0 hn jI wD ds fi w, DivS16N 4 h l d _ _ hn sp⟩
          · have heq : (q == 2147483648) = false := beq_eq_false_iff_ne.mpr heq'
            rw [hov, heq, Bool.false_or, Bool.not_false] at fi
            have hgeW := hge; have dvW := dv
            have sp := divS16YnFF4 h l d H L 0 0 0 _ s (absU s) q r 0 0 _ _ hmi hsn hgeW hov heq jS zd sd' us dvW zq zrr
            exact ⟨_, _, 0, fun w => divI16Y 4 h l d _ _ _ _ _ _ _ _ _ _ _ hn jI wD ds fi wQ wR w, DivS16Y 4 h l d _ _ hn sp⟩
      · have ds := dsNoFF hH.1 hH.2 hL.1 hL.2 sb.1 sb.2 hm' hsn hlt
        have hge : decide (absU s ≤ H) = true := decide_eq_true (by omega)
        have sp := divS16AFF4 h l d H L 0 0 0 _ s (absU s) 0 0 0 0 0 0 hmi hsn hge jS zd sd' us
        exact ⟨_, _, 16, fun w => divI16K 4 h l d _ _ _ _ _ _ _ 0 0 0 0 hn jI wD ds w, DivS16N 4 h l d _ _ hn sp⟩
    case pos =>
      have hsn : decide (s < 0) = true := decide_eq_true hs0
      by_cases hlt : H < absU s
      · have qb := dq_b hH.1 hlt hL.1 hL.2
        have dv := fun w => divide_any H L (absU s) w hH.1 hlt hL.1 hL.2 (by omega)
        have ds := dsYesFT hH.1 hH.2 hL.1 hL.2 sb.1 sb.2 hm' hsn hlt
        have hge : decide (absU s ≤ H) = false := decide_eq_false (by omega)
        obtain ⟨q, hq⟩ : ∃ q : Int, q = dq H L (absU s) := ⟨_, rfl⟩
        obtain ⟨r, hr⟩ : ∃ r : Int, r = dr H L (absU s) := ⟨_, rfl⟩
        rw [← hq, ← hr] at qb
        simp only [← hq, ← hr] at ds dv
        have eql : qL true q = wrap64 (-q) := by unfold qL; rfl
        rw [eql] at ds
        obtain ⟨Q, eQ⟩ := natU (wrap64 (-q))
        have wQ := widUx (wrap64 (-q)) 4 _ (un _ Q eQ)
        have zq' := zr _ Q eQ
        have zq : ∀ w, Calls Tryd.prog 64 #[.int .i64 (wrap64 (IntKind.u64.wrap (-q))), .int .i64 4] w fun e w' => e = .returned (.int .i64 (wrap64 ((Q % 2 ^ (8 * 4) : Nat) : Int))) ∧ w = w' := fun w => by rw [w64_u]; exact zq' w
        have fi := fitsX (qH true q) (wrap64 (-q)) 4 _ _ true (widSx (wrap64 (-q)) 4 _ (si _ Q (wrap64_wf _) eQ))
        rw [fitT4 qb.1.1 qb.1.2 eQ] at fi
        obtain ⟨R, eR⟩ := natU (wrap64 r)
        have wR := widUx (wrap64 r) 4 _ (un _ R eR)
        have zrr := zr _ R eR
        by_cases hov' : 2147483648 < q
        · have hov : decide (2147483648 < q) = true := decide_eq_true hov'
          rw [hov, Bool.not_true] at fi
          have hgeW := hge; have dvW := dv
          have sp := divS16BFT4 h l d H L 0 0 0 _ s (absU s) q r (IntKind.u64.wrap (-q)) 0 0 0 hmi hsn hgeW hov jS zd sd' us dvW
          exact ⟨_, _, 16, fun w => divI16N 4 h l d _ _ _ _ _ _ _ 0 0 0 0 hn jI wD ds fi w, DivS16N 4 h l d _ _ hn sp⟩
        · have hov : decide (2147483648 < q) = false := decide_eq_false hov'
          rw [hov, Bool.not_false] at fi
          by_cases heq' : q = 2147483648
          · have heq : (q == 2147483648) = true := beq_iff_eq.mpr heq'
            have hgeW := hge; have dvW := dv
            have sp := divS16YeFT4 h l d H L 0 0 0 _ s (absU s) q r (IntKind.u64.wrap (-q)) 0 _ _ hmi hsn hgeW hov heq rfl jS zd sd' us dvW zq zrr
            exact ⟨_, _, 0, fun w => divI16Y 4 h l d _ _ _ _ _ _ _ _ _ _ _ hn jI wD ds fi wQ wR w, DivS16Y 4 h l d _ _ hn sp⟩
          · have heq : (q == 2147483648) = false := beq_eq_false_iff_ne.mpr heq'
            have hgeW := hge; have dvW := dv
            have sp := divS16YnFT4 h l d H L 0 0 0 _ s (absU s) q r (IntKind.u64.wrap (-q)) 0 _ _ hmi hsn hgeW hov heq rfl jS zd sd' us dvW zq zrr
            exact ⟨_, _, 0, fun w => divI16Y 4 h l d _ _ _ _ _ _ _ _ _ _ _ hn jI wD ds fi wQ wR w, DivS16Y 4 h l d _ _ hn sp⟩
      · have ds := dsNoFT hH.1 hH.2 hL.1 hL.2 sb.1 sb.2 hm' hsn hlt
        have hge : decide (absU s ≤ H) = true := decide_eq_true (by omega)
        have sp := divS16AFT4 h l d H L 0 0 0 _ s (absU s) 0 0 0 0 0 0 hmi hsn hge jS zd sd' us
        exact ⟨_, _, 16, fun w => divI16K 4 h l d _ _ _ _ _ _ _ 0 0 0 0 hn jI wD ds w, DivS16N 4 h l d _ _ hn sp⟩
  case pos =>
    have hmi : (H / 9223372036854775808 == 1) = true := by rw [show H / 9223372036854775808 = 1 by omega]; rfl
    have hm' : decide (9223372036854775808 ≤ H) = true := decide_eq_true hm
    have nb := negH_b (L := L) hH.1 hH.2
    have lb := negL_b L
    have nh : bits .xor .u64 IntKind.u64.max H = 18446744073709551615 - H := not_u64 hH.1 hH.2
    by_cases hs0 : s < 0
    case neg =>
      have hsn : decide (s < 0) = false := decide_eq_false hs0
      by_cases hlt : (negH H L) < absU s
      · have qb := dq_b nb.1 hlt lb.1 lb.2
        have dv := fun w => divide_any (negH H L) (negL L) (absU s) w nb.1 hlt lb.1 lb.2 (by omega)
        have ds := dsYesTF hH.1 hH.2 hL.1 hL.2 sb.1 sb.2 hm' hsn hlt
        have hge : decide (absU s ≤ (negH H L)) = false := decide_eq_false (by omega)
        obtain ⟨q, hq⟩ : ∃ q : Int, q = dq (negH H L) (negL L) (absU s) := ⟨_, rfl⟩
        obtain ⟨r, hr⟩ : ∃ r : Int, r = dr (negH H L) (negL L) (absU s) := ⟨_, rfl⟩
        rw [← hq, ← hr] at qb
        simp only [← hq, ← hr] at ds dv
        have eql : qL true q = wrap64 (-q) := by unfold qL; rfl
        rw [eql] at ds
        obtain ⟨Q, eQ⟩ := natU (wrap64 (-q))
        have wQ := widUx (wrap64 (-q)) 4 _ (un _ Q eQ)
        have zq' := zr _ Q eQ
        have zq : ∀ w, Calls Tryd.prog 64 #[.int .i64 (wrap64 (IntKind.u64.wrap (-q))), .int .i64 4] w fun e w' => e = .returned (.int .i64 (wrap64 ((Q % 2 ^ (8 * 4) : Nat) : Int))) ∧ w = w' := fun w => by rw [w64_u]; exact zq' w
        have fi := fitsX (qH true q) (wrap64 (-q)) 4 _ _ true (widSx (wrap64 (-q)) 4 _ (si _ Q (wrap64_wf _) eQ))
        rw [fitT4 qb.1.1 qb.1.2 eQ] at fi
        obtain ⟨R, eR⟩ := natU (wrap64 (-r))
        rw [w64_neg] at ds
        have wR := widUx (wrap64 (-r)) 4 _ (un _ R eR)
        have zrr' := zr _ R eR
        have zrr : ∀ w, Calls Tryd.prog 64 #[.int .i64 (wrap64 (IntKind.u64.wrap (-r))), .int .i64 4] w fun e w' => e = .returned (.int .i64 (wrap64 ((R % 2 ^ (8 * 4) : Nat) : Int))) ∧ w = w' := fun w => by rw [w64_u]; exact zrr' w
        by_cases hov' : 2147483648 < q
        · have hov : decide (2147483648 < q) = true := decide_eq_true hov'
          rw [hov, Bool.not_true] at fi
          by_cases hL0 : L = 0
          · have e0 : negL L = 0 := by unfold negL; omega
            have eh : negH H L = (18446744073709551616 - H) % 18446744073709551616 := by unfold negH; rw [if_pos hL0]
            have nh0 := nh
            have nl0 : IntKind.u64.wrap (-L) = 0 := by rw [wrapU]; omega
            have nh2 : IntKind.u64.wrap (18446744073709551615 - H + 1) = negH H L := by rw [eh, wrapU]; omega
            have hgeW := hge
            have dvW := dv
            rw [e0] at dvW
            have sp := divS16BT0F4 h l d H L (18446744073709551615 - H) (negH H L) 0 _ s (absU s) q r (IntKind.u64.wrap (-q)) (IntKind.u64.wrap (-r)) 0 0 hmi nh0 nl0 nh2 hsn hgeW hov jS zd sd' us dvW
            exact ⟨_, _, 16, fun w => divI16N 4 h l d _ _ _ _ _ _ _ 0 0 0 0 hn jI wD ds fi w, DivS16N 4 h l d _ _ hn sp⟩
          · have eh : negH H L = 18446744073709551615 - H := by unfold negH; rw [if_neg hL0]
            have nh1 : bits .xor .u64 IntKind.u64.max H = negH H L := by rw [nh, eh]
            have nl1 : IntKind.u64.wrap (-L) = negL L := by rw [wrapU]; unfold negL; omega
            have nz1 : (negL L == 0) = false := beq_eq_false_iff_ne.mpr (by unfold negL; omega)
            have hgeW := hge
            have dvW := dv
            have sp := divS16BT1F4 h l d H L (negH H L) 0 (negL L) _ s (absU s) q r (IntKind.u64.wrap (-q)) (IntKind.u64.wrap (-r)) 0 0 hmi nh1 nl1 nz1 hsn hgeW hov jS zd sd' us dvW
            exact ⟨_, _, 16, fun w => divI16N 4 h l d _ _ _ _ _ _ _ 0 0 0 0 hn jI wD ds fi w, DivS16N 4 h l d _ _ hn sp⟩
        · have hov : decide (2147483648 < q) = false := decide_eq_false hov'
          rw [hov, Bool.not_false] at fi
          by_cases heq' : q = 2147483648
          · have heq : (q == 2147483648) = true := beq_iff_eq.mpr heq'
            by_cases hL0 : L = 0
            · have e0 : negL L = 0 := by unfold negL; omega
              have eh : negH H L = (18446744073709551616 - H) % 18446744073709551616 := by unfold negH; rw [if_pos hL0]
              have nh0 := nh
              have nl0 : IntKind.u64.wrap (-L) = 0 := by rw [wrapU]; omega
              have nh2 : IntKind.u64.wrap (18446744073709551615 - H + 1) = negH H L := by rw [eh, wrapU]; omega
              have hgeW := hge
              have dvW := dv
              rw [e0] at dvW
              have sp := divS16YeT0F4 h l d H L (18446744073709551615 - H) (negH H L) 0 _ s (absU s) q r (IntKind.u64.wrap (-q)) (IntKind.u64.wrap (-r)) _ _ hmi nh0 nl0 nh2 hsn hgeW hov heq rfl rfl jS zd sd' us dvW zq zrr
              exact ⟨_, _, 0, fun w => divI16Y 4 h l d _ _ _ _ _ _ _ _ _ _ _ hn jI wD ds fi wQ wR w, DivS16Y 4 h l d _ _ hn sp⟩
            · have eh : negH H L = 18446744073709551615 - H := by unfold negH; rw [if_neg hL0]
              have nh1 : bits .xor .u64 IntKind.u64.max H = negH H L := by rw [nh, eh]
              have nl1 : IntKind.u64.wrap (-L) = negL L := by rw [wrapU]; unfold negL; omega
              have nz1 : (negL L == 0) = false := beq_eq_false_iff_ne.mpr (by unfold negL; omega)
              have hgeW := hge
              have dvW := dv
              have sp := divS16YeT1F4 h l d H L (negH H L) 0 (negL L) _ s (absU s) q r (IntKind.u64.wrap (-q)) (IntKind.u64.wrap (-r)) _ _ hmi nh1 nl1 nz1 hsn hgeW hov heq rfl rfl jS zd sd' us dvW zq zrr
              exact ⟨_, _, 0, fun w => divI16Y 4 h l d _ _ _ _ _ _ _ _ _ _ _ hn jI wD ds fi wQ wR w, DivS16Y 4 h l d _ _ hn sp⟩
          · have heq : (q == 2147483648) = false := beq_eq_false_iff_ne.mpr heq'
            by_cases hL0 : L = 0
            · have e0 : negL L = 0 := by unfold negL; omega
              have eh : negH H L = (18446744073709551616 - H) % 18446744073709551616 := by unfold negH; rw [if_pos hL0]
              have nh0 := nh
              have nl0 : IntKind.u64.wrap (-L) = 0 := by rw [wrapU]; omega
              have nh2 : IntKind.u64.wrap (18446744073709551615 - H + 1) = negH H L := by rw [eh, wrapU]; omega
              have hgeW := hge
              have dvW := dv
              rw [e0] at dvW
              have sp := divS16YnT0F4 h l d H L (18446744073709551615 - H) (negH H L) 0 _ s (absU s) q r (IntKind.u64.wrap (-q)) (IntKind.u64.wrap (-r)) _ _ hmi nh0 nl0 nh2 hsn hgeW hov heq rfl rfl jS zd sd' us dvW zq zrr
              exact ⟨_, _, 0, fun w => divI16Y 4 h l d _ _ _ _ _ _ _ _ _ _ _ hn jI wD ds fi wQ wR w, DivS16Y 4 h l d _ _ hn sp⟩
            · have eh : negH H L = 18446744073709551615 - H := by unfold negH; rw [if_neg hL0]
              have nh1 : bits .xor .u64 IntKind.u64.max H = negH H L := by rw [nh, eh]
              have nl1 : IntKind.u64.wrap (-L) = negL L := by rw [wrapU]; unfold negL; omega
              have nz1 : (negL L == 0) = false := beq_eq_false_iff_ne.mpr (by unfold negL; omega)
              have hgeW := hge
              have dvW := dv
              have sp := divS16YnT1F4 h l d H L (negH H L) 0 (negL L) _ s (absU s) q r (IntKind.u64.wrap (-q)) (IntKind.u64.wrap (-r)) _ _ hmi nh1 nl1 nz1 hsn hgeW hov heq rfl rfl jS zd sd' us dvW zq zrr
              exact ⟨_, _, 0, fun w => divI16Y 4 h l d _ _ _ _ _ _ _ _ _ _ _ hn jI wD ds fi wQ wR w, DivS16Y 4 h l d _ _ hn sp⟩
      · have ds := dsNoTF hH.1 hH.2 hL.1 hL.2 sb.1 sb.2 hm' hsn hlt
        have hge : decide (absU s ≤ (negH H L)) = true := decide_eq_true (by omega)
        by_cases hL0 : L = 0
        · have eh : negH H L = (18446744073709551616 - H) % 18446744073709551616 := by unfold negH; rw [if_pos hL0]
          have nl0 : IntKind.u64.wrap (-L) = 0 := by rw [wrapU]; omega
          have nh2 : IntKind.u64.wrap (18446744073709551615 - H + 1) = negH H L := by rw [eh, wrapU]; omega
          have sp := divS16AT0F4 h l d H L (18446744073709551615 - H) (negH H L) 0 _ s (absU s) 0 0 0 0 0 0 hmi nh nl0 nh2 hsn hge jS zd sd' us
          exact ⟨_, _, 16, fun w => divI16K 4 h l d _ _ _ _ _ _ _ 0 0 0 0 hn jI wD ds w, DivS16N 4 h l d _ _ hn sp⟩
        · have eh : negH H L = 18446744073709551615 - H := by unfold negH; rw [if_neg hL0]
          have nh1 : bits .xor .u64 IntKind.u64.max H = negH H L := by rw [nh, eh]
          have nl1 : IntKind.u64.wrap (-L) = negL L := by rw [wrapU]; unfold negL; omega
          have nz1 : (negL L == 0) = false := beq_eq_false_iff_ne.mpr (by unfold negL; omega)
          have sp := divS16AT1F4 h l d H L (negH H L) 0 (negL L) _ s (absU s) 0 0 0 0 0 0 hmi nh1 nl1 nz1 hsn hge jS zd sd' us
          exact ⟨_, _, 16, fun w => divI16K 4 h l d _ _ _ _ _ _ _ 0 0 0 0 hn jI wD ds w, DivS16N 4 h l d _ _ hn sp⟩
    case pos =>
      have hsn : decide (s < 0) = true := decide_eq_true hs0
      by_cases hlt : (negH H L) < absU s
      · have qb := dq_b nb.1 hlt lb.1 lb.2
        have dv := fun w => divide_any (negH H L) (negL L) (absU s) w nb.1 hlt lb.1 lb.2 (by omega)
        have ds := dsYesTT hH.1 hH.2 hL.1 hL.2 sb.1 sb.2 hm' hsn hlt
        have hge : decide (absU s ≤ (negH H L)) = false := decide_eq_false (by omega)
        obtain ⟨q, hq⟩ : ∃ q : Int, q = dq (negH H L) (negL L) (absU s) := ⟨_, rfl⟩
        obtain ⟨r, hr⟩ : ∃ r : Int, r = dr (negH H L) (negL L) (absU s) := ⟨_, rfl⟩
        rw [← hq, ← hr] at qb
        simp only [← hq, ← hr] at ds dv
        obtain ⟨Q, eQ⟩ := natU (wrap64 q)
        have fi := fitsX 0 (wrap64 q) 4 _ _ true (widSx (wrap64 q) 4 _ (si _ Q (wrap64_wf _) eQ))
        rw [fitP4 qb.1.1 qb.1.2 eQ] at fi
        have wQ := widUx (wrap64 q) 4 _ (un _ Q eQ)
        have zq := zr _ Q eQ
        obtain ⟨R, eR⟩ := natU (wrap64 (-r))
        rw [w64_neg] at ds
        have wR := widUx (wrap64 (-r)) 4 _ (un _ R eR)
        have zrr' := zr _ R eR
        have zrr : ∀ w, Calls Tryd.prog 64 #[.int .i64 (wrap64 (IntKind.u64.wrap (-r))), .int .i64 4] w fun e w' => e = .returned (.int .i64 (wrap64 ((R % 2 ^ (8 * 4) : Nat) : Int))) ∧ w = w' := fun w => by rw [w64_u]; exact zrr' w
        by_cases hov' : 2147483648 < q
        · have hov : decide (2147483648 < q) = true := decide_eq_true hov'
          rw [hov, Bool.true_or, Bool.not_true] at fi
          by_cases hL0 : L = 0
          · have e0 : negL L = 0 := by unfold negL; omega
            have eh : negH H L = (18446744073709551616 - H) % 18446744073709551616 := by unfold negH; rw [if_pos hL0]
            have nh0 := nh
            have nl0 : IntKind.u64.wrap (-L) = 0 := by rw [wrapU]; omega
            have nh2 : IntKind.u64.wrap (18446744073709551615 - H + 1) = negH H L := by rw [eh, wrapU]; omega
            have hgeW := hge
            have dvW := dv
            rw [e0] at dvW
            have sp := divS16BT0T4 h l d H L (18446744073709551615 - H) (negH H L) 0 _ s (absU s) q r 0 (IntKind.u64.wrap (-r)) 0 0 hmi nh0 nl0 nh2 hsn hgeW hov jS zd sd' us dvW
            exact ⟨_, _, 16, fun w => divI16N 4 h l d _ _ _ _ _ _ _ 0 0 0 0 hn jI wD ds fi w, DivS16N 4 h l d _ _ hn sp⟩
          · have eh : negH H L = 18446744073709551615 - H := by unfold negH; rw [if_neg hL0]
            have nh1 : bits .xor .u64 IntKind.u64.max H = negH H L := by rw [nh, eh]
            have nl1 : IntKind.u64.wrap (-L) = negL L := by rw [wrapU]; unfold negL; omega
            have nz1 : (negL L == 0) = false := beq_eq_false_iff_ne.mpr (by unfold negL; omega)
            have hgeW := hge
            have dvW := dv
            have sp := divS16BT1T4 h l d H L (negH H L) 0 (negL L) _ s (absU s) q r 0 (IntKind.u64.wrap (-r)) 0 0 hmi nh1 nl1 nz1 hsn hgeW hov jS zd sd' us dvW
            exact ⟨_, _, 16, fun w => divI16N 4 h l d _ _ _ _ _ _ _ 0 0 0 0 hn jI wD ds fi w, DivS16N 4 h l d _ _ hn sp⟩
        · have hov : decide (2147483648 < q) = false := decide_eq_false hov'
          by_cases heq' : q = 2147483648
          · have heq : (q == 2147483648) = true := beq_iff_eq.mpr heq'
            rw [hov, heq, Bool.false_or, Bool.not_true] at fi
            by_cases hL0 : L = 0
            · have e0 : negL L = 0 := by unfold negL; omega
              have eh : negH H L = (18446744073709551616 - H) % 18446744073709551616 := by unfold negH; rw [if_pos hL0]
              have nh0 := nh
              have nl0 : IntKind.u64.wrap (-L) = 0 := by rw [wrapU]; omega
              have nh2 : IntKind.u64.wrap (18446744073709551615 - H + 1) = negH H L := by rw [eh, wrapU]; omega
              have hgeW := hge
              have dvW := dv
              rw [e0] at dvW
              have sp := divS16ET0T4 h l d H L (18446744073709551615 - H) (negH H L) 0 _ s (absU s) q r 0 (IntKind.u64.wrap (-r)) 0 0 hmi nh0 nl0 nh2 hsn hgeW hov heq jS zd sd' us dvW
              exact ⟨_, _, 16, fun w => divI16N 4 h l d _ _ _ _ _ _ _ 0 0 0 0 hn jI wD ds fi w, DivS16N 4 h l d _ _ hn sp⟩
            · have eh : negH H L = 18446744073709551615 - H := by unfold negH; rw [if_neg hL0]
              have nh1 : bits .xor .u64 IntKind.u64.max H = negH H L := by rw [nh, eh]
              have nl1 : IntKind.u64.wrap (-L) = negL L := by rw [wrapU]; unfold negL; omega
              have nz1 : (negL L == 0) = false := beq_eq_false_iff_ne.mpr (by unfold negL; omega)
              have hgeW := hge
              have dvW := dv
              have sp := divS16ET1T4 h l d H L (negH H L) 0 (negL L) _ s (absU s) q r 0 (IntKind.u64.wrap (-r)) 0 0 hmi nh1 nl1 nz1 hsn hgeW hov heq jS zd sd' us dvW
              exact ⟨_, _, 16, fun w => divI16N 4 h l d _ _ _ _ _ _ _ 0 0 0 0 hn jI wD ds fi w, DivS16N 4 h l d _ _ hn sp⟩
          · have heq : (q == 2147483648) = false := beq_eq_false_iff_ne.mpr heq'
            rw [hov, heq, Bool.false_or, Bool.not_false] at fi
            by_cases hL0 : L = 0
            · have e0 : negL L = 0 := by unfold negL; omega
              have eh : negH H L = (18446744073709551616 - H) % 18446744073709551616 := by unfold negH; rw [if_pos hL0]
              have nh0 := nh
              have nl0 : IntKind.u64.wrap (-L) = 0 := by rw [wrapU]; omega
              have nh2 : IntKind.u64.wrap (18446744073709551615 - H + 1) = negH H L := by rw [eh, wrapU]; omega
              have hgeW := hge
              have dvW := dv
              rw [e0] at dvW
              have sp := divS16YnT0T4 h l d H L (18446744073709551615 - H) (negH H L) 0 _ s (absU s) q r 0 (IntKind.u64.wrap (-r)) _ _ hmi nh0 nl0 nh2 hsn hgeW hov heq rfl jS zd sd' us dvW zq zrr
              exact ⟨_, _, 0, fun w => divI16Y 4 h l d _ _ _ _ _ _ _ _ _ _ _ hn jI wD ds fi wQ wR w, DivS16Y 4 h l d _ _ hn sp⟩
            · have eh : negH H L = 18446744073709551615 - H := by unfold negH; rw [if_neg hL0]
              have nh1 : bits .xor .u64 IntKind.u64.max H = negH H L := by rw [nh, eh]
              have nl1 : IntKind.u64.wrap (-L) = negL L := by rw [wrapU]; unfold negL; omega
              have nz1 : (negL L == 0) = false := beq_eq_false_iff_ne.mpr (by unfold negL; omega)
              have hgeW := hge
              have dvW := dv
              have sp := divS16YnT1T4 h l d H L (negH H L) 0 (negL L) _ s (absU s) q r 0 (IntKind.u64.wrap (-r)) _ _ hmi nh1 nl1 nz1 hsn hgeW hov heq rfl jS zd sd' us dvW zq zrr
              exact ⟨_, _, 0, fun w => divI16Y 4 h l d _ _ _ _ _ _ _ _ _ _ _ hn jI wD ds fi wQ wR w, DivS16Y 4 h l d _ _ hn sp⟩
      · have ds := dsNoTT hH.1 hH.2 hL.1 hL.2 sb.1 sb.2 hm' hsn hlt
        have hge : decide (absU s ≤ (negH H L)) = true := decide_eq_true (by omega)
        by_cases hL0 : L = 0
        · have eh : negH H L = (18446744073709551616 - H) % 18446744073709551616 := by unfold negH; rw [if_pos hL0]
          have nl0 : IntKind.u64.wrap (-L) = 0 := by rw [wrapU]; omega
          have nh2 : IntKind.u64.wrap (18446744073709551615 - H + 1) = negH H L := by rw [eh, wrapU]; omega
          have sp := divS16AT0T4 h l d H L (18446744073709551615 - H) (negH H L) 0 _ s (absU s) 0 0 0 0 0 0 hmi nh nl0 nh2 hsn hge jS zd sd' us
          exact ⟨_, _, 16, fun w => divI16K 4 h l d _ _ _ _ _ _ _ 0 0 0 0 hn jI wD ds w, DivS16N 4 h l d _ _ hn sp⟩
        · have eh : negH H L = 18446744073709551615 - H := by unfold negH; rw [if_neg hL0]
          have nh1 : bits .xor .u64 IntKind.u64.max H = negH H L := by rw [nh, eh]
          have nl1 : IntKind.u64.wrap (-L) = negL L := by rw [wrapU]; unfold negL; omega
          have nz1 : (negL L == 0) = false := beq_eq_false_iff_ne.mpr (by unfold negL; omega)
          have sp := divS16AT1T4 h l d H L (negH H L) 0 (negL L) _ s (absU s) 0 0 0 0 0 0 hmi nh1 nl1 nz1 hsn hge jS zd sd' us
          exact ⟨_, _, 16, fun w => divI16K 4 h l d _ _ _ _ _ _ _ 0 0 0 0 hn jI wD ds w, DivS16N 4 h l d _ _ hn sp⟩
theorem jofalse8 (h l : Int) (hh : (Lit.int .i64 h).wf = true) (hl : (Lit.int .i64 l).wf = true) : ∃ H L : Int, (0 ≤ H ∧ H < 18446744073709551616) ∧ (0 ≤ L ∧ L < 18446744073709551616) ∧
    (∀ w, Calls Tryd.prog 79 #[.int .i64 8, .int .i64 h, .int .i64 l, .bool false] w fun e w' => e = .returned (.tuple #[.int .u64 H, .int .u64 L]) ∧ w = w') ∧
    (∀ w, Calls Tryd.prog 54 #[.int .i64 h, .int .i64 l, .int .i64 8, .bool false] w fun e w' => e = .returned (.agg #[.int .i64 (wrap64 H), .int .i64 (wrap64 L)]) ∧ Below w.heap.size w w') := by
  have b1 := bounds_i64 hh
  have b2 := bounds_i64 hl
  refine ⟨IntKind.u64.wrap h, IntKind.u64.wrap l, by rw [wrapU]; omega, by rw [wrapU]; omega, fun w => joinS8 h l false w, fun w => ?_⟩
  have := joinX8 h l false w
  rw [w64_u, w64_u, w64_in b1.1 b1.2, w64_in b2.1 b2.2]
  exact this
theorem jotrue8 (h l : Int) (hh : (Lit.int .i64 h).wf = true) (hl : (Lit.int .i64 l).wf = true) : ∃ H L : Int, (0 ≤ H ∧ H < 18446744073709551616) ∧ (0 ≤ L ∧ L < 18446744073709551616) ∧
    (∀ w, Calls Tryd.prog 79 #[.int .i64 8, .int .i64 h, .int .i64 l, .bool true] w fun e w' => e = .returned (.tuple #[.int .u64 H, .int .u64 L]) ∧ w = w') ∧
    (∀ w, Calls Tryd.prog 54 #[.int .i64 h, .int .i64 l, .int .i64 8, .bool true] w fun e w' => e = .returned (.agg #[.int .i64 (wrap64 H), .int .i64 (wrap64 L)]) ∧ Below w.heap.size w w') := by
  have b1 := bounds_i64 hh
  have b2 := bounds_i64 hl
  refine ⟨IntKind.u64.wrap h, IntKind.u64.wrap l, by rw [wrapU]; omega, by rw [wrapU]; omega, fun w => joinS8 h l true w, fun w => ?_⟩
  have := joinX8 h l true w
  rw [w64_u, w64_u, w64_in b1.1 b1.2, w64_in b2.1 b2.2]
  exact this
set_option maxHeartbeats 1000000 in
theorem divB15_8 (h l d : Int) (hh : (Lit.int .i64 h).wf = true) (hl : (Lit.int .i64 l).wf = true) (hd : (Lit.int .i64 d).wf = true) : ∃ q r k, (∀ w, Calls Tryd.prog 24 #[.int .i64 15, .int .i64 8, .int .i64 h, .int .i64 l, .int .i64 d] w fun e w' => e = .returned (.tuple #[.int .i64 q, .int .i64 r, .int .i64 k]) ∧ Below w.heap.size w w') ∧
    (∀ w, Calls Tryd.prog 23 #[.int .i64 15, .int .i64 8, .int .i64 h, .int .i64 l, .int .i64 d] w fun e w' => e = .returned (.tuple #[.int .i64 q, .int .i64 r, .int .i64 k]) ∧ w = w') := by
  obtain ⟨D, hD⟩ := natU d
  have hn : okSize (8 : Int) := by unfold okSize; omega
  have hDl : D < 18446744073709551616 := by rw [wrapU] at hD; omega
  have un (v : Int) (V : Nat) (hV : IntKind.u64.wrap v = (V : Int)) (w : World) : Calls Tryd.prog 46 #[.int .i64 v, .int .i64 8] w fun e w' => e = .returned (.tuple #[.int .i64 (wrap64 ((V % 2 ^ (8 * 8) : Nat) : Int)), .nilIface]) ∧ w = w' := by
    rw [eqZ8 hV]; exact unsigned8 v w
  have zr (v : Int) (V : Nat) (hV : IntKind.u64.wrap v = (V : Int)) (w : World) := specZeroL v V 8 w hV (by decide) (by decide)
  obtain ⟨H, L, hH, hL, jS, jI⟩ := jofalse8 h l hh hl
  obtain ⟨x, hx⟩ : ∃ x : Int, x = wrap64 ((D % 2 ^ (8 * 8) : Nat) : Int) := ⟨_, rfl⟩
  have zd := zr d D hD
  have wD := widUx d 8 _ (un d D hD)
  rw [← hx] at wD
  have zd' : ∀ w, Calls Tryd.prog 64 #[.int .i64 d, .int .i64 8] w fun e w' => e = .returned (.int .i64 x) ∧ w = w' := fun w => by rw [hx]; exact zd w
  obtain ⟨y, hy⟩ : ∃ y : Int, y = IntKind.u64.wrap x := ⟨_, rfl⟩
  have ey : y = ((D % 18446744073709551616 : Nat) : Int) := by rw [hy, hx, show (2 : Nat) ^ (8 * 8) = 18446744073709551616 from rfl]; exact u_w64 (by omega) (by omega)
  have ex : wrap64 y = x := by rw [hy, w64_u, hx]; exact w64_w64 _
  clear hx
  have hyb : 0 ≤ y ∧ y < 18446744073709551616 := by rw [ey]; omega
  by_cases hlt : H < y
  · have hge : decide (IntKind.u64.wrap x ≤ H) = false := by rw [← hy]; exact decide_eq_false (by omega)
    have qb := dq_b hH.1 hlt hL.1 hL.2
    have sp := divS15Yes8 h l d H L x _ _ hge jS zd' (fun w => by rw [← hy]; exact divide_any H L y w hH.1 hlt hL.1 hL.2 (by omega))
    have dw := fun w => dwYes hH.1 hlt hL.1 hL.2 (by omega : y < 18446744073709551616) w
    simp only [ex] at dw
    obtain ⟨q, hq⟩ : ∃ q : Int, q = dq H L y := ⟨_, rfl⟩
    obtain ⟨r, hr⟩ : ∃ r : Int, r = dr H L y := ⟨_, rfl⟩
    rw [← hq, ← hr] at qb sp
    simp only [← hq, ← hr] at dw
    have pl := plainX (wrap64 H) (wrap64 L) 0 x _ _ _ dw
    obtain ⟨Q, eQ⟩ := natU (wrap64 q)
    obtain ⟨R, eR⟩ := natU (wrap64 r)
    have wQ := widUx (wrap64 q) 8 _ (un _ Q eQ)
    have wR := widUx (wrap64 r) 8 _ (un _ R eR)
    have fi := fitsX 0 (wrap64 q) 8 _ _ false wQ
    rw [fitU8 qb.1.1 qb.1.2 eQ, show ((0 : Int) == 0) = true from rfl, Bool.true_and] at fi
    rw [lowU8 qb.2.1 (by omega) eR] at wR
    rw [lowU8 qb.1.1 (by omega) eQ] at wQ
    exact ⟨_, _, 0, fun w => divI15Y 8 h l d _ _ _ _ _ _ _ _ _ _ _ hn jI wD pl fi wQ wR w, DivS15Y 8 h l d _ _ hn sp⟩
  · have hge : decide (IntKind.u64.wrap x ≤ H) = true := by rw [← hy]; exact decide_eq_true (by omega)
    have sp := divS15No8 h l d H L x hge jS zd'
    have dw := fun w => dwNo (l := L) hH.1 hH.2 hlt hyb.1 (by omega : y < 18446744073709551616) w
    simp only [ex] at dw
    have pl := plainX (wrap64 H) (wrap64 L) 0 x _ _ _ dw
    exact ⟨_, _, 16, fun w => divI15K 8 h l d _ _ _ _ _ _ _ 0 0 0 0 hn jI wD pl w, DivS15N 8 h l d _ _ hn sp⟩
set_option maxHeartbeats 2000000 in
theorem divB16_8 (h l d : Int) (hh : (Lit.int .i64 h).wf = true) (hl : (Lit.int .i64 l).wf = true) (hd : (Lit.int .i64 d).wf = true) : ∃ q r k, (∀ w, Calls Tryd.prog 24 #[.int .i64 16, .int .i64 8, .int .i64 h, .int .i64 l, .int .i64 d] w fun e w' => e = .returned (.tuple #[.int .i64 q, .int .i64 r, .int .i64 k]) ∧ Below w.heap.size w w') ∧
    (∀ w, Calls Tryd.prog 23 #[.int .i64 16, .int .i64 8, .int .i64 h, .int .i64 l, .int .i64 d] w fun e w' => e = .returned (.tuple #[.int .i64 q, .int .i64 r, .int .i64 k]) ∧ w = w') := by
  obtain ⟨D, hD⟩ := natU d
  have hn : okSize (8 : Int) := by unfold okSize; omega
  have un (v : Int) (V : Nat) (hV : IntKind.u64.wrap v = (V : Int)) (w : World) : Calls Tryd.prog 46 #[.int .i64 v, .int .i64 8] w fun e w' => e = .returned (.tuple #[.int .i64 (wrap64 ((V % 2 ^ (8 * 8) : Nat) : Int)), .nilIface]) ∧ w = w' := by
    rw [eqZ8 hV]; exact unsigned8 v w
  have zr (v : Int) (V : Nat) (hV : IntKind.u64.wrap v = (V : Int)) (w : World) := specZeroL v V 8 w hV (by decide) (by decide)
  have si (v : Int) (V : Nat) (hv : (Lit.int .i64 v).wf = true) (hV : IntKind.u64.wrap v = (V : Int)) (w : World) : Calls Tryd.prog 85 #[.int .i64 v, .int .i64 8] w fun e w' => e = .returned (.tuple #[.int .i64 (wrap64 (sgnU V 8 : Int)), .nilIface]) ∧ w = w' := by
    rw [eqS8 hv hV]; exact signed8 v w
  have sr (v : Int) (V : Nat) (hV : IntKind.u64.wrap v = (V : Int)) (w : World) := specSignL v V 8 w hV (by decide) (by decide)
  obtain ⟨H, L, hH, hL, jS, jI⟩ := jotrue8 h l hh hl
  obtain ⟨s, hs⟩ : ∃ s : Int, s = wrap64 (sgnU D 8 : Int) := ⟨_, rfl⟩
  have sb := sgn_b D 8 (by decide) (by decide)
  have wD := widSx d 8 _ (si d D hd hD)
  have zd := zr d D hD
  have sd := sr d D hD
  rw [← hs] at sb wD
  have sd' : ∀ w, Calls Tryd.prog 81 #[.int .i64 d, .int .i64 8] w fun e w' => e = .returned (.int .i64 s) ∧ w = w' := fun w => by rw [hs]; exact sd w
  have us := fun w => specSize s w (by rw [hs]; exact wrap64_wf _)
  have ab : 0 ≤ absU s ∧ absU s ≤ 9223372036854775808 := by unfold absU; omega
  by_cases hm : 9223372036854775808 ≤ H
  case neg =>
    have hmi : (H / 9223372036854775808 == 1) = false := beq_eq_false_iff_ne.mpr (by omega)
    have hm' : decide (9223372036854775808 ≤ H) = false := decide_eq_false hm
    by_cases hs0 : s < 0
    case neg =>
      have hsn : decide (s < 0) = false := decide_eq_false hs0
      by_cases hlt : H < absU s
      · have qb := dq_b hH.1 hlt hL.1 hL.2
        have dv := fun w => divide_any H L (absU s) w hH.1 hlt hL.1 hL.2 (by omega)
        have ds := dsYesFF hH.1 hH.2 hL.1 hL.2 sb.1 sb.2 hm' hsn hlt
        have hge : decide (absU s ≤ H) = false := decide_eq_false (by omega)
        obtain ⟨q, hq⟩ : ∃ q : Int, q = dq H L (absU s) := ⟨_, rfl⟩
        obtain ⟨r, hr⟩ : ∃ r : Int, r = dr H L (absU s) := ⟨_, rfl⟩
        rw [← hq, ← hr] at qb
        simp only [← hq, ← hr] at ds dv
        obtain ⟨Q, eQ⟩ := natU (wrap64 q)
        have fi := fitsX 0 (wrap64 q) 8 _ _ true (widSx (wrap64 q) 8 _ (si _ Q (wrap64_wf _) eQ))
        rw [fitP8 qb.1.1 qb.1.2 eQ] at fi
        have wQ := widUx (wrap64 q) 8 _ (un _ Q eQ)
        have zq := zr _ Q eQ
        obtain ⟨R, eR⟩ := natU (wrap64 r)
        have wR := widUx (wrap64 r) 8 _ (un _ R eR)
        have zrr := zr _ R eR
        by_cases hov' : 9223372036854775808 < q
        · have hov : decide (9223372036854775808 < q) = true := decide_eq_true hov'
          rw [hov, Bool.true_or, Bool.not_true] at fi
          have hgeW := hge; have dvW := dv
          have sp := divS16BFF8 h l d H L 0 0 0 _ s (absU s) q r 0 0 0 0 hmi hsn hgeW hov jS zd sd' us dvW
          exact ⟨_, _, 16, fun w => divI16N 8 h l d _ _ _ _ _ _ _ 0 0 0 0 hn jI wD ds fi w, DivS16N 8 h l d _ _ hn sp⟩
        · have hov : decide (9223372036854775808 < q) = false := decide_eq_false hov'
          by_cases heq' : q = 9223372036854775808
          · have heq : (q == 9223372036854775808) = true := beq_iff_eq.mpr heq'
            rw [hov, heq, Bool.false_or, Bool.not_true] at fi
            have hgeW := hge; have dvW := dv
            have sp := divS16EFF8 h l d H L 0 0 0 _ s (absU s) q r 0 0 0 0 hmi hsn hgeW hov heq jS zd sd' us dvW
            exact ⟨_, _, 16, fun w => divI16N 8 h l d _ _ _ _ _ _ _ 0 0 0 0 hn jI wD ds fi w, DivS16N 8 h l d _ _ hn sp⟩
          · have heq : (q == 9223372036854775808) = false := beq_eq_false_iff_ne.mpr heq'
            rw [hov, heq, Bool.false_or, Bool.not_false] at fi
            have hgeW := hge; have dvW := dv
            have sp := divS16YnFF8 h l d H L 0 0 0 _ s (absU s) q r 0 0 _ _ hmi hsn hgeW hov heq jS zd sd' us dvW zq zrr
            exact ⟨_, _, 0, fun w => divI16Y 8 h l d _ _ _ _ _ _ _ _ _ _ _ hn jI wD ds fi wQ wR w, DivS16Y 8 h l d _ _ hn sp⟩
      · have ds := dsNoFF hH.1 hH.2 hL.1 hL.2 sb.1 sb.2 hm' hsn hlt
        have hge : decide (absU s ≤ H) = true := decide_eq_true (by omega)
        have sp := divS16AFF8 h l d H L 0 0 0 _ s (absU s) 0 0 0 0 0 0 hmi hsn hge jS zd sd' us
        exact ⟨_, _, 16, fun w => divI16K 8 h l d _ _ _ _ _ _ _ 0 0 0 0 hn jI wD ds w, DivS16N 8 h l d _ _ hn sp⟩
    case pos =>
      have hsn : decide (s < 0) = true := decide_eq_true hs0
      by_cases hlt : H < absU s
      · have qb := dq_b hH.1 hlt hL.1 hL.2
        have dv := fun w => divide_any H L (absU s) w hH.1 hlt hL.1 hL.2 (by omega)
        have ds := dsYesFT hH.1 hH.2 hL.1 hL.2 sb.1 sb.2 hm' hsn hlt
        have hge : decide (absU s ≤ H) = false := decide_eq_false (by omega)
        obtain ⟨q, hq⟩ : ∃ q : Int, q = dq H L (absU s) := ⟨_, rfl⟩
        obtain ⟨r, hr⟩ : ∃ r : Int, r = dr H L (absU s) := ⟨_, rfl⟩
        rw [← hq, ← hr] at qb
        simp only [← hq, ← hr] at ds dv
        have eql : qL true q = wrap64 (-q) := by unfold qL; rfl
        rw [eql] at ds
        obtain ⟨Q, eQ⟩ := natU (wrap64 (-q))
        have wQ := widUx (wrap64 (-q)) 8 _ (un _ Q eQ)
        have zq' := zr _ Q eQ
        have zq : ∀ w, Calls Tryd.prog 64 #[.int .i64 (wrap64 (IntKind.u64.wrap (-q))), .int .i64 8] w fun e w' => e = .returned (.int .i64 (wrap64 ((Q % 2 ^ (8 * 8) : Nat) : Int))) ∧ w = w' := fun w => by rw [w64_u]; exact zq' w
        have fi := fitsX (qH true q) (wrap64 (-q)) 8 _ _ true (widSx (wrap64 (-q)) 8 _ (si _ Q (wrap64_wf _) eQ))
        rw [fitT8 qb.1.1 qb.1.2 eQ] at fi
        obtain ⟨R, eR⟩ := natU (wrap64 r)
        have wR := widUx (wrap64 r) 8 _ (un _ R eR)
        have zrr := zr _ R eR
        by_cases hov' : 9223372036854775808 < q
        · have hov : decide (9223372036854775808 < q) = true := decide_eq_true hov'
          rw [hov, Bool.not_true] at fi
          have hgeW := hge; have dvW := dv
          have sp := divS16BFT8 h l d H L 0 0 0 _ s (absU s) q r (IntKind.u64.wrap (-q)) 0 0 0 hmi hsn hgeW hov jS zd sd' us dvW
          exact ⟨_, _, 16, fun w => divI16N 8 h l d _ _ _ _ _ _ _ 0 0 0 0 hn jI wD ds fi w, DivS16N 8 h l d _ _ hn sp⟩
        · have hov : decide (9223372036854775808 < q) = false := decide_eq_false hov'
          rw [hov, Bool.not_false] at fi
          by_cases heq' : q = 9223372036854775808
          · have heq : (q == 9223372036854775808) = true := beq_iff_eq.mpr heq'
            have hgeW := hge; have dvW := dv
            have sp := divS16YeFT8 h l d H L 0 0 0 _ s (absU s) q r (IntKind.u64.wrap (-q)) 0 _ _ hmi hsn hgeW hov heq rfl jS zd sd' us dvW zq zrr
            exact ⟨_, _, 0, fun w => divI16Y 8 h l d _ _ _ _ _ _ _ _ _ _ _ hn jI wD ds fi wQ wR w, DivS16Y 8 h l d _ _ hn sp⟩
          · have heq : (q == 9223372036854775808) = false := beq_eq_false_iff_ne.mpr heq'
            have hgeW := hge; have dvW := dv
            have sp := divS16YnFT8 h l d H L 0 0 0 _ s (absU s) q r (IntKind.u64.wrap (-q)) 0 _ _ hmi hsn hgeW hov heq rfl jS zd sd' us dvW zq zrr
            exact ⟨_, _, 0, fun w => divI16Y 8 h l d _ _ _ _ _ _ _ _ _ _ _ hn jI wD ds fi wQ wR w, DivS16Y 8 h l d _ _ hn sp⟩
      · have ds := dsNoFT hH.1 hH.2 hL.1 hL.2 sb.1 sb.2 hm' hsn hlt
        have hge : decide (absU s ≤ H) = true := decide_eq_true (by omega)
        have sp := divS16AFT8 h l d H L 0 0 0 _ s (absU s) 0 0 0 0 0 0 hmi hsn hge jS zd sd' us
        exact ⟨_, _, 16, fun w => divI16K 8 h l d _ _ _ _ _ _ _ 0 0 0 0 hn jI wD ds w, DivS16N 8 h l d _ _ hn sp⟩
  case pos =>
    have hmi : (H / 9223372036854775808 == 1) = true := by rw [show H / 9223372036854775808 = 1 by omega]; rfl
    have hm' : decide (9223372036854775808 ≤ H) = true := decide_eq_true hm
    have nb := negH_b (L := L) hH.1 hH.2
    have lb := negL_b L
    have nh : bits .xor .u64 IntKind.u64.max H = 18446744073709551615 - H := not_u64 hH.1 hH.2
    by_cases hs0 : s < 0
    case neg =>
      have hsn : decide (s < 0) = false := decide_eq_false hs0
      by_cases hlt : (negH H L) < absU s
      · have qb := dq_b nb.1 hlt lb.1 lb.2
        have dv := fun w => divide_any (negH H L) (negL L) (absU s) w nb.1 hlt lb.1 lb.2 (by omega)
        have ds := dsYesTF hH.1 hH.2 hL.1 hL.2 sb.1 sb.2 hm' hsn hlt
        have hge : decide (absU s ≤ (negH H L)) = false := decide_eq_false (by omega)
        obtain ⟨q, hq⟩ : ∃ q : Int, q = dq (negH H L) (negL L) (absU s) := ⟨_, rfl⟩
        obtain ⟨r, hr⟩ : ∃ r : Int, r = dr (negH H L) (negL L) (absU s) := ⟨_, rfl⟩
        rw [← hq, ← hr] at qb
        simp only [← hq, ← hr] at ds dv
        have eql : qL true q = wrap64 (-q) := by unfold qL; rfl
        rw [eql] at ds
        obtain ⟨Q, eQ⟩ := natU (wrap64 (-q))
        have wQ := widUx (wrap64 (-q)) 8 _ (un _ Q eQ)
        have zq' := zr _ Q eQ
        have zq : ∀ w, Calls Tryd.prog 64 #[.int .i64 (wrap64 (IntKind.u64.wrap (-q))), .int .i64 8] w fun e w' => e = .returned (.int .i64 (wrap64 ((Q % 2 ^ (8 * 8) : Nat) : Int))) ∧ w = w' := fun w => by rw [w64_u]; exact zq' w
        have fi := fitsX (qH true q) (wrap64 (-q)) 8 _ _ true (widSx (wrap64 (-q)) 8 _ (si _ Q (wrap64_wf _) eQ))
        rw [fitT8 qb.1.1 qb.1.2 eQ] at fi
        obtain ⟨R, eR⟩ := natU (wrap64 (-r))
        rw [w64_neg] at ds
        have wR := widUx (wrap64 (-r)) 8 _ (un _ R eR)
        have zrr' := zr _ R eR
        have zrr : ∀ w, Calls Tryd.prog 64 #[.int .i64 (wrap64 (IntKind.u64.wrap (-r))), .int .i64 8] w fun e w' => e = .returned (.int .i64 (wrap64 ((R % 2 ^ (8 * 8) : Nat) : Int))) ∧ w = w' := fun w => by rw [w64_u]; exact zrr' w
        by_cases hov' : 9223372036854775808 < q
        · have hov : decide (9223372036854775808 < q) = true := decide_eq_true hov'
          rw [hov, Bool.not_true] at fi
          by_cases hL0 : L = 0
          · have e0 : negL L = 0 := by unfold negL; omega
            have eh : negH H L = (18446744073709551616 - H) % 18446744073709551616 := by unfold negH; rw [if_pos hL0]
            have nh0 := nh
            have nl0 : IntKind.u64.wrap (-L) = 0 := by rw [wrapU]; omega
            have nh2 : IntKind.u64.wrap (18446744073709551615 - H + 1) = negH H L := by rw [eh, wrapU]; omega
            have hgeW := hge
            have dvW := dv
            rw [e0] at dvW
            have sp := divS16BT0F8 h l d H L (18446744073709551615 - H) (negH H L) 0 _ s (absU s) q r (IntKind.u64.wrap (-q)) (IntKind.u64.wrap (-r)) 0 0 hmi nh0 nl0 nh2 hsn hgeW hov jS zd sd' us dvW
            exact ⟨_, _, 16, fun w => divI16N 8 h l d _ _ _ _ _ _ _ 0 0 0 0 hn jI wD ds fi w, DivS16N 8 h l d _ _ hn sp⟩
          · have eh : negH H L = 18446744073709551615 - H := by unfold negH; rw [if_neg hL0]
            have nh1 : bits .xor .u64 IntKind.u64.max H = negH H L := by rw [nh, eh]
            have nl1 : IntKind.u64.wrap (-L) = negL L := by rw [wrapU]; unfold negL; omega
            have nz1 : (negL L == 0) = false := beq_eq_false_iff_ne.mpr (by unfold negL; omega)
            have hgeW := hge
            have dvW := dv
            have sp := divS16BT1F8 h l d H L (negH H L) 0 (negL L) _ s (absU s) q r (IntKind.u64.wrap (-q)) (IntKind.u64.wrap (-r)) 0 0 hmi nh1 nl1 nz1 hsn hgeW hov jS zd sd' us dvW
            exact ⟨_, _, 16, fun w => divI16N 8 h l d _ _ _ _ _ _ _ 0 0 0 0 hn jI wD ds fi w, DivS16N 8 h l d _ _ hn sp⟩
        · have hov : decide (9223372036854775808 < q) = false := decide_eq_false hov'
          rw [hov, Bool.not_false] at fi
          by_cases heq' : q = 9223372036854775808
          · have heq : (q == 9223372036854775808) = true := beq_iff_eq.mpr heq'
            by_cases hL0 : L = 0
            · have e0 : negL L = 0 := by unfold negL; omega
              have eh : negH H L = (18446744073709551616 - H) % 18446744073709551616 := by unfold negH; rw [if_pos hL0]
              have nh0 := nh
              have nl0 : IntKind.u64.wrap (-L) = 0 := by rw [wrapU]; omega
              have nh2 : IntKind.u64.wrap (18446744073709551615 - H + 1) = negH H L := by rw [eh, wrapU]; omega
              have hgeW := hge
              have dvW := dv
              rw [e0] at dvW
              have sp := divS16YeT0F8 h l d H L (18446744073709551615 - H) (negH H L) 0 _ s (absU s) q r (IntKind.u64.wrap (-q)) (IntKind.u64.wrap (-r)) _ _ hmi nh0 nl0 nh2 hsn hgeW hov heq rfl rfl jS zd sd' us dvW zq zrr
              exact ⟨_, _, 0, fun w => divI16Y 8 h l d _ _ _ _ _ _ _ _ _ _ _ hn jI wD ds fi wQ wR w, DivS16Y 8 h l d _ _ hn sp⟩
            · have eh : negH H L = 18446744073709551615 - H := by unfold negH; rw [if_neg hL0]
              have nh1 : bits .xor .u64 IntKind.u64.max H = negH H L := by rw [nh, eh]
              have nl1 : IntKind.u64.wrap (-L) = negL L := by rw [wrapU]; unfold negL; omega
              have nz1 : (negL L == 0) = false := beq_eq_false_iff_ne.mpr (by unfold negL; omega)
              have hgeW := hge
              have dvW := dv
              have sp := divS16YeT1F8 h l d H L (negH H L) 0 (negL L) _ s (absU s) q r (IntKind.u64.wrap (-q)) (IntKind.u64.wrap (-r)) _ _ hmi nh1 nl1 nz1 hsn hgeW hov heq rfl rfl jS zd sd' us dvW zq zrr
              exact ⟨_, _, 0, fun w => divI16Y 8 h l d _ _ _ _ _ _ _ _ _ _ _ hn jI wD ds fi wQ wR w, DivS16Y 8 h l d _ _ hn sp⟩
          · have heq : (q == 9223372036854775808) = false := beq_eq_false_iff_ne.mpr heq'
            by_cases hL0 : L = 0
            · have e0 : negL L = 0 := by unfold negL; omega
              have eh : negH H L = (18446744073709551616 - H) % 18446744073709551616 := by unfold negH; rw [if_pos hL0]
              have nh0 := nh
              have nl0 : IntKind.u64.wrap (-L) = 0 := by rw [wrapU]; omega
              have nh2 : IntKind.u64.wrap (18446744073709551615 - H + 1) = negH H L := by rw [eh, wrapU]; omega
              have hgeW := hge
              have dvW := dv
              rw [e0] at dvW
              have sp := divS16YnT0F8 h l d H L (18446744073709551615 - H) (negH H L) 0 _ s (absU s) q r (IntKind.u64.wrap (-q)) (IntKind.u64.wrap (-r)) _ _ hmi nh0 nl0 nh2 hsn hgeW hov heq rfl rfl jS zd sd' us dvW zq zrr
              exact ⟨_, _, 0, fun w => divI16Y 8 h l d _ _ _ _ _ _ _ _ _ _ _ hn jI wD ds fi wQ wR w, DivS16Y 8 h l d _ _ hn sp⟩
            · have eh : negH H L = 18446744073709551615 - H := by unfold negH; rw [if_neg hL0]
              have nh1 : bits .xor .u64 IntKind.u64.max H = negH H L := by rw [nh, eh]
              have nl1 : IntKind.u64.wrap (-L) = negL L := by rw [wrapU]; unfold negL; omega
              have nz1 : (negL L == 0) = false := beq_eq_false_iff_ne.mpr (by unfold negL; omega)
              have hgeW := hge
              have dvW := dv
              have sp := divS16YnT1F8 h l d H L (negH H L) 0 (negL L) _ s (absU s) q r (IntKind.u64.wrap (-q)) (IntKind.u64.wrap (-r)) _ _ hmi nh1 nl1 nz1 hsn hgeW hov heq rfl rfl jS zd sd' us dvW zq zrr
              exact ⟨_, _, 0, fun w => divI16Y 8 h l d _ _ _ _ _ _ _ _ _ _ _ hn jI wD ds fi wQ wR w, DivS16Y 8 h l d _ _ hn sp⟩
      · have ds := dsNoTF hH.1 hH.2 hL.1 hL.2 sb.1 sb.2 hm' hsn hlt
        have hge : decide (absU s ≤ (negH H L)) = true := decide_eq_true (by omega)
        by_cases hL0 : L = 0
        · have eh : negH H L = (18446744073709551616 - H) % 18446744073709551616 := by unfold negH; rw [if_pos hL0]
          have nl0 : IntKind.u64.wrap (-L) = 0 := by rw [wrapU]; omega
          have nh2 : IntKind.u64.wrap (18446744073709551615 - H + 1) = negH H L := by rw [eh, wrapU]; omega
          have sp := divS16AT0F8 h l d H L (18446744073709551615 - H) (negH H L) 0 _ s (absU s) 0 0 0 0 0 0 hmi nh nl0 nh2 hsn hge jS zd sd' us
          exact ⟨_, _, 16, fun w => divI16K 8 h l d _ _ _ _ _ _ _ 0 0 0 0 hn jI wD ds w, DivS16N 8 h l d _ _ hn sp⟩
        · have eh : negH H L = 18446744073709551615 - H := by unfold negH; rw [if_neg hL0]
          have nh1 : bits .xor .u64 IntKind.u64.max H = negH H L := by rw [nh, eh]
          have nl1 : IntKind.u64.wrap (-L) = negL L := by rw [wrapU]; unfold negL; omega
          have nz1 : (negL L == 0) = false := beq_eq_false_iff_ne.mpr (by unfold negL; omega)
          have sp := divS16AT1F8 h l d H L (negH H L) 0 (negL L) _ s (absU s) 0 0 0 0 0 0 hmi nh1 nl1 nz1 hsn hge jS zd sd' us
          exact ⟨_, _, 16, fun w => divI16K 8 h l d _ _ _ _ _ _ _ 0 0 0 0 hn jI wD ds w, DivS16N 8 h l d _ _ hn sp⟩
    case pos =>
      have hsn : decide (s < 0) = true := decide_eq_true hs0
      by_cases hlt : (negH H L) < absU s
      · have qb := dq_b nb.1 hlt lb.1 lb.2
        have dv := fun w => divide_any (negH H L) (negL L) (absU s) w nb.1 hlt lb.1 lb.2 (by omega)
        have ds := dsYesTT hH.1 hH.2 hL.1 hL.2 sb.1 sb.2 hm' hsn hlt
        have hge : decide (absU s ≤ (negH H L)) = false := decide_eq_false (by omega)
        obtain ⟨q, hq⟩ : ∃ q : Int, q = dq (negH H L) (negL L) (absU s) := ⟨_, rfl⟩
        obtain ⟨r, hr⟩ : ∃ r : Int, r = dr (negH H L) (negL L) (absU s) := ⟨_, rfl⟩
        rw [← hq, ← hr] at qb
        simp only [← hq, ← hr] at ds dv
        obtain ⟨Q, eQ⟩ := natU (wrap64 q)
        have fi := fitsX 0 (wrap64 q) 8 _ _ true (widSx (wrap64 q) 8 _ (si _ Q (wrap64_wf _) eQ))
        rw [fitP8 qb.1.1 qb.1.2 eQ] at fi
        have wQ := widUx (wrap64 q) 8 _ (un _ Q eQ)
        have zq := zr _ Q eQ
        obtain ⟨R, eR⟩ := natU (wrap64 (-r))
        rw [w64_neg] at ds
        have wR := widUx (wrap64 (-r)) 8 _ (un _ R eR)
        have zrr' := zr _ R eR
        have zrr : ∀ w, Calls Tryd.prog 64 #[.int .i64 (wrap64 (IntKind.u64.wrap (-r))), .int .i64 8] w fun e w' => e = .returned (.int .i64 (wrap64 ((R % 2 ^ (8 * 8) : Nat) : Int))) ∧ w = w' := fun w => by rw [w64_u]; exact zrr' w
        by_cases hov' : 9223372036854775808 < q
        · have hov : decide (9223372036854775808 < q) = true := decide_eq_true hov'
          rw [hov, Bool.true_or, Bool.not_true] at fi
          by_cases hL0 : L = 0
          · have e0 : negL L = 0 := by unfold negL; omega
            have eh : negH H L = (18446744073709551616 - H) % 18446744073709551616 := by unfold negH; rw [if_pos hL0]
            have nh0 := nh
            have nl0 : IntKind.u64.wrap (-L) = 0 := by rw [wrapU]; omega
            have nh2 : IntKind.u64.wrap (18446744073709551615 - H + 1) = negH H L := by rw [eh, wrapU]; omega
            have hgeW := hge
            have dvW := dv
            rw [e0] at dvW
            have sp := divS16BT0T8 h l d H L (18446744073709551615 - H) (negH H L) 0 _ s (absU s) q r 0 (IntKind.u64.wrap (-r)) 0 0 hmi nh0 nl0 nh2 hsn hgeW hov jS zd sd' us dvW
            exact ⟨_, _, 16, fun w => divI16N 8 h l d _ _ _ _ _ _ _ 0 0 0 0 hn jI wD ds fi w, DivS16N 8 h l d _ _ hn sp⟩
          · have eh : negH H L = 18446744073709551615 - H := by unfold negH; rw [if_neg hL0]
            have nh1 : bits .xor .u64 IntKind.u64.max H = negH H L := by rw [nh, eh]
            have nl1 : IntKind.u64.wrap (-L) = negL L := by rw [wrapU]; unfold negL; omega
            have nz1 : (negL L == 0) = false := beq_eq_false_iff_ne.mpr (by unfold negL; omega)
            have hgeW := hge
            have dvW := dv
            have sp := divS16BT1T8 h l d H L (negH H L) 0 (negL L) _ s (absU s) q r 0 (IntKind.u64.wrap (-r)) 0 0 hmi nh1 nl1 nz1 hsn hgeW hov jS zd sd' us dvW
            exact ⟨_, _, 16, fun w => divI16N 8 h l d _ _ _ _ _ _ _ 0 0 0 0 hn jI wD ds fi w, DivS16N 8 h l d _ _ hn sp⟩
        · have hov : decide (9223372036854775808 < q) = false := decide_eq_false hov'
          by_cases heq' : q = 9223372036854775808
          · have heq : (q == 9223372036854775808) = true := beq_iff_eq.mpr heq'
            rw [hov, heq, Bool.false_or, Bool.not_true] at fi
            by_cases hL0 : L = 0
            · have e0 : negL L = 0 := by unfold negL; omega
              have eh : negH H L = (18446744073709551616 - H) % 18446744073709551616 := by unfold negH; rw [if_pos hL0]
              have nh0 := nh
              have nl0 : IntKind.u64.wrap (-L) = 0 := by rw [wrapU]; omega
              have nh2 : IntKind.u64.wrap (18446744073709551615 - H + 1) = negH H L := by rw [eh, wrapU]; omega
              have hgeW := hge
              have dvW := dv
              rw [e0] at dvW
              have sp := divS16ET0T8 h l d H L (18446744073709551615 - H) (negH H L) 0 _ s (absU s) q r 0 (IntKind.u64.wrap (-r)) 0 0 hmi nh0 nl0 nh2 hsn hgeW hov heq jS zd sd' us dvW
              exact ⟨_, _, 16, fun w => divI16N 8 h l d _ _ _ _ _ _ _ 0 0 0 0 hn jI wD ds fi w, DivS16N 8 h l d _ _ hn sp⟩
            · have eh : negH H L = 18446744073709551615 - H := by unfold negH; rw [if_neg hL0]
              have nh1 : bits .xor .u64 IntKind.u64.max H = negH H L := by rw [nh, eh]
              have nl1 : IntKind.u64.wrap (-L) = negL L := by rw [wrapU]; unfold negL; omega
              have nz1 : (negL L == 0) = false := beq_eq_false_iff_ne.mpr (by unfold negL; omega)
              have hgeW := hge
              have dvW := dv
              have sp := divS16ET1T8 h l d H L (negH H L) 0 (negL L) _ s (absU s) q r 0 (IntKind.u64.wrap (-r)) 0 0 hmi nh1 nl1 nz1 hsn hgeW hov heq jS zd sd' us dvW
              exact ⟨_, _, 16, fun w => divI16N 8 h l d _ _ _ _ _ _ _ 0 0 0 0 hn jI wD ds fi w, DivS16N 8 h l d _ _ hn sp⟩
          · have heq : (q == 9223372036854775808) = false := beq_eq_false_iff_ne.mpr heq'
            rw [hov, heq, Bool.false_or, Bool.not_false] at fi
            by_cases hL0 : L = 0
            · have e0 : negL L = 0 := by unfold negL; omega
              have eh : negH H L = (18446744073709551616 - H) % 18446744073709551616 := by unfold negH; rw [if_pos hL0]
              have nh0 := nh
              have nl0 : IntKind.u64.wrap (-L) = 0 := by rw [wrapU]; omega
              have nh2 : IntKind.u64.wrap (18446744073709551615 - H + 1) = negH H L := by rw [eh, wrapU]; omega
              have hgeW := hge
              have dvW := dv
              rw [e0] at dvW
              have sp := divS16YnT0T8 h l d H L (18446744073709551615 - H) (negH H L) 0 _ s (absU s) q r 0 (IntKind.u64.wrap (-r)) _ _ hmi nh0 nl0 nh2 hsn hgeW hov heq rfl jS zd sd' us dvW zq zrr
              exact ⟨_, _, 0, fun w => divI16Y 8 h l d _ _ _ _ _ _ _ _ _ _ _ hn jI wD ds fi wQ wR w, DivS16Y 8 h l d _ _ hn sp⟩
            · have eh : negH H L = 18446744073709551615 - H := by unfold negH; rw [if_neg hL0]
              have nh1 : bits .xor .u64 IntKind.u64.max H = negH H L := by rw [nh, eh]
              have nl1 : IntKind.u64.wrap (-L) = negL L := by rw [wrapU]; unfold negL; omega
              have nz1 : (negL L == 0) = false := beq_eq_false_iff_ne.mpr (by unfold negL; omega)
              have hgeW := hge
              have dvW := dv
              have sp := divS16YnT1T8 h l d H L (negH H L) 0 (negL L) _ s (absU s) q r 0 (IntKind.u64.wrap (-r)) _ _ hmi nh1 nl1 nz1 hsn hgeW hov heq rfl jS zd sd' us dvW zq zrr
              exact ⟨_, _, 0, fun w => divI16Y 8 h l d _ _ _ _ _ _ _ _ _ _ _ hn jI wD ds fi wQ wR w, DivS16Y 8 h l d _ _ hn sp⟩
      · have ds := dsNoTT hH.1 hH.2 hL.1 hL.2 sb.1 sb.2 hm' hsn hlt
        have hge : decide (absU s ≤ (negH H L)) = true := decide_eq_true (by omega)
        by_cases hL0 : L = 0
        · have eh : negH H L = (18446744073709551616 - H) % 18446744073709551616 := by unfold negH; rw [if_pos hL0]
          have nl0 : IntKind.u64.wrap (-L) = 0 := by rw [wrapU]; omega
          have nh2 : IntKind.u64.wrap (18446744073709551615 - H + 1) = negH H L := by rw [eh, wrapU]; omega
          have sp := divS16AT0T8 h l d H L (18446744073709551615 - H) (negH H L) 0 _ s (absU s) 0 0 0 0 0 0 hmi nh nl0 nh2 hsn hge jS zd sd' us
          exact ⟨_, _, 16, fun w => divI16K 8 h l d _ _ _ _ _ _ _ 0 0 0 0 hn jI wD ds w, DivS16N 8 h l d _ _ hn sp⟩
        · have eh : negH H L = 18446744073709551615 - H := by unfold negH; rw [if_neg hL0]
          have nh1 : bits .xor .u64 IntKind.u64.max H = negH H L := by rw [nh, eh]
          have nl1 : IntKind.u64.wrap (-L) = negL L := by rw [wrapU]; unfold negL; omega
          have nz1 : (negL L == 0) = false := beq_eq_false_iff_ne.mpr (by unfold negL; omega)
          have sp := divS16AT1T8 h l d H L (negH H L) 0 (negL L) _ s (absU s) 0 0 0 0 0 0 hmi nh1 nl1 nz1 hsn hge jS zd sd' us
          exact ⟨_, _, 16, fun w => divI16K 8 h l d _ _ _ _ _ _ _ 0 0 0 0 hn jI wD ds w, DivS16N 8 h l d _ _ hn sp⟩
end Go.Proofs.YtbcbepdfijcbmaaDoor
