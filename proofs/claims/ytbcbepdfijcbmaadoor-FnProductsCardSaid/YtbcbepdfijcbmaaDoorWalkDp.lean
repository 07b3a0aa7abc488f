/-
  Divide without signs, its numbers told where the dividend is a product of the divisor, and where the divisor is zero; conditions: those in each head.
-/
import Derived.Test.YtbcbepdfijcbmaaDoorWalkDx2
namespace Go.Proofs.YtbcbepdfijcbmaaDoor
open Go.RowKit
set_option linter.unusedVariables false
theorem dq_prod {H L u v : Int} (hv : v ≠ 0) (e : H * 18446744073709551616 + L = u * v) : dq H L v = u ∧ dr H L v = 0 := by
  unfold dq dr; rw [e]
  exact ⟨Int.mul_ediv_cancel u hv, Int.mul_emod_left u v⟩
theorem hi_lt {H L u v : Int} (h0 : 0 ≤ L) (hu : 0 ≤ u ∧ u < 18446744073709551616) (hv : 0 < v) (e : H * 18446744073709551616 + L = u * v) : H < v := by
  have : u * v ≤ 18446744073709551615 * v := Int.mul_le_mul_of_nonneg_right (by omega) (by omega)
  omega
theorem joP1 (h l : Int) (hh : (Lit.int .i64 h).wf = true) (hl : (Lit.int .i64 l).wf = true) : ∃ H L : Int, (0 ≤ H ∧ H < 18446744073709551616) ∧ (0 ≤ L ∧ L < 18446744073709551616) ∧ H * 18446744073709551616 + L = h % 256 * 256 + l % 256 ∧
    (∀ w, Calls Tryd.prog 54 #[.int .i64 h, .int .i64 l, .int .i64 1, .bool false] w fun e w' => e = .returned (.agg #[.int .i64 (wrap64 H), .int .i64 (wrap64 L)]) ∧ Below w.heap.size w w') := by
  obtain ⟨X, hX⟩ := natU h
  obtain ⟨Y, hY⟩ := natU l
  have un (v : Int) (V : Nat) (hV : IntKind.u64.wrap v = (V : Int)) (w : World) : Calls Tryd.prog 46 #[.int .i64 v, .int .i64 1] w fun e w' => e = .returned (.tuple #[.int .i64 (wrap64 ((V % 2 ^ (8 * 1) : Nat) : Int)), .nilIface]) ∧ w = w' := by
    rw [eqZ1 hV]; exact unsigned1 v w
  have zr (v : Int) (V : Nat) (hV : IntKind.u64.wrap v = (V : Int)) (w : World) := specZeroL v V 1 w hV (by decide) (by decide)
  obtain ⟨V, hV, hV2, hor⟩ := orI1 X Y hX
  have uV : IntKind.u64.wrap (wrap64 (V : Int)) = (V : Int) := u_w64 (by omega) (by omega)
  have hI := joinX1 h l 0 _ _ 0 _ false hor (widUx l 1 _ (un l Y hY)) (widUx (wrap64 (V : Int)) 2 _ (fun w => unsigned2 _ w))
  clear hor
  rw [← eqZ2 uV, show (2 : Nat) ^ (8 * 2) = 65536 from rfl, hV] at hI
  refine ⟨0, ((X % 256 * 256 + Y % 256 : Nat) : Int), by decide, ?_, ?_, fun w => by rw [w00]; exact hI w⟩
  · omega
  · clear hI hV hV2 uV; rw [wrapU] at hX hY; omega
set_option maxHeartbeats 1000000 in
theorem divP15_1 (h l d u : Int) (hh : (Lit.int .i64 h).wf = true) (hl : (Lit.int .i64 l).wf = true) (hd : (Lit.int .i64 d).wf = true) (hu : 0 ≤ u ∧ u < 256) (hP : h % 256 * 256 + l % 256 = u * (d % 256)) (hd0 : d % 256 ≠ 0) :
    ∀ w, Calls Tryd.prog 24 #[.int .i64 15, .int .i64 1, .int .i64 h, .int .i64 l, .int .i64 d] w fun e w' => e = .returned (.tuple #[.int .i64 (wrap64 u), .int .i64 0, .int .i64 0]) ∧ Below w.heap.size w w' := by
  obtain ⟨D, hD⟩ := natU d
  have hn : okSize (1 : Int) := by unfold okSize; omega
  have hDl : D < 18446744073709551616 := by rw [wrapU] at hD; omega
  have un (v : Int) (V : Nat) (hV : IntKind.u64.wrap v = (V : Int)) (w : World) : Calls Tryd.prog 46 #[.int .i64 v, .int .i64 1] w fun e w' => e = .returned (.tuple #[.int .i64 (wrap64 ((V % 2 ^ (8 * 1) : Nat) : Int)), .nilIface]) ∧ w = w' := by
    rw [eqZ1 hV]; exact unsigned1 v w
  have zr (v : Int) (V : Nat) (hV : IntKind.u64.wrap v = (V : Int)) (w : World) := specZeroL v V 1 w hV (by decide) (by decide)
  obtain ⟨H, L, hH, hL, eHL, jI⟩ := joP1 h l hh hl
  obtain ⟨x, hx⟩ : ∃ x : Int, x = wrap64 ((D % 2 ^ (8 * 1) : Nat) : Int) := ⟨_, rfl⟩
  have wD := widUx d 1 _ (un d D hD)
  rw [← hx] at wD
  obtain ⟨y, hy⟩ : ∃ y : Int, y = IntKind.u64.wrap x := ⟨_, rfl⟩
  have ey : y = ((D % 256 : Nat) : Int) := by rw [hy, hx, show (2 : Nat) ^ (8 * 1) = 256 from rfl]; exact u_w64 (by omega) (by omega)
  have ex : wrap64 y = x := by rw [hy, w64_u, hx]; exact w64_w64 _
  clear hx
  have hyb : 0 ≤ y ∧ y < 256 := by rw [ey]; omega
  have eyd : y = d % 256 := by rw [ey]; clear ey hy ex; rw [wrapU] at hD; omega
  rw [← eyd] at hP hd0
  rw [hP] at eHL
  have hlt : H < y := hi_lt hL.1 (by omega) (by omega) eHL
  obtain ⟨q1, q2⟩ := dq_prod hd0 eHL
  have qb := dq_b hH.1 hlt hL.1 hL.2
  have dw := fun w => dwYes hH.1 hlt hL.1 hL.2 (by omega : y < 18446744073709551616) w
  simp only [ex, q1, q2] at dw
  have pl := plainX (wrap64 H) (wrap64 L) 0 x _ _ _ dw
  obtain ⟨Q, eQ⟩ := natU (wrap64 u)
  obtain ⟨R, eR⟩ := natU (wrap64 0)
  have wQ := widUx (wrap64 u) 1 _ (un _ Q eQ)
  have wR := widUx (wrap64 0) 1 _ (un _ R eR)
  have fi := fitsX 0 (wrap64 u) 1 _ _ false wQ
  rw [fitU1 hu.1 (by omega) eQ, show ((0 : Int) == 0) = true from rfl, Bool.true_and] at fi
  rw [lowU1 (by decide) (by decide) eR] at wR
  have hfb : (u / 256 == 0) = true := by rw [Int.ediv_eq_zero_of_lt hu.1 hu.2]; rfl
  rw [hfb] at fi
  rw [lowU1 hu.1 (by omega) eQ] at wQ
  intro w
  have fin := divI15Y 1 h l d _ _ _ _ _ _ _ _ _ _ _ hn jI wD pl fi wQ wR w
  rw [w00] at fin
  exact fin
set_option maxHeartbeats 1000000 in
theorem divZ15_1 (h l d : Int) (hh : (Lit.int .i64 h).wf = true) (hl : (Lit.int .i64 l).wf = true) (hd : (Lit.int .i64 d).wf = true) (hd0 : d % 256 = 0) :
    ∃ q r, ∀ w, Calls Tryd.prog 24 #[.int .i64 15, .int .i64 1, .int .i64 h, .int .i64 l, .int .i64 d] w fun e w' => e = .returned (.tuple #[.int .i64 q, .int .i64 r, .int .i64 16]) ∧ Below w.heap.size w w' := by
  obtain ⟨D, hD⟩ := natU d
  have hn : okSize (1 : Int) := by unfold okSize; omega
  have hDl : D < 18446744073709551616 := by rw [wrapU] at hD; omega
  have un (v : Int) (V : Nat) (hV : IntKind.u64.wrap v = (V : Int)) (w : World) : Calls Tryd.prog 46 #[.int .i64 v, .int .i64 1] w fun e w' => e = .returned (.tuple #[.int .i64 (wrap64 ((V % 2 ^ (8 * 1) : Nat) : Int)), .nilIface]) ∧ w = w' := by
    rw [eqZ1 hV]; exact unsigned1 v w
  have zr (v : Int) (V : Nat) (hV : IntKind.u64.wrap v = (V : Int)) (w : World) := specZeroL v V 1 w hV (by decide) (by decide)
  obtain ⟨H, L, hH, hL, eHL, jI⟩ := joP1 h l hh hl
  obtain ⟨x, hx⟩ : ∃ x : Int, x = wrap64 ((D % 2 ^ (8 * 1) : Nat) : Int) := ⟨_, rfl⟩
  have wD := widUx d 1 _ (un d D hD)
  rw [← hx] at wD
  obtain ⟨y, hy⟩ : ∃ y : Int, y = IntKind.u64.wrap x := ⟨_, rfl⟩
  have ey : y = ((D % 256 : Nat) : Int) := by rw [hy, hx, show (2 : Nat) ^ (8 * 1) = 256 from rfl]; exact u_w64 (by omega) (by omega)
  have ex : wrap64 y = x := by rw [hy, w64_u, hx]; exact w64_w64 _
  clear hx
  have hyb : 0 ≤ y ∧ y < 256 := by rw [ey]; omega
  have eyd : y = d % 256 := by rw [ey]; clear ey hy ex; rw [wrapU] at hD; omega
  have hlt : ¬ H < y := by omega
  have dw := fun w => dwNo (l := L) hH.1 hH.2 hlt hyb.1 (by omega : y < 18446744073709551616) w
  simp only [ex] at dw
  have pl := plainX (wrap64 H) (wrap64 L) 0 x _ _ _ dw
  exact ⟨_, _, fun w => divI15K 1 h l d _ _ _ _ _ _ _ 0 0 0 0 hn jI wD pl w⟩
theorem joP2 (h l : Int) (hh : (Lit.int .i64 h).wf = true) (hl : (Lit.int .i64 l).wf = true) : ∃ H L : Int, (0 ≤ H ∧ H < 18446744073709551616) ∧ (0 ≤ L ∧ L < 18446744073709551616) ∧ H * 18446744073709551616 + L = h % 65536 * 65536 + l % 65536 ∧
    (∀ w, Calls Tryd.prog 54 #[.int .i64 h, .int .i64 l, .int .i64 2, .bool false] w fun e w' => e = .returned (.agg #[.int .i64 (wrap64 H), .int .i64 (wrap64 L)]) ∧ Below w.heap.size w w') := by
  obtain ⟨X, hX⟩ := natU h
  obtain ⟨Y, hY⟩ := natU l
  have un (v : Int) (V : Nat) (hV : IntKind.u64.wrap v = (V : Int)) (w : World) : Calls Tryd.prog 46 #[.int .i64 v, .int .i64 2] w fun e w' => e = .returned (.tuple #[.int .i64 (wrap64 ((V % 2 ^ (8 * 2) : Nat) : Int)), .nilIface]) ∧ w = w' := by
    rw [eqZ2 hV]; exact unsigned2 v w
  have zr (v : Int) (V : Nat) (hV : IntKind.u64.wrap v = (V : Int)) (w : World) := specZeroL v V 2 w hV (by decide) (by decide)
  obtain ⟨V, hV, hV2, hor⟩ := orI2 X Y hX
  have uV : IntKind.u64.wrap (wrap64 (V : Int)) = (V : Int) := u_w64 (by omega) (by omega)
  have hI := joinX2 h l 0 _ _ 0 _ false hor (widUx l 2 _ (un l Y hY)) (widUx (wrap64 (V : Int)) 4 _ (fun w => unsigned4 _ w))
  clear hor
  rw [← eqZ4 uV, show (2 : Nat) ^ (8 * 4) = 4294967296 from rfl, hV] at hI
  refine ⟨0, ((X % 65536 * 65536 + Y % 65536 : Nat) : Int), by decide, ?_, ?_, fun w => by rw [w00]; exact hI w⟩
  · omega
  · clear hI hV hV2 uV; rw [wrapU] at hX hY; omega
set_option maxHeartbeats 1000000 in
theorem divP15_2 (h l d u : Int) (hh : (Lit.int .i64 h).wf = true) (hl : (Lit.int .i64 l).wf = true) (hd : (Lit.int .i64 d).wf = true) (hu : 0 ≤ u ∧ u < 65536) (hP : h % 65536 * 65536 + l % 65536 = u * (d % 65536)) (hd0 : d % 65536 ≠ 0) :
    ∀ w, Calls Tryd.prog 24 #[.int .i64 15, .int .i64 2, .int .i64 h, .int .i64 l, .int .i64 d] w fun e w' => e = .returned (.tuple #[.int .i64 (wrap64 u), .int .i64 0, .int .i64 0]) ∧ Below w.heap.size w w' := by
  obtain ⟨D, hD⟩ := natU d
  have hn : okSize (2 : Int) := by unfold okSize; omega
  have hDl : D < 18446744073709551616 := by rw [wrapU] at hD; omega
  have un (v : Int) (V : Nat) (hV : IntKind.u64.wrap v = (V : Int)) (w : World) : Calls Tryd.prog 46 #[.int .i64 v, .int .i64 2] w fun e w' => e = .returned (.tuple #[.int .i64 (wrap64 ((V % 2 ^ (8 * 2) : Nat) : Int)), .nilIface]) ∧ w = w' := by
    rw [eqZ2 hV]; exact unsigned2 v w
  have zr (v : Int) (V : Nat) (hV : IntKind.u64.wrap v = (V : Int)) (w : World) := specZeroL v V 2 w hV (by decide) (by decide)
  obtain ⟨H, L, hH, hL, eHL, jI⟩ := joP2 h l hh hl
  obtain ⟨x, hx⟩ : ∃ x : Int, x = wrap64 ((D % 2 ^ (8 * 2) : Nat) : Int) := ⟨_, rfl⟩
  have wD := widUx d 2 _ (un d D hD)
  rw [← hx] at wD
  obtain ⟨y, hy⟩ : ∃ y : Int, y = IntKind.u64.wrap x := ⟨_, rfl⟩
  have ey : y = ((D % 65536 : Nat) : Int) := by rw [hy, hx, show (2 : Nat) ^ (8 * 2) = 65536 from rfl]; exact u_w64 (by omega) (by omega)
  have ex : wrap64 y = x := by rw [hy, w64_u, hx]; exact w64_w64 _
  clear hx
  have hyb : 0 ≤ y ∧ y < 65536 := by rw [ey]; omega
  have eyd : y = d % 65536 := by rw [ey]; clear ey hy ex; rw [wrapU] at hD; omega
  rw [← eyd] at hP hd0
  rw [hP] at eHL
  have hlt : H < y := hi_lt hL.1 (by omega) (by omega) eHL
  obtain ⟨q1, q2⟩ := dq_prod hd0 eHL
  have qb := dq_b hH.1 hlt hL.1 hL.2
  have dw := fun w => dwYes hH.1 hlt hL.1 hL.2 (by omega : y < 18446744073709551616) w
  simp only [ex, q1, q2] at dw
  have pl := plainX (wrap64 H) (wrap64 L) 0 x _ _ _ dw
  obtain ⟨Q, eQ⟩ := natU (wrap64 u)
  obtain ⟨R, eR⟩ := natU (wrap64 0)
  have wQ := widUx (wrap64 u) 2 _ (un _ Q eQ)
  have wR := widUx (wrap64 0) 2 _ (un _ R eR)
  have fi := fitsX 0 (wrap64 u) 2 _ _ false wQ
  rw [fitU2 hu.1 (by omega) eQ, show ((0 : Int) == 0) = true from rfl, Bool.true_and] at fi
  rw [lowU2 (by decide) (by decide) eR] at wR
  have hfb : (u / 65536 == 0) = true := by rw [Int.ediv_eq_zero_of_lt hu.1 hu.2]; rfl
  rw [hfb] at fi
  rw [lowU2 hu.1 (by omega) eQ] at wQ
  intro w
  have fin := divI15Y 2 h l d _ _ _ _ _ _ _ _ _ _ _ hn jI wD pl fi wQ wR w
  rw [w00] at fin
  exact fin
set_option maxHeartbeats 1000000 in
theorem divZ15_2 (h l d : Int) (hh : (Lit.int .i64 h).wf = true) (hl : (Lit.int .i64 l).wf = true) (hd : (Lit.int .i64 d).wf = true) (hd0 : d % 65536 = 0) :
    ∃ q r, ∀ w, Calls Tryd.prog 24 #[.int .i64 15, .int .i64 2, .int .i64 h, .int .i64 l, .int .i64 d] w fun e w' => e = .returned (.tuple #[.int .i64 q, .int .i64 r, .int .i64 16]) ∧ Below w.heap.size w w' := by
  obtain ⟨D, hD⟩ := natU d
  have hn : okSize (2 : Int) := by unfold okSize; omega
  have hDl : D < 18446744073709551616 := by rw [wrapU] at hD; omega
  have un (v : Int) (V : Nat) (hV : IntKind.u64.wrap v = (V : Int)) (w : World) : Calls Tryd.prog 46 #[.int .i64 v, .int .i64 2] w fun e w' => e = .returned (.tuple #[.int .i64 (wrap64 ((V % 2 ^ (8 * 2) : Nat) : Int)), .nilIface]) ∧ w = w' := by
    rw [eqZ2 hV]; exact unsigned2 v w
  have zr (v : Int) (V : Nat) (hV : IntKind.u64.wrap v = (V : Int)) (w : World) := specZeroL v V 2 w hV (by decide) (by decide)
  obtain ⟨H, L, hH, hL, eHL, jI⟩ := joP2 h l hh hl
  obtain ⟨x, hx⟩ : ∃ x : Int, x = wrap64 ((D % 2 ^ (8 * 2) : Nat) : Int) := ⟨_, rfl⟩
  have wD := widUx d 2 _ (un d D hD)
  rw [← hx] at wD
  obtain ⟨y, hy⟩ : ∃ y : Int, y = IntKind.u64.wrap x := ⟨_, rfl⟩
  have ey : y = ((D % 65536 : Nat) : Int) := by rw [hy, hx, show (2 : Nat) ^ (8 * 2) = 65536 from rfl]; exact u_w64 (by omega) (by omega)
  have ex : wrap64 y = x := by rw [hy, w64_u, hx]; exact w64_w64 _
  clear hx
  have hyb : 0 ≤ y ∧ y < 65536 := by rw [ey]; omega
  have eyd : y = d % 65536 := by rw [ey]; clear ey hy ex; rw [wrapU] at hD; omega
  have hlt : ¬ H < y := by omega
  have dw := fun w => dwNo (l := L) hH.1 hH.2 hlt hyb.1 (by omega : y < 18446744073709551616) w
  simp only [ex] at dw
  have pl := plainX (wrap64 H) (wrap64 L) 0 x _ _ _ dw
  exact ⟨_, _, fun w => divI15K 2 h l d _ _ _ _ _ _ _ 0 0 0 0 hn jI wD pl w⟩
theorem joP4 (h l : Int) (hh : (Lit.int .i64 h).wf = true) (hl : (Lit.int .i64 l).wf = true) : ∃ H L : Int, (0 ≤ H ∧ H < 18446744073709551616) ∧ (0 ≤ L ∧ L < 18446744073709551616) ∧ H * 18446744073709551616 + L = h % 4294967296 * 4294967296 + l % 4294967296 ∧
    (∀ w, Calls Tryd.prog 54 #[.int .i64 h, .int .i64 l, .int .i64 4, .bool false] w fun e w' => e = .returned (.agg #[.int .i64 (wrap64 H), .int .i64 (wrap64 L)]) ∧ Below w.heap.size w w') := by
  obtain ⟨X, hX⟩ := natU h
  obtain ⟨Y, hY⟩ := natU l
  have un (v : Int) (V : Nat) (hV : IntKind.u64.wrap v = (V : Int)) (w : World) : Calls Tryd.prog 46 #[.int .i64 v, .int .i64 4] w fun e w' => e = .returned (.tuple #[.int .i64 (wrap64 ((V % 2 ^ (8 * 4) : Nat) : Int)), .nilIface]) ∧ w = w' := by
    rw [eqZ4 hV]; exact unsigned4 v w
  have zr (v : Int) (V : Nat) (hV : IntKind.u64.wrap v = (V : Int)) (w : World) := specZeroL v V 4 w hV (by decide) (by decide)
  obtain ⟨V, hV, hV2, hor⟩ := orI4 X Y hX
  have uV : IntKind.u64.wrap (wrap64 (V : Int)) = (V : Int) := u_w64 (by omega) (by omega)
  have hI := joinX4 h l 0 _ _ 0 _ false hor (widUx l 4 _ (un l Y hY)) (widUx (wrap64 (V : Int)) 8 _ (fun w => unsigned8 _ w))
  clear hor
  rw [← eqZ8 uV, show (2 : Nat) ^ (8 * 8) = 18446744073709551616 from rfl, hV] at hI
  refine ⟨0, ((X % 4294967296 * 4294967296 + Y % 4294967296 : Nat) : Int), by decide, ?_, ?_, fun w => by rw [w00]; exact hI w⟩
  · omega
  · clear hI hV hV2 uV; rw [wrapU] at hX hY; omega
set_option maxHeartbeats 1000000 in
theorem divP15_4 (h l d u : Int) (hh : (Lit.int .i64 h).wf = true) (hl : (Lit.int .i64 l).wf = true) (hd : (Lit.int .i64 d).wf = true) (hu : 0 ≤ u ∧ u < 4294967296) (hP : h % 4294967296 * 4294967296 + l % 4294967296 = u * (d % 4294967296)) (hd0 : d % 4294967296 ≠ 0) :
    ∀ w, Calls Tryd.prog 24 #[.int .i64 15, .int .i64 4, .int .i64 h, .int .i64 l, .int .i64 d] w fun e w' => e = .returned (.tuple #[.int .i64 (wrap64 u), .int .i64 0, .int .i64 0]) ∧ Below w.heap.size w w' := by
  obtain ⟨D, hD⟩ := natU d
  have hn : okSize (4 : Int) := by unfold okSize; omega
  have hDl : D < 18446744073709551616 := by rw [wrapU] at hD; omega
  have un (v : Int) (V : Nat) (hV : IntKind.u64.wrap v = (V : Int)) (w : World) : Calls Tryd.prog 46 #[.int .i64 v, .int .i64 4] w fun e w' => e = .returned (.tuple #[.int .i64 (wrap64 ((V % 2 ^ (8 * 4) : Nat) : Int)), .nilIface]) ∧ w = w' := by
    rw [eqZ4 hV]; exact unsigned4 v w
  have zr (v : Int) (V : Nat) (hV : IntKind.u64.wrap v = (V : Int)) (w : World) := specZeroL v V 4 w hV (by decide) (by decide)
  obtain ⟨H, L, hH, hL, eHL, jI⟩ := joP4 h l hh hl
  obtain ⟨x, hx⟩ : ∃ x : Int, x = wrap64 ((D % 2 ^ (8 * 4) : Nat) : Int) := ⟨_, rfl⟩
  have wD := widUx d 4 _ (un d D hD)
  rw [← hx] at wD
  obtain ⟨y, hy⟩ : ∃ y : Int, y = IntKind.u64.wrap x := ⟨_, rfl⟩
  have ey : y = ((D % 4294967296 : Nat) : Int) := by rw [hy, hx, show (2 : Nat) ^ (8 * 4) = 4294967296 from rfl]; exact u_w64 (by omega) (by omega)
  have ex : wrap64 y = x := by rw [hy, w64_u, hx]; exact w64_w64 _
  clear hx
  have hyb : 0 ≤ y ∧ y < 4294967296 := by rw [ey]; omega
  have eyd : y = d % 4294967296 := by rw [ey]; clear ey hy ex; rw [wrapU] at hD; omega
  rw [← eyd] at hP hd0
  rw [hP] at eHL
  have hlt : H < y := hi_lt hL.1 (by omega) (by omega) eHL
  obtain ⟨q1, q2⟩ := dq_prod hd0 eHL
  have qb := dq_b hH.1 hlt hL.1 hL.2
  have dw := fun w => dwYes hH.1 hlt hL.1 hL.2 (by omega : y < 18446744073709551616) w
  simp only [ex, q1, q2] at dw
  have pl := plainX (wrap64 H) (wrap64 L) 0 x _ _ _ dw
  obtain ⟨Q, eQ⟩ := natU (wrap64 u)
  obtain ⟨R, eR⟩ := natU (wrap64 0)
  have wQ := widUx (wrap64 u) 4 _ (un _ Q eQ)
  have wR := widUx (wrap64 0) 4 _ (un _ R eR)
  have fi := fitsX 0 (wrap64 u) 4 _ _ false wQ
  rw [fitU4 hu.1 (by omega) eQ, show ((0 : Int) == 0) = true from rfl, Bool.true_and] at fi
  rw [lowU4 (by decide) (by decide) eR] at wR
  have hfb : (u / 4294967296 == 0) = true := by rw [Int.ediv_eq_zero_of_lt hu.1 hu.2]; rfl
  rw [hfb] at fi
  rw [lowU4 hu.1 (by omega) eQ] at wQ
  intro w
  have fin := divI15Y 4 h l d _ _ _ _ _ _ _ _ _ _ _ hn jI wD pl fi wQ wR w
  rw [w00] at fin
  exact fin
set_option maxHeartbeats 1000000 in
theorem divZ15_4 (h l d : Int) (hh : (Lit.int .i64 h).wf = true) (hl : (Lit.int .i64 l).wf = true) (hd : (Lit.int .i64 d).wf = true) (hd0 : d % 4294967296 = 0) :
    ∃ q r, ∀ w, Calls Tryd.prog 24 #[.int .i64 15, .int .i64 4, .int .i64 h, .int .i64 l, .int .i64 d] w fun e w' => e = .returned (.tuple #[.int .i64 q, .int .i64 r, .int .i64 16]) ∧ Below w.heap.size w w' := by
  obtain ⟨D, hD⟩ := natU d
  have hn : okSize (4 : Int) := by unfold okSize; omega
  have hDl : D < 18446744073709551616 := by rw [wrapU] at hD; omega
  have un (v : Int) (V : Nat) (hV : IntKind.u64.wrap v = (V : Int)) (w : World) : Calls Tryd.prog 46 #[.int .i64 v, .int .i64 4] w fun e w' => e = .returned (.tuple #[.int .i64 (wrap64 ((V % 2 ^ (8 * 4) : Nat) : Int)), .nilIface]) ∧ w = w' := by
    rw [eqZ4 hV]; exact unsigned4 v w
  have zr (v : Int) (V : Nat) (hV : IntKind.u64.wrap v = (V : Int)) (w : World) := specZeroL v V 4 w hV (by decide) (by decide)
  obtain ⟨H, L, hH, hL, eHL, jI⟩ := joP4 h l hh hl
  obtain ⟨x, hx⟩ : ∃ x : Int, x = wrap64 ((D % 2 ^ (8 * 4) : Nat) : Int) := ⟨_, rfl⟩
  have wD := widUx d 4 _ (un d D hD)
  rw [← hx] at wD
  obtain ⟨y, hy⟩ : ∃ y : Int, y = IntKind.u64.wrap x := ⟨_, rfl⟩
  have ey : y = ((D % 4294967296 : Nat) : Int) := by rw [hy, hx, show (2 : Nat) ^ (8 * 4) = 4294967296 from rfl]; exact u_w64 (by omega) (by omega)
  have ex : wrap64 y = x := by rw [hy, w64_u, hx]; exact w64_w64 _
  clear hx
  have hyb : 0 ≤ y ∧ y < 4294967296 := by rw [ey]; omega
  have eyd : y = d % 4294967296 := by rw [ey]; clear ey hy ex; rw [wrapU] at hD; omega
  have hlt : ¬ H < y := by omega
  have dw := fun w => dwNo (l := L) hH.1 hH.2 hlt hyb.1 (by omega : y < 18446744073709551616) w
  simp only [ex] at dw
  have pl := plainX (wrap64 H) (wrap64 L) 0 x _ _ _ dw
  exact ⟨_, _, fun w => divI15K 4 h l d _ _ _ _ _ _ _ 0 0 0 0 hn jI wD pl w⟩
theorem joP8 (h l : Int) (hh : (Lit.int .i64 h).wf = true) (hl : (Lit.int .i64 l).wf = true) : ∃ H L : Int, (0 ≤ H ∧ H < 18446744073709551616) ∧ (0 ≤ L ∧ L < 18446744073709551616) ∧ H * 18446744073709551616 + L = h % 18446744073709551616 * 18446744073709551616 + l % 18446744073709551616 ∧
    (∀ w, Calls Tryd.prog 54 #[.int .i64 h, .int .i64 l, .int .i64 8, .bool false] w fun e w' => e = .returned (.agg #[.int .i64 (wrap64 H), .int .i64 (wrap64 L)]) ∧ Below w.heap.size w w') := by
  have b1 := bounds_i64 hh
  have b2 := bounds_i64 hl
  refine ⟨IntKind.u64.wrap h, IntKind.u64.wrap l, by rw [wrapU]; omega, by rw [wrapU]; omega, by rw [wrapU, wrapU], fun w => ?_⟩
  have := joinX8 h l false w
  rw [w64_u, w64_u, w64_in b1.1 b1.2, w64_in b2.1 b2.2]
  exact this
set_option maxHeartbeats 1000000 in
theorem divP15_8 (h l d u : Int) (hh : (Lit.int .i64 h).wf = true) (hl : (Lit.int .i64 l).wf = true) (hd : (Lit.int .i64 d).wf = true) (hu : 0 ≤ u ∧ u < 18446744073709551616) (hP : h % 18446744073709551616 * 18446744073709551616 + l % 18446744073709551616 = u * (d % 18446744073709551616)) (hd0 : d % 18446744073709551616 ≠ 0) :
    ∀ w, Calls Tryd.prog 24 #[.int .i64 15, .int .i64 8, .int .i64 h, .int .i64 l, .int .i64 d] w fun e w' => e = .returned (.tuple #[.int .i64 (wrap64 u), .int .i64 0, .int .i64 0]) ∧ Below w.heap.size w w' := by
  obtain ⟨D, hD⟩ := natU d
  have hn : okSize (8 : Int) := by unfold okSize; omega
  have hDl : D < 18446744073709551616 := by rw [wrapU] at hD; omega
  have un (v : Int) (V : Nat) (hV : IntKind.u64.wrap v = (V : Int)) (w : World) : Calls Tryd.prog 46 #[.int .i64 v, .int .i64 8] w fun e w' => e = .returned (.tuple #[.int .i64 (wrap64 ((V % 2 ^ (8 * 8) : Nat) : Int)), .nilIface]) ∧ w = w' := by
    rw [eqZ8 hV]; exact unsigned8 v w
  have zr (v : Int) (V : Nat) (hV : IntKind.u64.wrap v = (V : Int)) (w : World) := specZeroL v V 8 w hV (by decide) (by decide)
  obtain ⟨H, L, hH, hL, eHL, jI⟩ := joP8 h l hh hl
  obtain ⟨x, hx⟩ : ∃ x : Int, x = wrap64 ((D % 2 ^ (8 * 8) : Nat) : Int) := ⟨_, rfl⟩
  have wD := widUx d 8 _ (un d D hD)
  rw [← hx] at wD
  obtain ⟨y, hy⟩ : ∃ y : Int, y = IntKind.u64.wrap x := ⟨_, rfl⟩
  have ey : y = ((D % 18446744073709551616 : Nat) : Int) := by rw [hy, hx, show (2 : Nat) ^ (8 * 8) = 18446744073709551616 from rfl]; exact u_w64 (by omega) (by omega)
  have ex : wrap64 y = x := by rw [hy, w64_u, hx]; exact w64_w64 _
  clear hx
  have hyb : 0 ≤ y ∧ y < 18446744073709551616 := by rw [ey]; omega
  have eyd : y = d % 18446744073709551616 := by rw [ey]; clear ey hy ex; rw [wrapU] at hD; omega
  rw [← eyd] at hP hd0
  rw [hP] at eHL
  have hlt : H < y := hi_lt hL.1 (by omega) (by omega) eHL
  obtain ⟨q1, q2⟩ := dq_prod hd0 eHL
  have qb := dq_b hH.1 hlt hL.1 hL.2
  have dw := fun w => dwYes hH.1 hlt hL.1 hL.2 (by omega : y < 18446744073709551616) w
  simp only [ex, q1, q2] at dw
  have pl := plainX (wrap64 H) (wrap64 L) 0 x _ _ _ dw
  obtain ⟨Q, eQ⟩ := natU (wrap64 u)
  obtain ⟨R, eR⟩ := natU (wrap64 0)
  have wQ := widUx (wrap64 u) 8 _ (un _ Q eQ)
  have wR := widUx (wrap64 0) 8 _ (un _ R eR)
  have fi := fitsX 0 (wrap64 u) 8 _ _ false wQ
  rw [fitU8 hu.1 (by omega) eQ, show ((0 : Int) == 0) = true from rfl, Bool.true_and] at fi
  rw [lowU8 (by decide) (by decide) eR] at wR
  rw [lowU8 hu.1 (by omega) eQ] at wQ
  intro w
  have fin := divI15Y 8 h l d _ _ _ _ _ _ _ _ _ _ _ hn jI wD pl fi wQ wR w
  rw [w00] at fin
  exact fin
set_option maxHeartbeats 1000000 in
theorem divZ15_8 (h l d : Int) (hh : (Lit.int .i64 h).wf = true) (hl : (Lit.int .i64 l).wf = true) (hd : (Lit.int .i64 d).wf = true) (hd0 : d % 18446744073709551616 = 0) :
    ∃ q r, ∀ w, Calls Tryd.prog 24 #[.int .i64 15, .int .i64 8, .int .i64 h, .int .i64 l, .int .i64 d] w fun e w' => e = .returned (.tuple #[.int .i64 q, .int .i64 r, .int .i64 16]) ∧ Below w.heap.size w w' := by
  obtain ⟨D, hD⟩ := natU d
  have hn : okSize (8 : Int) := by unfold okSize; omega
  have hDl : D < 18446744073709551616 := by rw [wrapU] at hD; omega
  have un (v : Int) (V : Nat) (hV : IntKind.u64.wrap v = (V : Int)) (w : World) : Calls Tryd.prog 46 #[.int .i64 v, .int .i64 8] w fun e w' => e = .returned (.tuple #[.int .i64 (wrap64 ((V % 2 ^ (8 * 8) : Nat) : Int)), .nilIface]) ∧ w = w' := by
    rw [eqZ8 hV]; exact unsigned8 v w
  have zr (v : Int) (V : Nat) (hV : IntKind.u64.wrap v = (V : Int)) (w : World) := specZeroL v V 8 w hV (by decide) (by decide)
  obtain ⟨H, L, hH, hL, eHL, jI⟩ := joP8 h l hh hl
  obtain ⟨x, hx⟩ : ∃ x : Int, x = wrap64 ((D % 2 ^ (8 * 8) : Nat) : Int) := ⟨_, rfl⟩
  have wD := widUx d 8 _ (un d D hD)
  rw [← hx] at wD
  obtain ⟨y, hy⟩ : ∃ y : Int, y = IntKind.u64.wrap x := ⟨_, rfl⟩
  have ey : y = ((D % 18446744073709551616 : Nat) : Int) := by rw [hy, hx, show (2 : Nat) ^ (8 * 8) = 18446744073709551616 from rfl]; exact u_w64 (by omega) (by omega)
  have ex : wrap64 y = x := by rw [hy, w64_u, hx]; exact w64_w64 _
  clear hx
  have hyb : 0 ≤ y ∧ y < 18446744073709551616 := by rw [ey]; omega
  have eyd : y = d % 18446744073709551616 := by rw [ey]; clear ey hy ex; rw [wrapU] at hD; omega
  have hlt : ¬ H < y := by omega
  have dw := fun w => dwNo (l := L) hH.1 hH.2 hlt hyb.1 (by omega : y < 18446744073709551616) w
  simp only [ex] at dw
  have pl := plainX (wrap64 H) (wrap64 L) 0 x _ _ _ dw
  exact ⟨_, _, fun w => divI15K 8 h l d _ _ _ _ _ _ _ 0 0 0 0 hn jI wD pl w⟩
end Go.Proofs.YtbcbepdfijcbmaaDoor
