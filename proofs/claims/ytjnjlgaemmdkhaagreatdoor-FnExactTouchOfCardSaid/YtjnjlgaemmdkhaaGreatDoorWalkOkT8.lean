/-
  Ways of l05Shape of spec, by operation; conditions: those in each head.
-/
import Derived.Test.YtjnjlgaemmdkhaaGreatDoorWalkOkT4
namespace Go.Proofs.YtjnjlgaemmdkhaaGreatDoor
open Go.RowKit Go.Sort
set_option linter.unusedVariables false
set_option linter.unusedSimpArgs false
set_option maxRecDepth 100000 in
set_option maxHeartbeats 16000000 in
theorem shp33 (x : Ins) (w : World) (ho : x.op = 33) : Calls Tryz.prog 23 #[.agg (insV x)] w fun e w' => e = .returned (.bool (decide (x.sz = 0) && kin2 [(48, 105)] x.d.k x.s.k && decide (fitP x.s.m 4))) ∧ Below w.heap.size w w' := by
  have CT := Lib.hid (twoS5 x [(48, 105)])
  obtain ⟨b1, q1⟩ : ∃ v, v = kin2 [(48, 105)] x.d.k x.s.k := ⟨_, rfl⟩
  rw [← q1] at CT ⊢
  clear q1
  have CY := Lib.hid (fun h W => sizeYes x.sz W h); have CN := Lib.hid (fun h W => sizeNo x.sz W h)
  have CG := Lib.hid (fun (h : okSize 4) W => fitS5 x.s.m 4 W h)
  obtain ⟨b2, q2⟩ : ∃ v, v = decide (fitP x.s.m 4) := ⟨_, rfl⟩
  rw [← q2] at CG ⊢
  clear q2
  obtain ⟨op, sz, cd, fr, d, s, ln⟩ := x
  have R0 := Lib.hid (heap_alloc_new w (.cells #[.int .i64 op, .int .i64 sz, .int .i64 cd, .int .i64 fr, .int .i64 d.k, .int .i64 d.r, .int .i64 d.b, .int .i64 d.i, .int .i64 d.s, .int .i64 d.d, .int .i64 d.m, .int .i64 s.k, .int .i64 s.r, .int .i64 s.b, .int .i64 s.i, .int .i64 s.s, .int .i64 s.d, .int .i64 s.m, .int .i64 ln] 33))
  have B0 := Lib.hid (belA w (.cells #[.int .i64 op, .int .i64 sz, .int .i64 cd, .int .i64 fr, .int .i64 d.k, .int .i64 d.r, .int .i64 d.b, .int .i64 d.i, .int .i64 d.s, .int .i64 d.d, .int .i64 d.m, .int .i64 s.k, .int .i64 s.r, .int .i64 s.b, .int .i64 s.i, .int .i64 s.s, .int .i64 s.d, .int .i64 s.m, .int .i64 ln] 33))
  simp only at CT CY CN ho CG
  unfold insV insA
  simp only
  rcases ho with rfl
  · have CI1 := Lib.hid (fun W => inNo 33 13 16 W (by decide))
    have CI2 := Lib.hid (fun W => inNo 33 20 24 W (by decide))
    by_cases hz : sz = 0
    · subst hz
      have CZ := Lib.hid (CN.out (by unfold okSize; omega))
      have CF := Lib.hid (CG.out (by unfold okSize; omega))
      clear CG
      rw [decide_eq_true rfl]
      clear CY CN
      cases b1
      · go_enter Tryz.func23, Tryz.ntmps23
        go_wp2_with (first | refine wpList_load_row rfl 33 (.tmp 1) rfl w.heap.size rfl 33 #[.int .i64 33, .int .i64 0, .int .i64 cd, .int .i64 fr, .int .i64 d.k, .int .i64 d.r, .int .i64 d.b, .int .i64 d.i, .int .i64 d.s, .int .i64 d.d, .int .i64 d.m, .int .i64 s.k, .int .i64 s.r, .int .i64 s.b, .int .i64 s.i, .int .i64 s.s, .int .i64 s.d, .int .i64 s.m, .int .i64 ln] (0, 0) _ R0.out Tryz.underlying33 rfl (by kernel_rfl) ?_ | refine load_rowT (by rfl) 33 (.tmp 1) rfl w.heap.size rfl 33 #[.int .i64 33, .int .i64 0, .int .i64 cd, .int .i64 fr, .int .i64 d.k, .int .i64 d.r, .int .i64 d.b, .int .i64 d.i, .int .i64 d.s, .int .i64 d.d, .int .i64 d.m, .int .i64 s.k, .int .i64 s.r, .int .i64 s.b, .int .i64 s.i, .int .i64 s.s, .int .i64 s.d, .int .i64 s.m, .int .i64 ln] (0, 0) _ R0.out Tryz.underlying33 rfl (by kernel_rfl) ?_ | (go_at_call 42; refine (CZ.out _).mono ?_; rintro e wz ⟨rfl, rfl⟩) | (go_at_call 22; with_reducible refine (CI1.out _).mono ?_; rintro e wz ⟨rfl, rfl⟩) | (go_at_call 22; with_reducible refine (CI2.out _).mono ?_; rintro e wz ⟨rfl, rfl⟩) | (go_at_call 44; refine (CF.out _).mono ?_; rintro e wz ⟨rfl, rfl⟩))
        refine (CT.out (w.heap.size + 1) 1 1 _ rfl (by decide) (by simp) (nm2_new _ [(48, 105)] _ _ (by simp))).mono ?_
        rintro e w2 ⟨rfl, hb⟩
        have B2 := Lib.hid (belT B0.out hb)
        have R2 := Lib.hid (rowT R0.out hb)
        clear hb
        go_wp2
        go_ret
        exact ⟨rfl, B2.out⟩
      · go_enter Tryz.func23, Tryz.ntmps23
        go_wp2_with (first | refine wpList_load_row rfl 33 (.tmp 1) rfl w.heap.size rfl 33 #[.int .i64 33, .int .i64 0, .int .i64 cd, .int .i64 fr, .int .i64 d.k, .int .i64 d.r, .int .i64 d.b, .int .i64 d.i, .int .i64 d.s, .int .i64 d.d, .int .i64 d.m, .int .i64 s.k, .int .i64 s.r, .int .i64 s.b, .int .i64 s.i, .int .i64 s.s, .int .i64 s.d, .int .i64 s.m, .int .i64 ln] (0, 0) _ R0.out Tryz.underlying33 rfl (by kernel_rfl) ?_ | refine load_rowT (by rfl) 33 (.tmp 1) rfl w.heap.size rfl 33 #[.int .i64 33, .int .i64 0, .int .i64 cd, .int .i64 fr, .int .i64 d.k, .int .i64 d.r, .int .i64 d.b, .int .i64 d.i, .int .i64 d.s, .int .i64 d.d, .int .i64 d.m, .int .i64 s.k, .int .i64 s.r, .int .i64 s.b, .int .i64 s.i, .int .i64 s.s, .int .i64 s.d, .int .i64 s.m, .int .i64 ln] (0, 0) _ R0.out Tryz.underlying33 rfl (by kernel_rfl) ?_ | (go_at_call 42; refine (CZ.out _).mono ?_; rintro e wz ⟨rfl, rfl⟩) | (go_at_call 22; with_reducible refine (CI1.out _).mono ?_; rintro e wz ⟨rfl, rfl⟩) | (go_at_call 22; with_reducible refine (CI2.out _).mono ?_; rintro e wz ⟨rfl, rfl⟩) | (go_at_call 44; refine (CF.out _).mono ?_; rintro e wz ⟨rfl, rfl⟩))
        refine (CT.out (w.heap.size + 1) 1 1 _ rfl (by decide) (by simp) (nm2_new _ [(48, 105)] _ _ (by simp))).mono ?_
        rintro e w2 ⟨rfl, hb⟩
        have B2 := Lib.hid (belT B0.out hb)
        have R2 := Lib.hid (rowT R0.out hb)
        clear hb
        have c1 := cell_of_row _ _ 1 _ _ _ R2.out
        have c17 := cell_of_row _ _ 17 _ _ _ R2.out
        simp only [List.getElem?_toArray, List.getElem?_cons_zero, List.getElem?_cons_succ] at c1 c17
        go_wp2_with (first | refine wpList_load_row rfl 33 (.tmp 1) rfl w.heap.size rfl 33 #[.int .i64 33, .int .i64 0, .int .i64 cd, .int .i64 fr, .int .i64 d.k, .int .i64 d.r, .int .i64 d.b, .int .i64 d.i, .int .i64 d.s, .int .i64 d.d, .int .i64 d.m, .int .i64 s.k, .int .i64 s.r, .int .i64 s.b, .int .i64 s.i, .int .i64 s.s, .int .i64 s.d, .int .i64 s.m, .int .i64 ln] (0, 0) _ R2.out Tryz.underlying33 rfl (by kernel_rfl) ?_ | refine load_rowT (by rfl) 33 (.tmp 1) rfl w.heap.size rfl 33 #[.int .i64 33, .int .i64 0, .int .i64 cd, .int .i64 fr, .int .i64 d.k, .int .i64 d.r, .int .i64 d.b, .int .i64 d.i, .int .i64 d.s, .int .i64 d.d, .int .i64 d.m, .int .i64 s.k, .int .i64 s.r, .int .i64 s.b, .int .i64 s.i, .int .i64 s.s, .int .i64 s.d, .int .i64 s.m, .int .i64 ln] (0, 0) _ R2.out Tryz.underlying33 rfl (by kernel_rfl) ?_ | (go_at_call 42; refine (CZ.out _).mono ?_; rintro e wz ⟨rfl, rfl⟩) | (go_at_call 22; with_reducible refine (CI1.out _).mono ?_; rintro e wz ⟨rfl, rfl⟩) | (go_at_call 22; with_reducible refine (CI2.out _).mono ?_; rintro e wz ⟨rfl, rfl⟩) | (go_at_call 44; refine (CF.out _).mono ?_; rintro e wz ⟨rfl, rfl⟩))
        go_ret
        exact ⟨rfl, B2.out⟩
    · rw [decide_eq_false hz]
      have hz2 : (sz == 0) = false := beq_eq_false_iff_ne.mpr hz
      clear hz
      have CF := Lib.hid (CG.out (by unfold okSize; omega))
      clear CG
      by_cases hy : okSize sz
      · have CZ := Lib.hid (CY.out hy)
        clear CY CN hy
        go_enter Tryz.func23, Tryz.ntmps23
        go_wp2_with (first | refine wpList_load_row rfl 33 (.tmp 1) rfl w.heap.size rfl 33 #[.int .i64 33, .int .i64 sz, .int .i64 cd, .int .i64 fr, .int .i64 d.k, .int .i64 d.r, .int .i64 d.b, .int .i64 d.i, .int .i64 d.s, .int .i64 d.d, .int .i64 d.m, .int .i64 s.k, .int .i64 s.r, .int .i64 s.b, .int .i64 s.i, .int .i64 s.s, .int .i64 s.d, .int .i64 s.m, .int .i64 ln] (0, 0) _ R0.out Tryz.underlying33 rfl (by kernel_rfl) ?_ | refine load_rowT (by rfl) 33 (.tmp 1) rfl w.heap.size rfl 33 #[.int .i64 33, .int .i64 sz, .int .i64 cd, .int .i64 fr, .int .i64 d.k, .int .i64 d.r, .int .i64 d.b, .int .i64 d.i, .int .i64 d.s, .int .i64 d.d, .int .i64 d.m, .int .i64 s.k, .int .i64 s.r, .int .i64 s.b, .int .i64 s.i, .int .i64 s.s, .int .i64 s.d, .int .i64 s.m, .int .i64 ln] (0, 0) _ R0.out Tryz.underlying33 rfl (by kernel_rfl) ?_ | (go_at_call 42; refine (CZ.out _).mono ?_; rintro e wz ⟨rfl, rfl⟩) | (go_at_call 22; with_reducible refine (CI1.out _).mono ?_; rintro e wz ⟨rfl, rfl⟩) | (go_at_call 22; with_reducible refine (CI2.out _).mono ?_; rintro e wz ⟨rfl, rfl⟩) | (go_at_call 44; refine (CF.out _).mono ?_; rintro e wz ⟨rfl, rfl⟩))
        go_ret
        exact ⟨rfl, B0.out⟩
      · have CZ := Lib.hid (CN.out hy)
        clear CY CN hy
        go_enter Tryz.func23, Tryz.ntmps23
        go_wp2_with (first | refine wpList_load_row rfl 33 (.tmp 1) rfl w.heap.size rfl 33 #[.int .i64 33, .int .i64 sz, .int .i64 cd, .int .i64 fr, .int .i64 d.k, .int .i64 d.r, .int .i64 d.b, .int .i64 d.i, .int .i64 d.s, .int .i64 d.d, .int .i64 d.m, .int .i64 s.k, .int .i64 s.r, .int .i64 s.b, .int .i64 s.i, .int .i64 s.s, .int .i64 s.d, .int .i64 s.m, .int .i64 ln] (0, 0) _ R0.out Tryz.underlying33 rfl (by kernel_rfl) ?_ | refine load_rowT (by rfl) 33 (.tmp 1) rfl w.heap.size rfl 33 #[.int .i64 33, .int .i64 sz, .int .i64 cd, .int .i64 fr, .int .i64 d.k, .int .i64 d.r, .int .i64 d.b, .int .i64 d.i, .int .i64 d.s, .int .i64 d.d, .int .i64 d.m, .int .i64 s.k, .int .i64 s.r, .int .i64 s.b, .int .i64 s.i, .int .i64 s.s, .int .i64 s.d, .int .i64 s.m, .int .i64 ln] (0, 0) _ R0.out Tryz.underlying33 rfl (by kernel_rfl) ?_ | (go_at_call 42; refine (CZ.out _).mono ?_; rintro e wz ⟨rfl, rfl⟩) | (go_at_call 22; with_reducible refine (CI1.out _).mono ?_; rintro e wz ⟨rfl, rfl⟩) | (go_at_call 22; with_reducible refine (CI2.out _).mono ?_; rintro e wz ⟨rfl, rfl⟩) | (go_at_call 44; refine (CF.out _).mono ?_; rintro e wz ⟨rfl, rfl⟩))
        go_ret
        exact ⟨rfl, B0.out⟩
set_option maxRecDepth 100000 in
set_option maxHeartbeats 16000000 in
theorem shp39 (x : Ins) (w : World) (ho : x.op = 39 ∨ x.op = 40) : Calls Tryz.prog 23 #[.agg (insV x)] w fun e w' => e = .returned (.bool ((decide (okSize x.sz) && decide (1 < x.sz)) && kin2 [(48, 48)] x.d.k x.s.k)) ∧ Below w.heap.size w w' := by
  have CT := Lib.hid (twoS5 x [(48, 48)])
  obtain ⟨b1, q1⟩ : ∃ v, v = kin2 [(48, 48)] x.d.k x.s.k := ⟨_, rfl⟩
  rw [← q1] at CT ⊢
  clear q1
  have CY := Lib.hid (fun h W => sizeYes x.sz W h); have CN := Lib.hid (fun h W => sizeNo x.sz W h)
  obtain ⟨op, sz, cd, fr, d, s, ln⟩ := x
  have R0 := Lib.hid (heap_alloc_new w (.cells #[.int .i64 op, .int .i64 sz, .int .i64 cd, .int .i64 fr, .int .i64 d.k, .int .i64 d.r, .int .i64 d.b, .int .i64 d.i, .int .i64 d.s, .int .i64 d.d, .int .i64 d.m, .int .i64 s.k, .int .i64 s.r, .int .i64 s.b, .int .i64 s.i, .int .i64 s.s, .int .i64 s.d, .int .i64 s.m, .int .i64 ln] 33))
  have B0 := Lib.hid (belA w (.cells #[.int .i64 op, .int .i64 sz, .int .i64 cd, .int .i64 fr, .int .i64 d.k, .int .i64 d.r, .int .i64 d.b, .int .i64 d.i, .int .i64 d.s, .int .i64 d.d, .int .i64 d.m, .int .i64 s.k, .int .i64 s.r, .int .i64 s.b, .int .i64 s.i, .int .i64 s.s, .int .i64 s.d, .int .i64 s.m, .int .i64 ln] 33))
  simp only at CT CY CN ho
  unfold insV insA
  simp only
  rcases ho with rfl | rfl
  · have CI1 := Lib.hid (fun W => inNo 39 13 16 W (by decide))
    have CI2 := Lib.hid (fun W => inNo 39 20 24 W (by decide))
    by_cases hz : okSize sz
    · have CZ := Lib.hid (CY.out hz)
      rw [decide_eq_true hz]
      clear CY CN hz
      by_cases hm : 1 < sz
      · rw [decide_eq_true hm]
        cases b1
        · go_enter Tryz.func23, Tryz.ntmps23
          go_wp2_with (first | refine wpList_load_row rfl 33 (.tmp 1) rfl w.heap.size rfl 33 #[.int .i64 39, .int .i64 sz, .int .i64 cd, .int .i64 fr, .int .i64 d.k, .int .i64 d.r, .int .i64 d.b, .int .i64 d.i, .int .i64 d.s, .int .i64 d.d, .int .i64 d.m, .int .i64 s.k, .int .i64 s.r, .int .i64 s.b, .int .i64 s.i, .int .i64 s.s, .int .i64 s.d, .int .i64 s.m, .int .i64 ln] (0, 0) _ R0.out Tryz.underlying33 rfl (by kernel_rfl) ?_ | refine load_rowT (by rfl) 33 (.tmp 1) rfl w.heap.size rfl 33 #[.int .i64 39, .int .i64 sz, .int .i64 cd, .int .i64 fr, .int .i64 d.k, .int .i64 d.r, .int .i64 d.b, .int .i64 d.i, .int .i64 d.s, .int .i64 d.d, .int .i64 d.m, .int .i64 s.k, .int .i64 s.r, .int .i64 s.b, .int .i64 s.i, .int .i64 s.s, .int .i64 s.d, .int .i64 s.m, .int .i64 ln] (0, 0) _ R0.out Tryz.underlying33 rfl (by kernel_rfl) ?_ | (go_at_call 42; refine (CZ.out _).mono ?_; rintro e wz ⟨rfl, rfl⟩) | (go_at_call 22; with_reducible refine (CI1.out _).mono ?_; rintro e wz ⟨rfl, rfl⟩) | (go_at_call 22; with_reducible refine (CI2.out _).mono ?_; rintro e wz ⟨rfl, rfl⟩))
          refine (CT.out (w.heap.size + 1) 1 1 _ rfl (by decide) (by simp) (nm2_new _ [(48, 48)] _ _ (by simp))).mono ?_
          rintro e w2 ⟨rfl, hb⟩
          have B2 := Lib.hid (belT B0.out hb)
          have R2 := Lib.hid (rowT R0.out hb)
          clear hb
          go_wp2
          go_ret
          exact ⟨rfl, B2.out⟩
        · go_enter Tryz.func23, Tryz.ntmps23
          go_wp2_with (first | refine wpList_load_row rfl 33 (.tmp 1) rfl w.heap.size rfl 33 #[.int .i64 39, .int .i64 sz, .int .i64 cd, .int .i64 fr, .int .i64 d.k, .int .i64 d.r, .int .i64 d.b, .int .i64 d.i, .int .i64 d.s, .int .i64 d.d, .int .i64 d.m, .int .i64 s.k, .int .i64 s.r, .int .i64 s.b, .int .i64 s.i, .int .i64 s.s, .int .i64 s.d, .int .i64 s.m, .int .i64 ln] (0, 0) _ R0.out Tryz.underlying33 rfl (by kernel_rfl) ?_ | refine load_rowT (by rfl) 33 (.tmp 1) rfl w.heap.size rfl 33 #[.int .i64 39, .int .i64 sz, .int .i64 cd, .int .i64 fr, .int .i64 d.k, .int .i64 d.r, .int .i64 d.b, .int .i64 d.i, .int .i64 d.s, .int .i64 d.d, .int .i64 d.m, .int .i64 s.k, .int .i64 s.r, .int .i64 s.b, .int .i64 s.i, .int .i64 s.s, .int .i64 s.d, .int .i64 s.m, .int .i64 ln] (0, 0) _ R0.out Tryz.underlying33 rfl (by kernel_rfl) ?_ | (go_at_call 42; refine (CZ.out _).mono ?_; rintro e wz ⟨rfl, rfl⟩) | (go_at_call 22; with_reducible refine (CI1.out _).mono ?_; rintro e wz ⟨rfl, rfl⟩) | (go_at_call 22; with_reducible refine (CI2.out _).mono ?_; rintro e wz ⟨rfl, rfl⟩))
          refine (CT.out (w.heap.size + 1) 1 1 _ rfl (by decide) (by simp) (nm2_new _ [(48, 48)] _ _ (by simp))).mono ?_
          rintro e w2 ⟨rfl, hb⟩
          have B2 := Lib.hid (belT B0.out hb)
          have R2 := Lib.hid (rowT R0.out hb)
          clear hb
          go_wp2
          go_ret
          exact ⟨rfl, B2.out⟩
      · rw [decide_eq_false hm]
        have hm2 : decide (1 < sz) = false := decide_eq_false hm
        go_enter Tryz.func23, Tryz.ntmps23
        go_wp2_with (first | refine wpList_load_row rfl 33 (.tmp 1) rfl w.heap.size rfl 33 #[.int .i64 39, .int .i64 sz, .int .i64 cd, .int .i64 fr, .int .i64 d.k, .int .i64 d.r, .int .i64 d.b, .int .i64 d.i, .int .i64 d.s, .int .i64 d.d, .int .i64 d.m, .int .i64 s.k, .int .i64 s.r, .int .i64 s.b, .int .i64 s.i, .int .i64 s.s, .int .i64 s.d, .int .i64 s.m, .int .i64 ln] (0, 0) _ R0.out Tryz.underlying33 rfl (by kernel_rfl) ?_ | refine load_rowT (by rfl) 33 (.tmp 1) rfl w.heap.size rfl 33 #[.int .i64 39, .int .i64 sz, .int .i64 cd, .int .i64 fr, .int .i64 d.k, .int .i64 d.r, .int .i64 d.b, .int .i64 d.i, .int .i64 d.s, .int .i64 d.d, .int .i64 d.m, .int .i64 s.k, .int .i64 s.r, .int .i64 s.b, .int .i64 s.i, .int .i64 s.s, .int .i64 s.d, .int .i64 s.m, .int .i64 ln] (0, 0) _ R0.out Tryz.underlying33 rfl (by kernel_rfl) ?_ | (go_at_call 42; refine (CZ.out _).mono ?_; rintro e wz ⟨rfl, rfl⟩) | (go_at_call 22; with_reducible refine (CI1.out _).mono ?_; rintro e wz ⟨rfl, rfl⟩) | (go_at_call 22; with_reducible refine (CI2.out _).mono ?_; rintro e wz ⟨rfl, rfl⟩))
        go_ret
        exact ⟨rfl, B0.out⟩
    · have CZ := Lib.hid (CN.out hz)
      rw [decide_eq_false hz]
      clear CY CN hz
      go_enter Tryz.func23, Tryz.ntmps23
      go_wp2_with (first | refine wpList_load_row rfl 33 (.tmp 1) rfl w.heap.size rfl 33 #[.int .i64 39, .int .i64 sz, .int .i64 cd, .int .i64 fr, .int .i64 d.k, .int .i64 d.r, .int .i64 d.b, .int .i64 d.i, .int .i64 d.s, .int .i64 d.d, .int .i64 d.m, .int .i64 s.k, .int .i64 s.r, .int .i64 s.b, .int .i64 s.i, .int .i64 s.s, .int .i64 s.d, .int .i64 s.m, .int .i64 ln] (0, 0) _ R0.out Tryz.underlying33 rfl (by kernel_rfl) ?_ | refine load_rowT (by rfl) 33 (.tmp 1) rfl w.heap.size rfl 33 #[.int .i64 39, .int .i64 sz, .int .i64 cd, .int .i64 fr, .int .i64 d.k, .int .i64 d.r, .int .i64 d.b, .int .i64 d.i, .int .i64 d.s, .int .i64 d.d, .int .i64 d.m, .int .i64 s.k, .int .i64 s.r, .int .i64 s.b, .int .i64 s.i, .int .i64 s.s, .int .i64 s.d, .int .i64 s.m, .int .i64 ln] (0, 0) _ R0.out Tryz.underlying33 rfl (by kernel_rfl) ?_ | (go_at_call 42; refine (CZ.out _).mono ?_; rintro e wz ⟨rfl, rfl⟩) | (go_at_call 22; with_reducible refine (CI1.out _).mono ?_; rintro e wz ⟨rfl, rfl⟩) | (go_at_call 22; with_reducible refine (CI2.out _).mono ?_; rintro e wz ⟨rfl, rfl⟩))
      go_ret
      exact ⟨rfl, B0.out⟩
  · have CI1 := Lib.hid (fun W => inNo 40 13 16 W (by decide))
    have CI2 := Lib.hid (fun W => inNo 40 20 24 W (by decide))
    by_cases hz : okSize sz
    · have CZ := Lib.hid (CY.out hz)
      rw [decide_eq_true hz]
      clear CY CN hz
      by_cases hm : 1 < sz
      · rw [decide_eq_true hm]
        cases b1
        · go_enter Tryz.func23, Tryz.ntmps23
          go_wp2_with (first | refine wpList_load_row rfl 33 (.tmp 1) rfl w.heap.size rfl 33 #[.int .i64 40, .int .i64 sz, .int .i64 cd, .int .i64 fr, .int .i64 d.k, .int .i64 d.r, .int .i64 d.b, .int .i64 d.i, .int .i64 d.s, .int .i64 d.d, .int .i64 d.m, .int .i64 s.k, .int .i64 s.r, .int .i64 s.b, .int .i64 s.i, .int .i64 s.s, .int .i64 s.d, .int .i64 s.m, .int .i64 ln] (0, 0) _ R0.out Tryz.underlying33 rfl (by kernel_rfl) ?_ | refine load_rowT (by rfl) 33 (.tmp 1) rfl w.heap.size rfl 33 #[.int .i64 40, .int .i64 sz, .int .i64 cd, .int .i64 fr, .int .i64 d.k, .int .i64 d.r, .int .i64 d.b, .int .i64 d.i, .int .i64 d.s, .int .i64 d.d, .int .i64 d.m, .int .i64 s.k, .int .i64 s.r, .int .i64 s.b, .int .i64 s.i, .int .i64 s.s, .int .i64 s.d, .int .i64 s.m, .int .i64 ln] (0, 0) _ R0.out Tryz.underlying33 rfl (by kernel_rfl) ?_ | (go_at_call 42; refine (CZ.out _).mono ?_; rintro e wz ⟨rfl, rfl⟩) | (go_at_call 22; with_reducible refine (CI1.out _).mono ?_; rintro e wz ⟨rfl, rfl⟩) | (go_at_call 22; with_reducible refine (CI2.out _).mono ?_; rintro e wz ⟨rfl, rfl⟩))
          refine (CT.out (w.heap.size + 1) 1 1 _ rfl (by decide) (by simp) (nm2_new _ [(48, 48)] _ _ (by simp))).mono ?_
          rintro e w2 ⟨rfl, hb⟩
          have B2 := Lib.hid (belT B0.out hb)
          have R2 := Lib.hid (rowT R0.out hb)
          clear hb
          go_wp2
          go_ret
          exact ⟨rfl, B2.out⟩
        · go_enter Tryz.func23, Tryz.ntmps23
          go_wp2_with (first | refine wpList_load_row rfl 33 (.tmp 1) rfl w.heap.size rfl 33 #[.int .i64 40, .int .i64 sz, .int .i64 cd, .int .i64 fr, .int .i64 d.k, .int .i64 d.r, .int .i64 d.b, .int .i64 d.i, .int .i64 d.s, .int .i64 d.d, .int .i64 d.m, .int .i64 s.k, .int .i64 s.r, .int .i64 s.b, .int .i64 s.i, .int .i64 s.s, .int .i64 s.d, .int .i64 s.m, .int .i64 ln] (0, 0) _ R0.out Tryz.underlying33 rfl (by kernel_rfl) ?_ | refine load_rowT (by rfl) 33 (.tmp 1) rfl w.heap.size rfl 33 #[.int .i64 40, .int .i64 sz, .int .i64 cd, .int .i64 fr, .int .i64 d.k, .int .i64 d.r, .int .i64 d.b, .int .i64 d.i, .int .i64 d.s, .int .i64 d.d, .int .i64 d.m, .int .i64 s.k, .int .i64 s.r, .int .i64 s.b, .int .i64 s.i, .int .i64 s.s, .int .i64 s.d, .int .i64 s.m, .int .i64 ln] (0, 0) _ R0.out Tryz.underlying33 rfl (by kernel_rfl) ?_ | (go_at_call 42; refine (CZ.out _).mono ?_; rintro e wz ⟨rfl, rfl⟩) | (go_at_call 22; with_reducible refine (CI1.out _).mono ?_; rintro e wz ⟨rfl, rfl⟩) | (go_at_call 22; with_reducible refine (CI2.out _).mono ?_; rintro e wz ⟨rfl, rfl⟩))
          refine (CT.out (w.heap.size + 1) 1 1 _ rfl (by decide) (by simp) (nm2_new _ [(48, 48)] _ _ (by simp))).mono ?_
          rintro e w2 ⟨rfl, hb⟩
          have B2 := Lib.hid (belT B0.out hb)
          have R2 := Lib.hid (rowT R0.out hb)
          clear hb
          go_wp2
          go_ret
          exact ⟨rfl, B2.out⟩
      · rw [decide_eq_false hm]
        have hm2 : decide (1 < sz) = false := decide_eq_false hm
        go_enter Tryz.func23, Tryz.ntmps23
        go_wp2_with (first | refine wpList_load_row rfl 33 (.tmp 1) rfl w.heap.size rfl 33 #[.int .i64 40, .int .i64 sz, .int .i64 cd, .int .i64 fr, .int .i64 d.k, .int .i64 d.r, .int .i64 d.b, .int .i64 d.i, .int .i64 d.s, .int .i64 d.d, .int .i64 d.m, .int .i64 s.k, .int .i64 s.r, .int .i64 s.b, .int .i64 s.i, .int .i64 s.s, .int .i64 s.d, .int .i64 s.m, .int .i64 ln] (0, 0) _ R0.out Tryz.underlying33 rfl (by kernel_rfl) ?_ | refine load_rowT (by rfl) 33 (.tmp 1) rfl w.heap.size rfl 33 #[.int .i64 40, .int .i64 sz, .int .i64 cd, .int .i64 fr, .int .i64 d.k, .int .i64 d.r, .int .i64 d.b, .int .i64 d.i, .int .i64 d.s, .int .i64 d.d, .int .i64 d.m, .int .i64 s.k, .int .i64 s.r, .int .i64 s.b, .int .i64 s.i, .int .i64 s.s, .int .i64 s.d, .int .i64 s.m, .int .i64 ln] (0, 0) _ R0.out Tryz.underlying33 rfl (by kernel_rfl) ?_ | (go_at_call 42; refine (CZ.out _).mono ?_; rintro e wz ⟨rfl, rfl⟩) | (go_at_call 22; with_reducible refine (CI1.out _).mono ?_; rintro e wz ⟨rfl, rfl⟩) | (go_at_call 22; with_reducible refine (CI2.out _).mono ?_; rintro e wz ⟨rfl, rfl⟩))
        go_ret
        exact ⟨rfl, B0.out⟩
    · have CZ := Lib.hid (CN.out hz)
      rw [decide_eq_false hz]
      clear CY CN hz
      go_enter Tryz.func23, Tryz.ntmps23
      go_wp2_with (first | refine wpList_load_row rfl 33 (.tmp 1) rfl w.heap.size rfl 33 #[.int .i64 40, .int .i64 sz, .int .i64 cd, .int .i64 fr, .int .i64 d.k, .int .i64 d.r, .int .i64 d.b, .int .i64 d.i, .int .i64 d.s, .int .i64 d.d, .int .i64 d.m, .int .i64 s.k, .int .i64 s.r, .int .i64 s.b, .int .i64 s.i, .int .i64 s.s, .int .i64 s.d, .int .i64 s.m, .int .i64 ln] (0, 0) _ R0.out Tryz.underlying33 rfl (by kernel_rfl) ?_ | refine load_rowT (by rfl) 33 (.tmp 1) rfl w.heap.size rfl 33 #[.int .i64 40, .int .i64 sz, .int .i64 cd, .int .i64 fr, .int .i64 d.k, .int .i64 d.r, .int .i64 d.b, .int .i64 d.i, .int .i64 d.s, .int .i64 d.d, .int .i64 d.m, .int .i64 s.k, .int .i64 s.r, .int .i64 s.b, .int .i64 s.i, .int .i64 s.s, .int .i64 s.d, .int .i64 s.m, .int .i64 ln] (0, 0) _ R0.out Tryz.underlying33 rfl (by kernel_rfl) ?_ | (go_at_call 42; refine (CZ.out _).mono ?_; rintro e wz ⟨rfl, rfl⟩) | (go_at_call 22; with_reducible refine (CI1.out _).mono ?_; rintro e wz ⟨rfl, rfl⟩) | (go_at_call 22; with_reducible refine (CI2.out _).mono ?_; rintro e wz ⟨rfl, rfl⟩))
      go_ret
      exact ⟨rfl, B0.out⟩
set_option maxRecDepth 100000 in
set_option maxHeartbeats 16000000 in
theorem shp44 (x : Ins) (w : World) (ho : x.op = 44) : Calls Tryz.prog 23 #[.agg (insV x)] w fun e w' => e = .returned (.bool (decide (x.sz = 0) && kin2 [(48, 105)] x.d.k x.s.k && decide (0 ≤ x.s.m ∧ x.s.m ≤ 255))) ∧ Below w.heap.size w w' := by
  have CT := Lib.hid (twoS5 x [(48, 105)])
  obtain ⟨b1, q1⟩ : ∃ v, v = kin2 [(48, 105)] x.d.k x.s.k := ⟨_, rfl⟩
  rw [← q1] at CT ⊢
  clear q1
  have CY := Lib.hid (fun h W => sizeYes x.sz W h); have CN := Lib.hid (fun h W => sizeNo x.sz W h)
  have CI3 := Lib.hid (inS5 x.s.m 0 255)
  obtain ⟨b2, q2⟩ : ∃ v, v = decide (0 ≤ x.s.m ∧ x.s.m ≤ 255) := ⟨_, rfl⟩
  rw [← q2] at CI3 ⊢
  clear q2
  obtain ⟨op, sz, cd, fr, d, s, ln⟩ := x
  have R0 := Lib.hid (heap_alloc_new w (.cells #[.int .i64 op, .int .i64 sz, .int .i64 cd, .int .i64 fr, .int .i64 d.k, .int .i64 d.r, .int .i64 d.b, .int .i64 d.i, .int .i64 d.s, .int .i64 d.d, .int .i64 d.m, .int .i64 s.k, .int .i64 s.r, .int .i64 s.b, .int .i64 s.i, .int .i64 s.s, .int .i64 s.d, .int .i64 s.m, .int .i64 ln] 33))
  have B0 := Lib.hid (belA w (.cells #[.int .i64 op, .int .i64 sz, .int .i64 cd, .int .i64 fr, .int .i64 d.k, .int .i64 d.r, .int .i64 d.b, .int .i64 d.i, .int .i64 d.s, .int .i64 d.d, .int .i64 d.m, .int .i64 s.k, .int .i64 s.r, .int .i64 s.b, .int .i64 s.i, .int .i64 s.s, .int .i64 s.d, .int .i64 s.m, .int .i64 ln] 33))
  simp only at CT CY CN ho CI3
  unfold insV insA
  simp only
  rcases ho with rfl
  · have CI1 := Lib.hid (fun W => inNo 44 13 16 W (by decide))
    have CI2 := Lib.hid (fun W => inNo 44 20 24 W (by decide))
    by_cases hz : sz = 0
    · subst hz
      have CZ := Lib.hid (CN.out (by unfold okSize; omega))
      rw [decide_eq_true rfl]
      clear CY CN
      cases b1
      · go_enter Tryz.func23, Tryz.ntmps23
        go_wp2_with (first | refine wpList_load_row rfl 33 (.tmp 1) rfl w.heap.size rfl 33 #[.int .i64 44, .int .i64 0, .int .i64 cd, .int .i64 fr, .int .i64 d.k, .int .i64 d.r, .int .i64 d.b, .int .i64 d.i, .int .i64 d.s, .int .i64 d.d, .int .i64 d.m, .int .i64 s.k, .int .i64 s.r, .int .i64 s.b, .int .i64 s.i, .int .i64 s.s, .int .i64 s.d, .int .i64 s.m, .int .i64 ln] (0, 0) _ R0.out Tryz.underlying33 rfl (by kernel_rfl) ?_ | refine load_rowT (by rfl) 33 (.tmp 1) rfl w.heap.size rfl 33 #[.int .i64 44, .int .i64 0, .int .i64 cd, .int .i64 fr, .int .i64 d.k, .int .i64 d.r, .int .i64 d.b, .int .i64 d.i, .int .i64 d.s, .int .i64 d.d, .int .i64 d.m, .int .i64 s.k, .int .i64 s.r, .int .i64 s.b, .int .i64 s.i, .int .i64 s.s, .int .i64 s.d, .int .i64 s.m, .int .i64 ln] (0, 0) _ R0.out Tryz.underlying33 rfl (by kernel_rfl) ?_ | (go_at_call 42; refine (CZ.out _).mono ?_; rintro e wz ⟨rfl, rfl⟩) | (go_at_call 22; with_reducible refine (CI1.out _).mono ?_; rintro e wz ⟨rfl, rfl⟩) | (go_at_call 22; with_reducible refine (CI2.out _).mono ?_; rintro e wz ⟨rfl, rfl⟩))
        refine (CT.out (w.heap.size + 1) 1 1 _ rfl (by decide) (by simp) (nm2_new _ [(48, 105)] _ _ (by simp))).mono ?_
        rintro e w2 ⟨rfl, hb⟩
        have B2 := Lib.hid (belT B0.out hb)
        have R2 := Lib.hid (rowT R0.out hb)
        clear hb
        go_wp2
        go_ret
        exact ⟨rfl, B2.out⟩
      · go_enter Tryz.func23, Tryz.ntmps23
        go_wp2_with (first | refine wpList_load_row rfl 33 (.tmp 1) rfl w.heap.size rfl 33 #[.int .i64 44, .int .i64 0, .int .i64 cd, .int .i64 fr, .int .i64 d.k, .int .i64 d.r, .int .i64 d.b, .int .i64 d.i, .int .i64 d.s, .int .i64 d.d, .int .i64 d.m, .int .i64 s.k, .int .i64 s.r, .int .i64 s.b, .int .i64 s.i, .int .i64 s.s, .int .i64 s.d, .int .i64 s.m, .int .i64 ln] (0, 0) _ R0.out Tryz.underlying33 rfl (by kernel_rfl) ?_ | refine load_rowT (by rfl) 33 (.tmp 1) rfl w.heap.size rfl 33 #[.int .i64 44, .int .i64 0, .int .i64 cd, .int .i64 fr, .int .i64 d.k, .int .i64 d.r, .int .i64 d.b, .int .i64 d.i, .int .i64 d.s, .int .i64 d.d, .int .i64 d.m, .int .i64 s.k, .int .i64 s.r, .int .i64 s.b, .int .i64 s.i, .int .i64 s.s, .int .i64 s.d, .int .i64 s.m, .int .i64 ln] (0, 0) _ R0.out Tryz.underlying33 rfl (by kernel_rfl) ?_ | (go_at_call 42; refine (CZ.out _).mono ?_; rintro e wz ⟨rfl, rfl⟩) | (go_at_call 22; with_reducible refine (CI1.out _).mono ?_; rintro e wz ⟨rfl, rfl⟩) | (go_at_call 22; with_reducible refine (CI2.out _).mono ?_; rintro e wz ⟨rfl, rfl⟩))
        refine (CT.out (w.heap.size + 1) 1 1 _ rfl (by decide) (by simp) (nm2_new _ [(48, 105)] _ _ (by simp))).mono ?_
        rintro e w2 ⟨rfl, hb⟩
        have B2 := Lib.hid (belT B0.out hb)
        have R2 := Lib.hid (rowT R0.out hb)
        clear hb
        have c1 := cell_of_row _ _ 1 _ _ _ R2.out
        have c17 := cell_of_row _ _ 17 _ _ _ R2.out
        simp only [List.getElem?_toArray, List.getElem?_cons_zero, List.getElem?_cons_succ] at c1 c17
        go_wp2_with (first | refine wpList_load_row rfl 33 (.tmp 1) rfl w.heap.size rfl 33 #[.int .i64 44, .int .i64 0, .int .i64 cd, .int .i64 fr, .int .i64 d.k, .int .i64 d.r, .int .i64 d.b, .int .i64 d.i, .int .i64 d.s, .int .i64 d.d, .int .i64 d.m, .int .i64 s.k, .int .i64 s.r, .int .i64 s.b, .int .i64 s.i, .int .i64 s.s, .int .i64 s.d, .int .i64 s.m, .int .i64 ln] (0, 0) _ R2.out Tryz.underlying33 rfl (by kernel_rfl) ?_ | refine load_rowT (by rfl) 33 (.tmp 1) rfl w.heap.size rfl 33 #[.int .i64 44, .int .i64 0, .int .i64 cd, .int .i64 fr, .int .i64 d.k, .int .i64 d.r, .int .i64 d.b, .int .i64 d.i, .int .i64 d.s, .int .i64 d.d, .int .i64 d.m, .int .i64 s.k, .int .i64 s.r, .int .i64 s.b, .int .i64 s.i, .int .i64 s.s, .int .i64 s.d, .int .i64 s.m, .int .i64 ln] (0, 0) _ R2.out Tryz.underlying33 rfl (by kernel_rfl) ?_ | (go_at_call 42; refine (CZ.out _).mono ?_; rintro e wz ⟨rfl, rfl⟩) | (go_at_call 22; with_reducible refine (CI1.out _).mono ?_; rintro e wz ⟨rfl, rfl⟩) | (go_at_call 22; with_reducible refine (CI2.out _).mono ?_; rintro e wz ⟨rfl, rfl⟩) | (go_at_call 22; with_reducible refine (CI3.out _).mono ?_; rintro e wz ⟨rfl, rfl⟩))
        go_ret
        exact ⟨rfl, B2.out⟩
    · rw [decide_eq_false hz]
      have hz2 : (sz == 0) = false := beq_eq_false_iff_ne.mpr hz
      clear hz
      by_cases hy : okSize sz
      · have CZ := Lib.hid (CY.out hy)
        clear CY CN hy
        go_enter Tryz.func23, Tryz.ntmps23
        go_wp2_with (first | refine wpList_load_row rfl 33 (.tmp 1) rfl w.heap.size rfl 33 #[.int .i64 44, .int .i64 sz, .int .i64 cd, .int .i64 fr, .int .i64 d.k, .int .i64 d.r, .int .i64 d.b, .int .i64 d.i, .int .i64 d.s, .int .i64 d.d, .int .i64 d.m, .int .i64 s.k, .int .i64 s.r, .int .i64 s.b, .int .i64 s.i, .int .i64 s.s, .int .i64 s.d, .int .i64 s.m, .int .i64 ln] (0, 0) _ R0.out Tryz.underlying33 rfl (by kernel_rfl) ?_ | refine load_rowT (by rfl) 33 (.tmp 1) rfl w.heap.size rfl 33 #[.int .i64 44, .int .i64 sz, .int .i64 cd, .int .i64 fr, .int .i64 d.k, .int .i64 d.r, .int .i64 d.b, .int .i64 d.i, .int .i64 d.s, .int .i64 d.d, .int .i64 d.m, .int .i64 s.k, .int .i64 s.r, .int .i64 s.b, .int .i64 s.i, .int .i64 s.s, .int .i64 s.d, .int .i64 s.m, .int .i64 ln] (0, 0) _ R0.out Tryz.underlying33 rfl (by kernel_rfl) ?_ | (go_at_call 42; refine (CZ.out _).mono ?_; rintro e wz ⟨rfl, rfl⟩) | (go_at_call 22; with_reducible refine (CI1.out _).mono ?_; rintro e wz ⟨rfl, rfl⟩) | (go_at_call 22; with_reducible refine (CI2.out _).mono ?_; rintro e wz ⟨rfl, rfl⟩))
        go_ret
        exact ⟨rfl, B0.out⟩
      · have CZ := Lib.hid (CN.out hy)
        clear CY CN hy
        go_enter Tryz.func23, Tryz.ntmps23
        go_wp2_with (first | refine wpList_load_row rfl 33 (.tmp 1) rfl w.heap.size rfl 33 #[.int .i64 44, .int .i64 sz, .int .i64 cd, .int .i64 fr, .int .i64 d.k, .int .i64 d.r, .int .i64 d.b, .int .i64 d.i, .int .i64 d.s, .int .i64 d.d, .int .i64 d.m, .int .i64 s.k, .int .i64 s.r, .int .i64 s.b, .int .i64 s.i, .int .i64 s.s, .int .i64 s.d, .int .i64 s.m, .int .i64 ln] (0, 0) _ R0.out Tryz.underlying33 rfl (by kernel_rfl) ?_ | refine load_rowT (by rfl) 33 (.tmp 1) rfl w.heap.size rfl 33 #[.int .i64 44, .int .i64 sz, .int .i64 cd, .int .i64 fr, .int .i64 d.k, .int .i64 d.r, .int .i64 d.b, .int .i64 d.i, .int .i64 d.s, .int .i64 d.d, .int .i64 d.m, .int .i64 s.k, .int .i64 s.r, .int .i64 s.b, .int .i64 s.i, .int .i64 s.s, .int .i64 s.d, .int .i64 s.m, .int .i64 ln] (0, 0) _ R0.out Tryz.underlying33 rfl (by kernel_rfl) ?_ | (go_at_call 42; refine (CZ.out _).mono ?_; rintro e wz ⟨rfl, rfl⟩) | (go_at_call 22; with_reducible refine (CI1.out _).mono ?_; rintro e wz ⟨rfl, rfl⟩) | (go_at_call 22; with_reducible refine (CI2.out _).mono ?_; rintro e wz ⟨rfl, rfl⟩))
        go_ret
        exact ⟨rfl, B0.out⟩
end Go.Proofs.YtjnjlgaemmdkhaaGreatDoor
