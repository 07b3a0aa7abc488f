/-
  Ways of l05Shape of spec, by operation; conditions: those in each head.
-/
import Derived.Test.YtjnjlgaemmdkhaaGreatDoorWalkOkT4
namespace Go.Proofs.YtjnjlgaemmdkhaaGreatDoor
open Go.RowKit Go.Sort
set_option linter.unusedVariables false
set_option linter.unusedSimpArgs false
set_option maxRecDepth 100000 in
set_option maxHeartbeats 16000000 in
theorem shp9 (x : Ins) (w : World) (ho : x.op = 9) : Calls Tryz.prog 23 #[.agg (insV x)] w fun e w' => e = .returned (.bool (decide (okSize x.sz) && kin2 [(114, 114), (109, 114), (114, 109), (114, 105), (109, 105)] x.d.k x.s.k && (decide (x.sz = 8 ∧ x.d.k = 1) || decide (fitP x.s.m x.sz)))) ∧ Below w.heap.size w w' := by
  have CT := Lib.hid (twoS5 x [(114, 114), (109, 114), (114, 109), (114, 105), (109, 105)])
  obtain ⟨b1, q1⟩ : ∃ v, v = kin2 [(114, 114), (109, 114), (114, 109), (114, 105), (109, 105)] x.d.k x.s.k := ⟨_, rfl⟩
  rw [← q1] at CT ⊢
  clear q1
  have CY := Lib.hid (fun h W => sizeYes x.sz W h); have CN := Lib.hid (fun h W => sizeNo x.sz W h)
  have CG := Lib.hid (fun (h : okSize x.sz) W => fitS5 x.s.m x.sz W h)
  obtain ⟨b2, q2⟩ : ∃ v, v = decide (fitP x.s.m x.sz) := ⟨_, rfl⟩
  rw [← q2] at CG ⊢
  clear q2
  obtain ⟨op, sz, cd, fr, d, s, ln⟩ := x
  have R0 := Lib.hid (heap_alloc_new w (.cells #[.int .i64 op, .int .i64 sz, .int .i64 cd, .int .i64 fr, .int .i64 d.k, .int .i64 d.r, .int .i64 d.b, .int .i64 d.i, .int .i64 d.s, .int .i64 d.d, .int .i64 d.m, .int .i64 s.k, .int .i64 s.r, .int .i64 s.b, .int .i64 s.i, .int .i64 s.s, .int .i64 s.d, .int .i64 s.m, .int .i64 ln] 33))
  have B0 := Lib.hid (belA w (.cells #[.int .i64 op, .int .i64 sz, .int .i64 cd, .int .i64 fr, .int .i64 d.k, .int .i64 d.r, .int .i64 d.b, .int .i64 d.i, .int .i64 d.s, .int .i64 d.d, .int .i64 d.m, .int .i64 s.k, .int .i64 s.r, .int .i64 s.b, .int .i64 s.i, .int .i64 s.s, .int .i64 s.d, .int .i64 s.m, .int .i64 ln] 33))
  simp only at CT CY CN CG ho
  unfold insV insA
  simp only
  subst ho
  by_cases hz : okSize sz
  · have CZ := Lib.hid (CY.out hz)
    have CF := Lib.hid (CG.out hz)
    rw [decide_eq_true hz]
    clear CY CN hz CG
    by_cases h8 : sz = 8
    · subst h8
      by_cases hd : d.k = 1
      · rw [decide_eq_true (show (8 : Int) = 8 ∧ d.k = 1 from ⟨rfl, hd⟩)]
        have hd2 : (d.k == 1) = true := beq_iff_eq.mpr hd
        clear hd
        cases b1
        · go_enter Tryz.func23, Tryz.ntmps23
          go_wp2_with (first | refine wpList_load_row rfl 33 (.tmp 1) rfl w.heap.size rfl 33 #[.int .i64 9, .int .i64 8, .int .i64 cd, .int .i64 fr, .int .i64 d.k, .int .i64 d.r, .int .i64 d.b, .int .i64 d.i, .int .i64 d.s, .int .i64 d.d, .int .i64 d.m, .int .i64 s.k, .int .i64 s.r, .int .i64 s.b, .int .i64 s.i, .int .i64 s.s, .int .i64 s.d, .int .i64 s.m, .int .i64 ln] (0, 0) _ R0.out Tryz.underlying33 rfl (by kernel_rfl) ?_ | refine load_rowT (by rfl) 33 (.tmp 1) rfl w.heap.size rfl 33 #[.int .i64 9, .int .i64 8, .int .i64 cd, .int .i64 fr, .int .i64 d.k, .int .i64 d.r, .int .i64 d.b, .int .i64 d.i, .int .i64 d.s, .int .i64 d.d, .int .i64 d.m, .int .i64 s.k, .int .i64 s.r, .int .i64 s.b, .int .i64 s.i, .int .i64 s.s, .int .i64 s.d, .int .i64 s.m, .int .i64 ln] (0, 0) _ R0.out Tryz.underlying33 rfl (by kernel_rfl) ?_ | (go_at_call 42; refine (CZ.out _).mono ?_; rintro e wz ⟨rfl, rfl⟩) | (go_at_call 22; with_reducible refine (CI1.out _).mono ?_; rintro e wz ⟨rfl, rfl⟩) | (go_at_call 22; with_reducible refine (CI2.out _).mono ?_; rintro e wz ⟨rfl, rfl⟩) | (go_at_call 44; refine (CF.out _).mono ?_; rintro e wz ⟨rfl, rfl⟩))
          refine (CT.out (w.heap.size + 1) 5 5 _ rfl (by decide) (by simp) (nm2_new _ [(114, 114), (109, 114), (114, 109), (114, 105), (109, 105)] _ _ (by simp))).mono ?_
          rintro e w2 ⟨rfl, hb⟩
          have B2 := Lib.hid (belT B0.out hb)
          have R2 := Lib.hid (rowT R0.out hb)
          clear hb
          go_wp2
          go_ret
          exact ⟨rfl, B2.out⟩
        · go_enter Tryz.func23, Tryz.ntmps23
          go_wp2_with (first | refine wpList_load_row rfl 33 (.tmp 1) rfl w.heap.size rfl 33 #[.int .i64 9, .int .i64 8, .int .i64 cd, .int .i64 fr, .int .i64 d.k, .int .i64 d.r, .int .i64 d.b, .int .i64 d.i, .int .i64 d.s, .int .i64 d.d, .int .i64 d.m, .int .i64 s.k, .int .i64 s.r, .int .i64 s.b, .int .i64 s.i, .int .i64 s.s, .int .i64 s.d, .int .i64 s.m, .int .i64 ln] (0, 0) _ R0.out Tryz.underlying33 rfl (by kernel_rfl) ?_ | refine load_rowT (by rfl) 33 (.tmp 1) rfl w.heap.size rfl 33 #[.int .i64 9, .int .i64 8, .int .i64 cd, .int .i64 fr, .int .i64 d.k, .int .i64 d.r, .int .i64 d.b, .int .i64 d.i, .int .i64 d.s, .int .i64 d.d, .int .i64 d.m, .int .i64 s.k, .int .i64 s.r, .int .i64 s.b, .int .i64 s.i, .int .i64 s.s, .int .i64 s.d, .int .i64 s.m, .int .i64 ln] (0, 0) _ R0.out Tryz.underlying33 rfl (by kernel_rfl) ?_ | (go_at_call 42; refine (CZ.out _).mono ?_; rintro e wz ⟨rfl, rfl⟩) | (go_at_call 22; with_reducible refine (CI1.out _).mono ?_; rintro e wz ⟨rfl, rfl⟩) | (go_at_call 22; with_reducible refine (CI2.out _).mono ?_; rintro e wz ⟨rfl, rfl⟩) | (go_at_call 44; refine (CF.out _).mono ?_; rintro e wz ⟨rfl, rfl⟩))
          refine (CT.out (w.heap.size + 1) 5 5 _ rfl (by decide) (by simp) (nm2_new _ [(114, 114), (109, 114), (114, 109), (114, 105), (109, 105)] _ _ (by simp))).mono ?_
          rintro e w2 ⟨rfl, hb⟩
          have B2 := Lib.hid (belT B0.out hb)
          have R2 := Lib.hid (rowT R0.out hb)
          clear hb
          have c1 := cell_of_row _ _ 1 _ _ _ R2.out
          have c17 := cell_of_row _ _ 17 _ _ _ R2.out
          simp only [List.getElem?_toArray, List.getElem?_cons_zero, List.getElem?_cons_succ] at c1 c17
          go_wp2_with (first | refine wpList_load_row rfl 33 (.tmp 1) rfl w.heap.size rfl 33 #[.int .i64 9, .int .i64 8, .int .i64 cd, .int .i64 fr, .int .i64 d.k, .int .i64 d.r, .int .i64 d.b, .int .i64 d.i, .int .i64 d.s, .int .i64 d.d, .int .i64 d.m, .int .i64 s.k, .int .i64 s.r, .int .i64 s.b, .int .i64 s.i, .int .i64 s.s, .int .i64 s.d, .int .i64 s.m, .int .i64 ln] (0, 0) _ R2.out Tryz.underlying33 rfl (by kernel_rfl) ?_ | refine load_rowT (by rfl) 33 (.tmp 1) rfl w.heap.size rfl 33 #[.int .i64 9, .int .i64 8, .int .i64 cd, .int .i64 fr, .int .i64 d.k, .int .i64 d.r, .int .i64 d.b, .int .i64 d.i, .int .i64 d.s, .int .i64 d.d, .int .i64 d.m, .int .i64 s.k, .int .i64 s.r, .int .i64 s.b, .int .i64 s.i, .int .i64 s.s, .int .i64 s.d, .int .i64 s.m, .int .i64 ln] (0, 0) _ R2.out Tryz.underlying33 rfl (by kernel_rfl) ?_ | (go_at_call 42; refine (CZ.out _).mono ?_; rintro e wz ⟨rfl, rfl⟩) | (go_at_call 22; with_reducible refine (CI1.out _).mono ?_; rintro e wz ⟨rfl, rfl⟩) | (go_at_call 22; with_reducible refine (CI2.out _).mono ?_; rintro e wz ⟨rfl, rfl⟩) | (go_at_call 44; refine (CF.out _).mono ?_; rintro e wz ⟨rfl, rfl⟩))
          go_ret
          exact ⟨rfl, B2.out⟩
      · rw [decide_eq_false (show ¬ ((8 : Int) = 8 ∧ d.k = 1) from fun e => hd e.2)]
        have hd2 : (d.k == 1) = false := beq_eq_false_iff_ne.mpr hd
        clear hd
        cases b1
        · go_enter Tryz.func23, Tryz.ntmps23
          go_wp2_with (first | refine wpList_load_row rfl 33 (.tmp 1) rfl w.heap.size rfl 33 #[.int .i64 9, .int .i64 8, .int .i64 cd, .int .i64 fr, .int .i64 d.k, .int .i64 d.r, .int .i64 d.b, .int .i64 d.i, .int .i64 d.s, .int .i64 d.d, .int .i64 d.m, .int .i64 s.k, .int .i64 s.r, .int .i64 s.b, .int .i64 s.i, .int .i64 s.s, .int .i64 s.d, .int .i64 s.m, .int .i64 ln] (0, 0) _ R0.out Tryz.underlying33 rfl (by kernel_rfl) ?_ | refine load_rowT (by rfl) 33 (.tmp 1) rfl w.heap.size rfl 33 #[.int .i64 9, .int .i64 8, .int .i64 cd, .int .i64 fr, .int .i64 d.k, .int .i64 d.r, .int .i64 d.b, .int .i64 d.i, .int .i64 d.s, .int .i64 d.d, .int .i64 d.m, .int .i64 s.k, .int .i64 s.r, .int .i64 s.b, .int .i64 s.i, .int .i64 s.s, .int .i64 s.d, .int .i64 s.m, .int .i64 ln] (0, 0) _ R0.out Tryz.underlying33 rfl (by kernel_rfl) ?_ | (go_at_call 42; refine (CZ.out _).mono ?_; rintro e wz ⟨rfl, rfl⟩) | (go_at_call 22; with_reducible refine (CI1.out _).mono ?_; rintro e wz ⟨rfl, rfl⟩) | (go_at_call 22; with_reducible refine (CI2.out _).mono ?_; rintro e wz ⟨rfl, rfl⟩) | (go_at_call 44; refine (CF.out _).mono ?_; rintro e wz ⟨rfl, rfl⟩))
          refine (CT.out (w.heap.size + 1) 5 5 _ rfl (by decide) (by simp) (nm2_new _ [(114, 114), (109, 114), (114, 109), (114, 105), (109, 105)] _ _ (by simp))).mono ?_
          rintro e w2 ⟨rfl, hb⟩
          have B2 := Lib.hid (belT B0.out hb)
          have R2 := Lib.hid (rowT R0.out hb)
          clear hb
          go_wp2
          go_ret
          exact ⟨rfl, B2.out⟩
        · go_enter Tryz.func23, Tryz.ntmps23
          go_wp2_with (first | refine wpList_load_row rfl 33 (.tmp 1) rfl w.heap.size rfl 33 #[.int .i64 9, .int .i64 8, .int .i64 cd, .int .i64 fr, .int .i64 d.k, .int .i64 d.r, .int .i64 d.b, .int .i64 d.i, .int .i64 d.s, .int .i64 d.d, .int .i64 d.m, .int .i64 s.k, .int .i64 s.r, .int .i64 s.b, .int .i64 s.i, .int .i64 s.s, .int .i64 s.d, .int .i64 s.m, .int .i64 ln] (0, 0) _ R0.out Tryz.underlying33 rfl (by kernel_rfl) ?_ | refine load_rowT (by rfl) 33 (.tmp 1) rfl w.heap.size rfl 33 #[.int .i64 9, .int .i64 8, .int .i64 cd, .int .i64 fr, .int .i64 d.k, .int .i64 d.r, .int .i64 d.b, .int .i64 d.i, .int .i64 d.s, .int .i64 d.d, .int .i64 d.m, .int .i64 s.k, .int .i64 s.r, .int .i64 s.b, .int .i64 s.i, .int .i64 s.s, .int .i64 s.d, .int .i64 s.m, .int .i64 ln] (0, 0) _ R0.out Tryz.underlying33 rfl (by kernel_rfl) ?_ | (go_at_call 42; refine (CZ.out _).mono ?_; rintro e wz ⟨rfl, rfl⟩) | (go_at_call 22; with_reducible refine (CI1.out _).mono ?_; rintro e wz ⟨rfl, rfl⟩) | (go_at_call 22; with_reducible refine (CI2.out _).mono ?_; rintro e wz ⟨rfl, rfl⟩) | (go_at_call 44; refine (CF.out _).mono ?_; rintro e wz ⟨rfl, rfl⟩))
          refine (CT.out (w.heap.size + 1) 5 5 _ rfl (by decide) (by simp) (nm2_new _ [(114, 114), (109, 114), (114, 109), (114, 105), (109, 105)] _ _ (by simp))).mono ?_
          rintro e w2 ⟨rfl, hb⟩
          have B2 := Lib.hid (belT B0.out hb)
          have R2 := Lib.hid (rowT R0.out hb)
          clear hb
          have c1 := cell_of_row _ _ 1 _ _ _ R2.out
          have c17 := cell_of_row _ _ 17 _ _ _ R2.out
          simp only [List.getElem?_toArray, List.getElem?_cons_zero, List.getElem?_cons_succ] at c1 c17
          go_wp2_with (first | refine wpList_load_row rfl 33 (.tmp 1) rfl w.heap.size rfl 33 #[.int .i64 9, .int .i64 8, .int .i64 cd, .int .i64 fr, .int .i64 d.k, .int .i64 d.r, .int .i64 d.b, .int .i64 d.i, .int .i64 d.s, .int .i64 d.d, .int .i64 d.m, .int .i64 s.k, .int .i64 s.r, .int .i64 s.b, .int .i64 s.i, .int .i64 s.s, .int .i64 s.d, .int .i64 s.m, .int .i64 ln] (0, 0) _ R2.out Tryz.underlying33 rfl (by kernel_rfl) ?_ | refine load_rowT (by rfl) 33 (.tmp 1) rfl w.heap.size rfl 33 #[.int .i64 9, .int .i64 8, .int .i64 cd, .int .i64 fr, .int .i64 d.k, .int .i64 d.r, .int .i64 d.b, .int .i64 d.i, .int .i64 d.s, .int .i64 d.d, .int .i64 d.m, .int .i64 s.k, .int .i64 s.r, .int .i64 s.b, .int .i64 s.i, .int .i64 s.s, .int .i64 s.d, .int .i64 s.m, .int .i64 ln] (0, 0) _ R2.out Tryz.underlying33 rfl (by kernel_rfl) ?_ | (go_at_call 42; refine (CZ.out _).mono ?_; rintro e wz ⟨rfl, rfl⟩) | (go_at_call 22; with_reducible refine (CI1.out _).mono ?_; rintro e wz ⟨rfl, rfl⟩) | (go_at_call 22; with_reducible refine (CI2.out _).mono ?_; rintro e wz ⟨rfl, rfl⟩) | (go_at_call 44; refine (CF.out _).mono ?_; rintro e wz ⟨rfl, rfl⟩))
          go_ret
          exact ⟨rfl, B2.out⟩
    · rw [decide_eq_false (show ¬ (sz = 8 ∧ d.k = 1) from fun e => h8 e.1)]
      have h82 : (sz == 8) = false := beq_eq_false_iff_ne.mpr h8
      clear h8
      cases b1
      · go_enter Tryz.func23, Tryz.ntmps23
        go_wp2_with (first | refine wpList_load_row rfl 33 (.tmp 1) rfl w.heap.size rfl 33 #[.int .i64 9, .int .i64 sz, .int .i64 cd, .int .i64 fr, .int .i64 d.k, .int .i64 d.r, .int .i64 d.b, .int .i64 d.i, .int .i64 d.s, .int .i64 d.d, .int .i64 d.m, .int .i64 s.k, .int .i64 s.r, .int .i64 s.b, .int .i64 s.i, .int .i64 s.s, .int .i64 s.d, .int .i64 s.m, .int .i64 ln] (0, 0) _ R0.out Tryz.underlying33 rfl (by kernel_rfl) ?_ | refine load_rowT (by rfl) 33 (.tmp 1) rfl w.heap.size rfl 33 #[.int .i64 9, .int .i64 sz, .int .i64 cd, .int .i64 fr, .int .i64 d.k, .int .i64 d.r, .int .i64 d.b, .int .i64 d.i, .int .i64 d.s, .int .i64 d.d, .int .i64 d.m, .int .i64 s.k, .int .i64 s.r, .int .i64 s.b, .int .i64 s.i, .int .i64 s.s, .int .i64 s.d, .int .i64 s.m, .int .i64 ln] (0, 0) _ R0.out Tryz.underlying33 rfl (by kernel_rfl) ?_ | (go_at_call 42; refine (CZ.out _).mono ?_; rintro e wz ⟨rfl, rfl⟩) | (go_at_call 22; with_reducible refine (CI1.out _).mono ?_; rintro e wz ⟨rfl, rfl⟩) | (go_at_call 22; with_reducible refine (CI2.out _).mono ?_; rintro e wz ⟨rfl, rfl⟩) | (go_at_call 44; refine (CF.out _).mono ?_; rintro e wz ⟨rfl, rfl⟩))
        refine (CT.out (w.heap.size + 1) 5 5 _ rfl (by decide) (by simp) (nm2_new _ [(114, 114), (109, 114), (114, 109), (114, 105), (109, 105)] _ _ (by simp))).mono ?_
        rintro e w2 ⟨rfl, hb⟩
        have B2 := Lib.hid (belT B0.out hb)
        have R2 := Lib.hid (rowT R0.out hb)
        clear hb
        go_wp2
        go_ret
        exact ⟨rfl, B2.out⟩
      · go_enter Tryz.func23, Tryz.ntmps23
        go_wp2_with (first | refine wpList_load_row rfl 33 (.tmp 1) rfl w.heap.size rfl 33 #[.int .i64 9, .int .i64 sz, .int .i64 cd, .int .i64 fr, .int .i64 d.k, .int .i64 d.r, .int .i64 d.b, .int .i64 d.i, .int .i64 d.s, .int .i64 d.d, .int .i64 d.m, .int .i64 s.k, .int .i64 s.r, .int .i64 s.b, .int .i64 s.i, .int .i64 s.s, .int .i64 s.d, .int .i64 s.m, .int .i64 ln] (0, 0) _ R0.out Tryz.underlying33 rfl (by kernel_rfl) ?_ | refine load_rowT (by rfl) 33 (.tmp 1) rfl w.heap.size rfl 33 #[.int .i64 9, .int .i64 sz, .int .i64 cd, .int .i64 fr, .int .i64 d.k, .int .i64 d.r, .int .i64 d.b, .int .i64 d.i, .int .i64 d.s, .int .i64 d.d, .int .i64 d.m, .int .i64 s.k, .int .i64 s.r, .int .i64 s.b, .int .i64 s.i, .int .i64 s.s, .int .i64 s.d, .int .i64 s.m, .int .i64 ln] (0, 0) _ R0.out Tryz.underlying33 rfl (by kernel_rfl) ?_ | (go_at_call 42; refine (CZ.out _).mono ?_; rintro e wz ⟨rfl, rfl⟩) | (go_at_call 22; with_reducible refine (CI1.out _).mono ?_; rintro e wz ⟨rfl, rfl⟩) | (go_at_call 22; with_reducible refine (CI2.out _).mono ?_; rintro e wz ⟨rfl, rfl⟩) | (go_at_call 44; refine (CF.out _).mono ?_; rintro e wz ⟨rfl, rfl⟩))
        refine (CT.out (w.heap.size + 1) 5 5 _ rfl (by decide) (by simp) (nm2_new _ [(114, 114), (109, 114), (114, 109), (114, 105), (109, 105)] _ _ (by simp))).mono ?_
        rintro e w2 ⟨rfl, hb⟩
        have B2 := Lib.hid (belT B0.out hb)
        have R2 := Lib.hid (rowT R0.out hb)
        clear hb
        have c1 := cell_of_row _ _ 1 _ _ _ R2.out
        have c17 := cell_of_row _ _ 17 _ _ _ R2.out
        simp only [List.getElem?_toArray, List.getElem?_cons_zero, List.getElem?_cons_succ] at c1 c17
        go_wp2_with (first | refine wpList_load_row rfl 33 (.tmp 1) rfl w.heap.size rfl 33 #[.int .i64 9, .int .i64 sz, .int .i64 cd, .int .i64 fr, .int .i64 d.k, .int .i64 d.r, .int .i64 d.b, .int .i64 d.i, .int .i64 d.s, .int .i64 d.d, .int .i64 d.m, .int .i64 s.k, .int .i64 s.r, .int .i64 s.b, .int .i64 s.i, .int .i64 s.s, .int .i64 s.d, .int .i64 s.m, .int .i64 ln] (0, 0) _ R2.out Tryz.underlying33 rfl (by kernel_rfl) ?_ | refine load_rowT (by rfl) 33 (.tmp 1) rfl w.heap.size rfl 33 #[.int .i64 9, .int .i64 sz, .int .i64 cd, .int .i64 fr, .int .i64 d.k, .int .i64 d.r, .int .i64 d.b, .int .i64 d.i, .int .i64 d.s, .int .i64 d.d, .int .i64 d.m, .int .i64 s.k, .int .i64 s.r, .int .i64 s.b, .int .i64 s.i, .int .i64 s.s, .int .i64 s.d, .int .i64 s.m, .int .i64 ln] (0, 0) _ R2.out Tryz.underlying33 rfl (by kernel_rfl) ?_ | (go_at_call 42; refine (CZ.out _).mono ?_; rintro e wz ⟨rfl, rfl⟩) | (go_at_call 22; with_reducible refine (CI1.out _).mono ?_; rintro e wz ⟨rfl, rfl⟩) | (go_at_call 22; with_reducible refine (CI2.out _).mono ?_; rintro e wz ⟨rfl, rfl⟩) | (go_at_call 44; refine (CF.out _).mono ?_; rintro e wz ⟨rfl, rfl⟩))
        go_ret
        exact ⟨rfl, B2.out⟩
  · have CZ := Lib.hid (CN.out hz)
    have h82 : (sz == 8) = false := beq_eq_false_iff_ne.mpr (fun e => hz (by unfold okSize; omega))
    have CF := CG
    rw [decide_eq_false hz]
    clear CY CN hz
    go_enter Tryz.func23, Tryz.ntmps23
    go_wp2_with (first | refine wpList_load_row rfl 33 (.tmp 1) rfl w.heap.size rfl 33 #[.int .i64 9, .int .i64 sz, .int .i64 cd, .int .i64 fr, .int .i64 d.k, .int .i64 d.r, .int .i64 d.b, .int .i64 d.i, .int .i64 d.s, .int .i64 d.d, .int .i64 d.m, .int .i64 s.k, .int .i64 s.r, .int .i64 s.b, .int .i64 s.i, .int .i64 s.s, .int .i64 s.d, .int .i64 s.m, .int .i64 ln] (0, 0) _ R0.out Tryz.underlying33 rfl (by kernel_rfl) ?_ | refine load_rowT (by rfl) 33 (.tmp 1) rfl w.heap.size rfl 33 #[.int .i64 9, .int .i64 sz, .int .i64 cd, .int .i64 fr, .int .i64 d.k, .int .i64 d.r, .int .i64 d.b, .int .i64 d.i, .int .i64 d.s, .int .i64 d.d, .int .i64 d.m, .int .i64 s.k, .int .i64 s.r, .int .i64 s.b, .int .i64 s.i, .int .i64 s.s, .int .i64 s.d, .int .i64 s.m, .int .i64 ln] (0, 0) _ R0.out Tryz.underlying33 rfl (by kernel_rfl) ?_ | (go_at_call 42; refine (CZ.out _).mono ?_; rintro e wz ⟨rfl, rfl⟩) | (go_at_call 22; with_reducible refine (CI1.out _).mono ?_; rintro e wz ⟨rfl, rfl⟩) | (go_at_call 22; with_reducible refine (CI2.out _).mono ?_; rintro e wz ⟨rfl, rfl⟩))
    go_ret
    exact ⟨rfl, B0.out⟩
set_option maxRecDepth 100000 in
set_option maxHeartbeats 16000000 in
theorem shp20 (x : Ins) (w : World) (ho : 20 ≤ x.op ∧ x.op ≤ 24) : Calls Tryz.prog 23 #[.agg (insV x)] w fun e w' => e = .returned (.bool (!(decide (x.s.k = 1 ∧ x.s.r ≠ 1)) && (decide (okSize x.sz) && kin2 [(114, 114), (109, 114), (114, 105), (109, 105)] x.d.k x.s.k && decide (0 ≤ x.s.m ∧ x.s.m ≤ 255)))) ∧ Below w.heap.size w w' := by
  have CT := Lib.hid (twoS5 x [(114, 114), (109, 114), (114, 105), (109, 105)])
  obtain ⟨b1, q1⟩ : ∃ v, v = kin2 [(114, 114), (109, 114), (114, 105), (109, 105)] x.d.k x.s.k := ⟨_, rfl⟩
  rw [← q1] at CT ⊢
  clear q1
  have CZ : Hid (∀ W, Calls Tryz.prog 42 #[.int .i64 x.sz] W fun e w' => e = .returned (.bool (decide (okSize x.sz))) ∧ W = w') := Lib.hid fun W => by
    by_cases h : okSize x.sz
    · rw [decide_eq_true h]; exact sizeYes x.sz W h
    · rw [decide_eq_false h]; exact sizeNo x.sz W h
  obtain ⟨b0, q0⟩ : ∃ v, v = decide (okSize x.sz) := ⟨_, rfl⟩
  rw [← q0] at CZ ⊢
  clear q0
  have CI3 := Lib.hid (inS5 x.s.m 0 255)
  obtain ⟨b2, q2⟩ : ∃ v, v = decide (0 ≤ x.s.m ∧ x.s.m ≤ 255) := ⟨_, rfl⟩
  rw [← q2] at CI3 ⊢
  clear q2
  have CI1 := Lib.hid (fun W => inNo x.op 13 16 W (by omega)); have CI2 := Lib.hid (fun W => inYes x.op 20 24 W ho.1 ho.2)
  have n0 : decide (x.op ≤ 8) = false := decide_eq_false (by omega)
  have n9 : (x.op == 9) = false := beq_eq_false_iff_ne.mpr (by omega)
  have n10 : (x.op == 10) = false := beq_eq_false_iff_ne.mpr (by omega)
  have n28 : (x.op == 28) = false := beq_eq_false_iff_ne.mpr (by omega)
  have n11 : (x.op == 11) = false := beq_eq_false_iff_ne.mpr (by omega)
  have n12 : (x.op == 12) = false := beq_eq_false_iff_ne.mpr (by omega)
  have n18 : (x.op == 18) = false := beq_eq_false_iff_ne.mpr (by omega)
  have n19 : (x.op == 19) = false := beq_eq_false_iff_ne.mpr (by omega)
  have n17 : (x.op == 17) = false := beq_eq_false_iff_ne.mpr (by omega)
  have n36 : (x.op == 36) = false := beq_eq_false_iff_ne.mpr (by omega)
  clear ho
  obtain ⟨op, sz, cd, fr, d, s, ln⟩ := x
  have R0 := Lib.hid (heap_alloc_new w (.cells #[.int .i64 op, .int .i64 sz, .int .i64 cd, .int .i64 fr, .int .i64 d.k, .int .i64 d.r, .int .i64 d.b, .int .i64 d.i, .int .i64 d.s, .int .i64 d.d, .int .i64 d.m, .int .i64 s.k, .int .i64 s.r, .int .i64 s.b, .int .i64 s.i, .int .i64 s.s, .int .i64 s.d, .int .i64 s.m, .int .i64 ln] 33))
  have B0 := Lib.hid (belA w (.cells #[.int .i64 op, .int .i64 sz, .int .i64 cd, .int .i64 fr, .int .i64 d.k, .int .i64 d.r, .int .i64 d.b, .int .i64 d.i, .int .i64 d.s, .int .i64 d.d, .int .i64 d.m, .int .i64 s.k, .int .i64 s.r, .int .i64 s.b, .int .i64 s.i, .int .i64 s.s, .int .i64 s.d, .int .i64 s.m, .int .i64 ln] 33))
  simp only at CT CZ CI3 CI1 CI2 n0 n9 n10 n28 n11 n12 n18 n19 n17 n36
  unfold insV insA
  simp only
  by_cases h1 : s.k = 1
  · have e1 : (s.k == 1) = true := beq_iff_eq.mpr h1
    by_cases h2 : s.r = 1
    · have e2 : (s.r != 1) = false := by rw [h2]; rfl
      rw [decide_eq_false (show ¬ (s.k = 1 ∧ s.r ≠ 1) from fun e => e.2 h2)]
      clear h1 h2
      cases b0
      · go_enter Tryz.func23, Tryz.ntmps23
        go_wp2_with (first | refine wpList_load_row rfl 33 (.tmp 1) rfl w.heap.size rfl 33 #[.int .i64 op, .int .i64 sz, .int .i64 cd, .int .i64 fr, .int .i64 d.k, .int .i64 d.r, .int .i64 d.b, .int .i64 d.i, .int .i64 d.s, .int .i64 d.d, .int .i64 d.m, .int .i64 s.k, .int .i64 s.r, .int .i64 s.b, .int .i64 s.i, .int .i64 s.s, .int .i64 s.d, .int .i64 s.m, .int .i64 ln] (0, 0) _ R0.out Tryz.underlying33 rfl (by kernel_rfl) ?_ | refine load_rowT (by rfl) 33 (.tmp 1) rfl w.heap.size rfl 33 #[.int .i64 op, .int .i64 sz, .int .i64 cd, .int .i64 fr, .int .i64 d.k, .int .i64 d.r, .int .i64 d.b, .int .i64 d.i, .int .i64 d.s, .int .i64 d.d, .int .i64 d.m, .int .i64 s.k, .int .i64 s.r, .int .i64 s.b, .int .i64 s.i, .int .i64 s.s, .int .i64 s.d, .int .i64 s.m, .int .i64 ln] (0, 0) _ R0.out Tryz.underlying33 rfl (by kernel_rfl) ?_ | (go_at_call 42; refine (CZ.out _).mono ?_; rintro e wz ⟨rfl, rfl⟩) | (go_at_call 22; with_reducible refine (CI1.out _).mono ?_; rintro e wz ⟨rfl, rfl⟩) | (go_at_call 22; with_reducible refine (CI2.out _).mono ?_; rintro e wz ⟨rfl, rfl⟩))
        go_ret
        exact ⟨rfl, B0.out⟩
      · cases b1
        · go_enter Tryz.func23, Tryz.ntmps23
          go_wp2_with (first | refine wpList_load_row rfl 33 (.tmp 1) rfl w.heap.size rfl 33 #[.int .i64 op, .int .i64 sz, .int .i64 cd, .int .i64 fr, .int .i64 d.k, .int .i64 d.r, .int .i64 d.b, .int .i64 d.i, .int .i64 d.s, .int .i64 d.d, .int .i64 d.m, .int .i64 s.k, .int .i64 s.r, .int .i64 s.b, .int .i64 s.i, .int .i64 s.s, .int .i64 s.d, .int .i64 s.m, .int .i64 ln] (0, 0) _ R0.out Tryz.underlying33 rfl (by kernel_rfl) ?_ | refine load_rowT (by rfl) 33 (.tmp 1) rfl w.heap.size rfl 33 #[.int .i64 op, .int .i64 sz, .int .i64 cd, .int .i64 fr, .int .i64 d.k, .int .i64 d.r, .int .i64 d.b, .int .i64 d.i, .int .i64 d.s, .int .i64 d.d, .int .i64 d.m, .int .i64 s.k, .int .i64 s.r, .int .i64 s.b, .int .i64 s.i, .int .i64 s.s, .int .i64 s.d, .int .i64 s.m, .int .i64 ln] (0, 0) _ R0.out Tryz.underlying33 rfl (by kernel_rfl) ?_ | (go_at_call 42; refine (CZ.out _).mono ?_; rintro e wz ⟨rfl, rfl⟩) | (go_at_call 22; with_reducible refine (CI1.out _).mono ?_; rintro e wz ⟨rfl, rfl⟩) | (go_at_call 22; with_reducible refine (CI2.out _).mono ?_; rintro e wz ⟨rfl, rfl⟩))
          refine (CT.out (w.heap.size + 1) 4 4 _ rfl (by decide) (by simp) (nm2_new _ [(114, 114), (109, 114), (114, 105), (109, 105)] _ _ (by simp))).mono ?_
          rintro e w2 ⟨rfl, hb⟩
          have B2 := Lib.hid (belT B0.out hb)
          have R2 := Lib.hid (rowT R0.out hb)
          clear hb
          go_wp2
          go_ret
          exact ⟨rfl, B2.out⟩
        · go_enter Tryz.func23, Tryz.ntmps23
          go_wp2_with (first | refine wpList_load_row rfl 33 (.tmp 1) rfl w.heap.size rfl 33 #[.int .i64 op, .int .i64 sz, .int .i64 cd, .int .i64 fr, .int .i64 d.k, .int .i64 d.r, .int .i64 d.b, .int .i64 d.i, .int .i64 d.s, .int .i64 d.d, .int .i64 d.m, .int .i64 s.k, .int .i64 s.r, .int .i64 s.b, .int .i64 s.i, .int .i64 s.s, .int .i64 s.d, .int .i64 s.m, .int .i64 ln] (0, 0) _ R0.out Tryz.underlying33 rfl (by kernel_rfl) ?_ | refine load_rowT (by rfl) 33 (.tmp 1) rfl w.heap.size rfl 33 #[.int .i64 op, .int .i64 sz, .int .i64 cd, .int .i64 fr, .int .i64 d.k, .int .i64 d.r, .int .i64 d.b, .int .i64 d.i, .int .i64 d.s, .int .i64 d.d, .int .i64 d.m, .int .i64 s.k, .int .i64 s.r, .int .i64 s.b, .int .i64 s.i, .int .i64 s.s, .int .i64 s.d, .int .i64 s.m, .int .i64 ln] (0, 0) _ R0.out Tryz.underlying33 rfl (by kernel_rfl) ?_ | (go_at_call 42; refine (CZ.out _).mono ?_; rintro e wz ⟨rfl, rfl⟩) | (go_at_call 22; with_reducible refine (CI1.out _).mono ?_; rintro e wz ⟨rfl, rfl⟩) | (go_at_call 22; with_reducible refine (CI2.out _).mono ?_; rintro e wz ⟨rfl, rfl⟩))
          refine (CT.out (w.heap.size + 1) 4 4 _ rfl (by decide) (by simp) (nm2_new _ [(114, 114), (109, 114), (114, 105), (109, 105)] _ _ (by simp))).mono ?_
          rintro e w2 ⟨rfl, hb⟩
          have B2 := Lib.hid (belT B0.out hb)
          have R2 := Lib.hid (rowT R0.out hb)
          clear hb
          have c1 := cell_of_row _ _ 1 _ _ _ R2.out
          have c17 := cell_of_row _ _ 17 _ _ _ R2.out
          simp only [List.getElem?_toArray, List.getElem?_cons_zero, List.getElem?_cons_succ] at c1 c17
          go_wp2_with (first | refine wpList_load_row rfl 33 (.tmp 1) rfl w.heap.size rfl 33 #[.int .i64 op, .int .i64 sz, .int .i64 cd, .int .i64 fr, .int .i64 d.k, .int .i64 d.r, .int .i64 d.b, .int .i64 d.i, .int .i64 d.s, .int .i64 d.d, .int .i64 d.m, .int .i64 s.k, .int .i64 s.r, .int .i64 s.b, .int .i64 s.i, .int .i64 s.s, .int .i64 s.d, .int .i64 s.m, .int .i64 ln] (0, 0) _ R2.out Tryz.underlying33 rfl (by kernel_rfl) ?_ | refine load_rowT (by rfl) 33 (.tmp 1) rfl w.heap.size rfl 33 #[.int .i64 op, .int .i64 sz, .int .i64 cd, .int .i64 fr, .int .i64 d.k, .int .i64 d.r, .int .i64 d.b, .int .i64 d.i, .int .i64 d.s, .int .i64 d.d, .int .i64 d.m, .int .i64 s.k, .int .i64 s.r, .int .i64 s.b, .int .i64 s.i, .int .i64 s.s, .int .i64 s.d, .int .i64 s.m, .int .i64 ln] (0, 0) _ R2.out Tryz.underlying33 rfl (by kernel_rfl) ?_ | (go_at_call 42; refine (CZ.out _).mono ?_; rintro e wz ⟨rfl, rfl⟩) | (go_at_call 22; with_reducible refine (CI1.out _).mono ?_; rintro e wz ⟨rfl, rfl⟩) | (go_at_call 22; with_reducible refine (CI2.out _).mono ?_; rintro e wz ⟨rfl, rfl⟩) | (go_at_call 22; with_reducible refine (CI3.out _).mono ?_; rintro e wz ⟨rfl, rfl⟩))
          go_ret
          exact ⟨rfl, B2.out⟩
    · have e2 : (s.r != 1) = true := bne_iff_ne.mpr h2
      rw [decide_eq_true (show s.k = 1 ∧ s.r ≠ 1 from ⟨h1, h2⟩)]
      clear h1 h2
      cases b0
      · go_enter Tryz.func23, Tryz.ntmps23
        go_wp2_with (first | refine wpList_load_row rfl 33 (.tmp 1) rfl w.heap.size rfl 33 #[.int .i64 op, .int .i64 sz, .int .i64 cd, .int .i64 fr, .int .i64 d.k, .int .i64 d.r, .int .i64 d.b, .int .i64 d.i, .int .i64 d.s, .int .i64 d.d, .int .i64 d.m, .int .i64 s.k, .int .i64 s.r, .int .i64 s.b, .int .i64 s.i, .int .i64 s.s, .int .i64 s.d, .int .i64 s.m, .int .i64 ln] (0, 0) _ R0.out Tryz.underlying33 rfl (by kernel_rfl) ?_ | refine load_rowT (by rfl) 33 (.tmp 1) rfl w.heap.size rfl 33 #[.int .i64 op, .int .i64 sz, .int .i64 cd, .int .i64 fr, .int .i64 d.k, .int .i64 d.r, .int .i64 d.b, .int .i64 d.i, .int .i64 d.s, .int .i64 d.d, .int .i64 d.m, .int .i64 s.k, .int .i64 s.r, .int .i64 s.b, .int .i64 s.i, .int .i64 s.s, .int .i64 s.d, .int .i64 s.m, .int .i64 ln] (0, 0) _ R0.out Tryz.underlying33 rfl (by kernel_rfl) ?_ | (go_at_call 42; refine (CZ.out _).mono ?_; rintro e wz ⟨rfl, rfl⟩) | (go_at_call 22; with_reducible refine (CI1.out _).mono ?_; rintro e wz ⟨rfl, rfl⟩) | (go_at_call 22; with_reducible refine (CI2.out _).mono ?_; rintro e wz ⟨rfl, rfl⟩))
        go_ret
        exact ⟨rfl, B0.out⟩
      · go_enter Tryz.func23, Tryz.ntmps23
        go_wp2_with (first | refine wpList_load_row rfl 33 (.tmp 1) rfl w.heap.size rfl 33 #[.int .i64 op, .int .i64 sz, .int .i64 cd, .int .i64 fr, .int .i64 d.k, .int .i64 d.r, .int .i64 d.b, .int .i64 d.i, .int .i64 d.s, .int .i64 d.d, .int .i64 d.m, .int .i64 s.k, .int .i64 s.r, .int .i64 s.b, .int .i64 s.i, .int .i64 s.s, .int .i64 s.d, .int .i64 s.m, .int .i64 ln] (0, 0) _ R0.out Tryz.underlying33 rfl (by kernel_rfl) ?_ | refine load_rowT (by rfl) 33 (.tmp 1) rfl w.heap.size rfl 33 #[.int .i64 op, .int .i64 sz, .int .i64 cd, .int .i64 fr, .int .i64 d.k, .int .i64 d.r, .int .i64 d.b, .int .i64 d.i, .int .i64 d.s, .int .i64 d.d, .int .i64 d.m, .int .i64 s.k, .int .i64 s.r, .int .i64 s.b, .int .i64 s.i, .int .i64 s.s, .int .i64 s.d, .int .i64 s.m, .int .i64 ln] (0, 0) _ R0.out Tryz.underlying33 rfl (by kernel_rfl) ?_ | (go_at_call 42; refine (CZ.out _).mono ?_; rintro e wz ⟨rfl, rfl⟩) | (go_at_call 22; with_reducible refine (CI1.out _).mono ?_; rintro e wz ⟨rfl, rfl⟩) | (go_at_call 22; with_reducible refine (CI2.out _).mono ?_; rintro e wz ⟨rfl, rfl⟩))
        go_ret
        exact ⟨rfl, B0.out⟩
  · have e1 : (s.k == 1) = false := beq_eq_false_iff_ne.mpr h1
    rw [decide_eq_false (show ¬ (s.k = 1 ∧ s.r ≠ 1) from fun e => h1 e.1)]
    clear h1
    cases b0
    · go_enter Tryz.func23, Tryz.ntmps23
      go_wp2_with (first | refine wpList_load_row rfl 33 (.tmp 1) rfl w.heap.size rfl 33 #[.int .i64 op, .int .i64 sz, .int .i64 cd, .int .i64 fr, .int .i64 d.k, .int .i64 d.r, .int .i64 d.b, .int .i64 d.i, .int .i64 d.s, .int .i64 d.d, .int .i64 d.m, .int .i64 s.k, .int .i64 s.r, .int .i64 s.b, .int .i64 s.i, .int .i64 s.s, .int .i64 s.d, .int .i64 s.m, .int .i64 ln] (0, 0) _ R0.out Tryz.underlying33 rfl (by kernel_rfl) ?_ | refine load_rowT (by rfl) 33 (.tmp 1) rfl w.heap.size rfl 33 #[.int .i64 op, .int .i64 sz, .int .i64 cd, .int .i64 fr, .int .i64 d.k, .int .i64 d.r, .int .i64 d.b, .int .i64 d.i, .int .i64 d.s, .int .i64 d.d, .int .i64 d.m, .int .i64 s.k, .int .i64 s.r, .int .i64 s.b, .int .i64 s.i, .int .i64 s.s, .int .i64 s.d, .int .i64 s.m, .int .i64 ln] (0, 0) _ R0.out Tryz.underlying33 rfl (by kernel_rfl) ?_ | (go_at_call 42; refine (CZ.out _).mono ?_; rintro e wz ⟨rfl, rfl⟩) | (go_at_call 22; with_reducible refine (CI1.out _).mono ?_; rintro e wz ⟨rfl, rfl⟩) | (go_at_call 22; with_reducible refine (CI2.out _).mono ?_; rintro e wz ⟨rfl, rfl⟩))
      go_ret
      exact ⟨rfl, B0.out⟩
    · cases b1
      · go_enter Tryz.func23, Tryz.ntmps23
        go_wp2_with (first | refine wpList_load_row rfl 33 (.tmp 1) rfl w.heap.size rfl 33 #[.int .i64 op, .int .i64 sz, .int .i64 cd, .int .i64 fr, .int .i64 d.k, .int .i64 d.r, .int .i64 d.b, .int .i64 d.i, .int .i64 d.s, .int .i64 d.d, .int .i64 d.m, .int .i64 s.k, .int .i64 s.r, .int .i64 s.b, .int .i64 s.i, .int .i64 s.s, .int .i64 s.d, .int .i64 s.m, .int .i64 ln] (0, 0) _ R0.out Tryz.underlying33 rfl (by kernel_rfl) ?_ | refine load_rowT (by rfl) 33 (.tmp 1) rfl w.heap.size rfl 33 #[.int .i64 op, .int .i64 sz, .int .i64 cd, .int .i64 fr, .int .i64 d.k, .int .i64 d.r, .int .i64 d.b, .int .i64 d.i, .int .i64 d.s, .int .i64 d.d, .int .i64 d.m, .int .i64 s.k, .int .i64 s.r, .int .i64 s.b, .int .i64 s.i, .int .i64 s.s, .int .i64 s.d, .int .i64 s.m, .int .i64 ln] (0, 0) _ R0.out Tryz.underlying33 rfl (by kernel_rfl) ?_ | (go_at_call 42; refine (CZ.out _).mono ?_; rintro e wz ⟨rfl, rfl⟩) | (go_at_call 22; with_reducible refine (CI1.out _).mono ?_; rintro e wz ⟨rfl, rfl⟩) | (go_at_call 22; with_reducible refine (CI2.out _).mono ?_; rintro e wz ⟨rfl, rfl⟩))
        refine (CT.out (w.heap.size + 1) 4 4 _ rfl (by decide) (by simp) (nm2_new _ [(114, 114), (109, 114), (114, 105), (109, 105)] _ _ (by simp))).mono ?_
        rintro e w2 ⟨rfl, hb⟩
        have B2 := Lib.hid (belT B0.out hb)
        have R2 := Lib.hid (rowT R0.out hb)
        clear hb
        go_wp2
        go_ret
        exact ⟨rfl, B2.out⟩
      · go_enter Tryz.func23, Tryz.ntmps23
        go_wp2_with (first | refine wpList_load_row rfl 33 (.tmp 1) rfl w.heap.size rfl 33 #[.int .i64 op, .int .i64 sz, .int .i64 cd, .int .i64 fr, .int .i64 d.k, .int .i64 d.r, .int .i64 d.b, .int .i64 d.i, .int .i64 d.s, .int .i64 d.d, .int .i64 d.m, .int .i64 s.k, .int .i64 s.r, .int .i64 s.b, .int .i64 s.i, .int .i64 s.s, .int .i64 s.d, .int .i64 s.m, .int .i64 ln] (0, 0) _ R0.out Tryz.underlying33 rfl (by kernel_rfl) ?_ | refine load_rowT (by rfl) 33 (.tmp 1) rfl w.heap.size rfl 33 #[.int .i64 op, .int .i64 sz, .int .i64 cd, .int .i64 fr, .int .i64 d.k, .int .i64 d.r, .int .i64 d.b, .int .i64 d.i, .int .i64 d.s, .int .i64 d.d, .int .i64 d.m, .int .i64 s.k, .int .i64 s.r, .int .i64 s.b, .int .i64 s.i, .int .i64 s.s, .int .i64 s.d, .int .i64 s.m, .int .i64 ln] (0, 0) _ R0.out Tryz.underlying33 rfl (by kernel_rfl) ?_ | (go_at_call 42; refine (CZ.out _).mono ?_; rintro e wz ⟨rfl, rfl⟩) | (go_at_call 22; with_reducible refine (CI1.out _).mono ?_; rintro e wz ⟨rfl, rfl⟩) | (go_at_call 22; with_reducible refine (CI2.out _).mono ?_; rintro e wz ⟨rfl, rfl⟩))
        refine (CT.out (w.heap.size + 1) 4 4 _ rfl (by decide) (by simp) (nm2_new _ [(114, 114), (109, 114), (114, 105), (109, 105)] _ _ (by simp))).mono ?_
        rintro e w2 ⟨rfl, hb⟩
        have B2 := Lib.hid (belT B0.out hb)
        have R2 := Lib.hid (rowT R0.out hb)
        clear hb
        have c1 := cell_of_row _ _ 1 _ _ _ R2.out
        have c17 := cell_of_row _ _ 17 _ _ _ R2.out
        simp only [List.getElem?_toArray, List.getElem?_cons_zero, List.getElem?_cons_succ] at c1 c17
        go_wp2_with (first | refine wpList_load_row rfl 33 (.tmp 1) rfl w.heap.size rfl 33 #[.int .i64 op, .int .i64 sz, .int .i64 cd, .int .i64 fr, .int .i64 d.k, .int .i64 d.r, .int .i64 d.b, .int .i64 d.i, .int .i64 d.s, .int .i64 d.d, .int .i64 d.m, .int .i64 s.k, .int .i64 s.r, .int .i64 s.b, .int .i64 s.i, .int .i64 s.s, .int .i64 s.d, .int .i64 s.m, .int .i64 ln] (0, 0) _ R2.out Tryz.underlying33 rfl (by kernel_rfl) ?_ | refine load_rowT (by rfl) 33 (.tmp 1) rfl w.heap.size rfl 33 #[.int .i64 op, .int .i64 sz, .int .i64 cd, .int .i64 fr, .int .i64 d.k, .int .i64 d.r, .int .i64 d.b, .int .i64 d.i, .int .i64 d.s, .int .i64 d.d, .int .i64 d.m, .int .i64 s.k, .int .i64 s.r, .int .i64 s.b, .int .i64 s.i, .int .i64 s.s, .int .i64 s.d, .int .i64 s.m, .int .i64 ln] (0, 0) _ R2.out Tryz.underlying33 rfl (by kernel_rfl) ?_ | (go_at_call 42; refine (CZ.out _).mono ?_; rintro e wz ⟨rfl, rfl⟩) | (go_at_call 22; with_reducible refine (CI1.out _).mono ?_; rintro e wz ⟨rfl, rfl⟩) | (go_at_call 22; with_reducible refine (CI2.out _).mono ?_; rintro e wz ⟨rfl, rfl⟩) | (go_at_call 22; with_reducible refine (CI3.out _).mono ?_; rintro e wz ⟨rfl, rfl⟩))
        go_ret
        exact ⟨rfl, B2.out⟩
end Go.Proofs.YtjnjlgaemmdkhaaGreatDoor
