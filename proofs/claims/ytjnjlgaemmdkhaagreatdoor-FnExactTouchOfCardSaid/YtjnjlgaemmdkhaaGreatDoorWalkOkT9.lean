/-
  Ways of l05Shape of spec, by operation; conditions: those in each head.
-/
import Derived.Test.YtjnjlgaemmdkhaaGreatDoorWalkOkT4
namespace Go.Proofs.YtjnjlgaemmdkhaaGreatDoor
open Go.RowKit Go.Sort
set_option linter.unusedVariables false
set_option linter.unusedSimpArgs false
set_option maxRecDepth 100000 in
set_option maxHeartbeats 16000000 in
theorem shp41 (x : Ins) (w : World) (ho : x.op = 41 ∨ x.op = 42) : Calls Tryz.prog 23 #[.agg (insV x)] w fun e w' => e = .returned (.bool (decide (x.sz = 1) && kin2 [(48, 48)] x.d.k x.s.k)) ∧ Below w.heap.size w w' := by
  have CT := Lib.hid (twoS5 x [(48, 48)])
  obtain ⟨b1, q1⟩ : ∃ v, v = kin2 [(48, 48)] x.d.k x.s.k := ⟨_, rfl⟩
  rw [← q1] at CT ⊢
  clear q1
  have CY := Lib.hid (fun h W => sizeYes x.sz W h); have CN := Lib.hid (fun h W => sizeNo x.sz W h)
  obtain ⟨op, sz, cd, fr, d, s, ln⟩ := x
  have R0 := Lib.hid (heap_alloc_new w (.cells #[.int .i64 op, .int .i64 sz, .int .i64 cd, .int .i64 fr, .int .i64 d.k, .int .i64 d.r, .int .i64 d.b, .int .i64 d.i, .int .i64 d.s, .int .i64 d.d, .int .i64 d.m, .int .i64 s.k, .int .i64 s.r, .int .i64 s.b, .int .i64 s.i, .int .i64 s.s, .int .i64 s.d, .int .i64 s.m, .int .i64 ln] 33))
  have B0 := Lib.hid (belA w (.cells #[.int .i64 op, .int .i64 sz, .int .i64 cd, .int .i64 fr, .int .i64 d.k, .int .i64 d.r, .int .i64 d.b, .int .i64 d.i, .int .i64 d.s, .int .i64 d.d, .int .i64 d.m, .int .i64 s.k, .int .i64 s.r, .int .i64 s.b, .int .i64 s.i, .int .i64 s.s, .int .i64 s.d, .int .i64 s.m, .int .i64 ln] 33))
  simp only at CT CY CN ho
  unfold insV insA
  simp only
  rcases ho with rfl | rfl
  · have CI1 := Lib.hid (fun W => inNo 41 13 16 W (by decide))
    have CI2 := Lib.hid (fun W => inNo 41 20 24 W (by decide))
    by_cases hz : sz = 1
    · subst hz
      have CZ := Lib.hid (CY.out (by unfold okSize; omega))
      rw [decide_eq_true rfl]
      clear CY CN
      cases b1
      · go_enter Tryz.func23, Tryz.ntmps23
        go_wp2_with (first | refine wpList_load_row rfl 33 (.tmp 1) rfl w.heap.size rfl 33 #[.int .i64 41, .int .i64 1, .int .i64 cd, .int .i64 fr, .int .i64 d.k, .int .i64 d.r, .int .i64 d.b, .int .i64 d.i, .int .i64 d.s, .int .i64 d.d, .int .i64 d.m, .int .i64 s.k, .int .i64 s.r, .int .i64 s.b, .int .i64 s.i, .int .i64 s.s, .int .i64 s.d, .int .i64 s.m, .int .i64 ln] (0, 0) _ R0.out Tryz.underlying33 rfl (by kernel_rfl) ?_ | refine load_rowT (by rfl) 33 (.tmp 1) rfl w.heap.size rfl 33 #[.int .i64 41, .int .i64 1, .int .i64 cd, .int .i64 fr, .int .i64 d.k, .int .i64 d.r, .int .i64 d.b, .int .i64 d.i, .int .i64 d.s, .int .i64 d.d, .int .i64 d.m, .int .i64 s.k, .int .i64 s.r, .int .i64 s.b, .int .i64 s.i, .int .i64 s.s, .int .i64 s.d, .int .i64 s.m, .int .i64 ln] (0, 0) _ R0.out Tryz.underlying33 rfl (by kernel_rfl) ?_ | (go_at_call 42; refine (CZ.out _).mono ?_; rintro e wz ⟨rfl, rfl⟩) | (go_at_call 22; with_reducible refine (CI1.out _).mono ?_; rintro e wz ⟨rfl, rfl⟩) | (go_at_call 22; with_reducible refine (CI2.out _).mono ?_; rintro e wz ⟨rfl, rfl⟩))
        refine (CT.out (w.heap.size + 1) 1 1 _ rfl (by decide) (by simp) (nm2_new _ [(48, 48)] _ _ (by simp))).mono ?_
        rintro e w2 ⟨rfl, hb⟩
        have B2 := Lib.hid (belT B0.out hb)
        have R2 := Lib.hid (rowT R0.out hb)
        clear hb
        go_wp2
        go_ret
        exact ⟨rfl, B2.out⟩
      · go_enter Tryz.func23, Tryz.ntmps23
        go_wp2_with (first | refine wpList_load_row rfl 33 (.tmp 1) rfl w.heap.size rfl 33 #[.int .i64 41, .int .i64 1, .int .i64 cd, .int .i64 fr, .int .i64 d.k, .int .i64 d.r, .int .i64 d.b, .int .i64 d.i, .int .i64 d.s, .int .i64 d.d, .int .i64 d.m, .int .i64 s.k, .int .i64 s.r, .int .i64 s.b, .int .i64 s.i, .int .i64 s.s, .int .i64 s.d, .int .i64 s.m, .int .i64 ln] (0, 0) _ R0.out Tryz.underlying33 rfl (by kernel_rfl) ?_ | refine load_rowT (by rfl) 33 (.tmp 1) rfl w.heap.size rfl 33 #[.int .i64 41, .int .i64 1, .int .i64 cd, .int .i64 fr, .int .i64 d.k, .int .i64 d.r, .int .i64 d.b, .int .i64 d.i, .int .i64 d.s, .int .i64 d.d, .int .i64 d.m, .int .i64 s.k, .int .i64 s.r, .int .i64 s.b, .int .i64 s.i, .int .i64 s.s, .int .i64 s.d, .int .i64 s.m, .int .i64 ln] (0, 0) _ R0.out Tryz.underlying33 rfl (by kernel_rfl) ?_ | (go_at_call 42; refine (CZ.out _).mono ?_; rintro e wz ⟨rfl, rfl⟩) | (go_at_call 22; with_reducible refine (CI1.out _).mono ?_; rintro e wz ⟨rfl, rfl⟩) | (go_at_call 22; with_reducible refine (CI2.out _).mono ?_; rintro e wz ⟨rfl, rfl⟩))
        refine (CT.out (w.heap.size + 1) 1 1 _ rfl (by decide) (by simp) (nm2_new _ [(48, 48)] _ _ (by simp))).mono ?_
        rintro e w2 ⟨rfl, hb⟩
        have B2 := Lib.hid (belT B0.out hb)
        have R2 := Lib.hid (rowT R0.out hb)
        clear hb
        go_wp2
        go_ret
        exact ⟨rfl, B2.out⟩
    · rw [decide_eq_false hz]
      have hz2 : (sz == 1) = false := beq_eq_false_iff_ne.mpr hz
      clear hz
      by_cases hy : okSize sz
      · have CZ := Lib.hid (CY.out hy)
        clear CY CN hy
        go_enter Tryz.func23, Tryz.ntmps23
        go_wp2_with (first | refine wpList_load_row rfl 33 (.tmp 1) rfl w.heap.size rfl 33 #[.int .i64 41, .int .i64 sz, .int .i64 cd, .int .i64 fr, .int .i64 d.k, .int .i64 d.r, .int .i64 d.b, .int .i64 d.i, .int .i64 d.s, .int .i64 d.d, .int .i64 d.m, .int .i64 s.k, .int .i64 s.r, .int .i64 s.b, .int .i64 s.i, .int .i64 s.s, .int .i64 s.d, .int .i64 s.m, .int .i64 ln] (0, 0) _ R0.out Tryz.underlying33 rfl (by kernel_rfl) ?_ | refine load_rowT (by rfl) 33 (.tmp 1) rfl w.heap.size rfl 33 #[.int .i64 41, .int .i64 sz, .int .i64 cd, .int .i64 fr, .int .i64 d.k, .int .i64 d.r, .int .i64 d.b, .int .i64 d.i, .int .i64 d.s, .int .i64 d.d, .int .i64 d.m, .int .i64 s.k, .int .i64 s.r, .int .i64 s.b, .int .i64 s.i, .int .i64 s.s, .int .i64 s.d, .int .i64 s.m, .int .i64 ln] (0, 0) _ R0.out Tryz.underlying33 rfl (by kernel_rfl) ?_ | (go_at_call 42; refine (CZ.out _).mono ?_; rintro e wz ⟨rfl, rfl⟩) | (go_at_call 22; with_reducible refine (CI1.out _).mono ?_; rintro e wz ⟨rfl, rfl⟩) | (go_at_call 22; with_reducible refine (CI2.out _).mono ?_; rintro e wz ⟨rfl, rfl⟩))
        go_ret
        exact ⟨rfl, B0.out⟩
      · have CZ := Lib.hid (CN.out hy)
        clear CY CN hy
        go_enter Tryz.func23, Tryz.ntmps23
        go_wp2_with (first | refine wpList_load_row rfl 33 (.tmp 1) rfl w.heap.size rfl 33 #[.int .i64 41, .int .i64 sz, .int .i64 cd, .int .i64 fr, .int .i64 d.k, .int .i64 d.r, .int .i64 d.b, .int .i64 d.i, .int .i64 d.s, .int .i64 d.d, .int .i64 d.m, .int .i64 s.k, .int .i64 s.r, .int .i64 s.b, .int .i64 s.i, .int .i64 s.s, .int .i64 s.d, .int .i64 s.m, .int .i64 ln] (0, 0) _ R0.out Tryz.underlying33 rfl (by kernel_rfl) ?_ | refine load_rowT (by rfl) 33 (.tmp 1) rfl w.heap.size rfl 33 #[.int .i64 41, .int .i64 sz, .int .i64 cd, .int .i64 fr, .int .i64 d.k, .int .i64 d.r, .int .i64 d.b, .int .i64 d.i, .int .i64 d.s, .int .i64 d.d, .int .i64 d.m, .int .i64 s.k, .int .i64 s.r, .int .i64 s.b, .int .i64 s.i, .int .i64 s.s, .int .i64 s.d, .int .i64 s.m, .int .i64 ln] (0, 0) _ R0.out Tryz.underlying33 rfl (by kernel_rfl) ?_ | (go_at_call 42; refine (CZ.out _).mono ?_; rintro e wz ⟨rfl, rfl⟩) | (go_at_call 22; with_reducible refine (CI1.out _).mono ?_; rintro e wz ⟨rfl, rfl⟩) | (go_at_call 22; with_reducible refine (CI2.out _).mono ?_; rintro e wz ⟨rfl, rfl⟩))
        go_ret
        exact ⟨rfl, B0.out⟩
  · have CI1 := Lib.hid (fun W => inNo 42 13 16 W (by decide))
    have CI2 := Lib.hid (fun W => inNo 42 20 24 W (by decide))
    by_cases hz : sz = 1
    · subst hz
      have CZ := Lib.hid (CY.out (by unfold okSize; omega))
      rw [decide_eq_true rfl]
      clear CY CN
      cases b1
      · go_enter Tryz.func23, Tryz.ntmps23
        go_wp2_with (first | refine wpList_load_row rfl 33 (.tmp 1) rfl w.heap.size rfl 33 #[.int .i64 42, .int .i64 1, .int .i64 cd, .int .i64 fr, .int .i64 d.k, .int .i64 d.r, .int .i64 d.b, .int .i64 d.i, .int .i64 d.s, .int .i64 d.d, .int .i64 d.m, .int .i64 s.k, .int .i64 s.r, .int .i64 s.b, .int .i64 s.i, .int .i64 s.s, .int .i64 s.d, .int .i64 s.m, .int .i64 ln] (0, 0) _ R0.out Tryz.underlying33 rfl (by kernel_rfl) ?_ | refine load_rowT (by rfl) 33 (.tmp 1) rfl w.heap.size rfl 33 #[.int .i64 42, .int .i64 1, .int .i64 cd, .int .i64 fr, .int .i64 d.k, .int .i64 d.r, .int .i64 d.b, .int .i64 d.i, .int .i64 d.s, .int .i64 d.d, .int .i64 d.m, .int .i64 s.k, .int .i64 s.r, .int .i64 s.b, .int .i64 s.i, .int .i64 s.s, .int .i64 s.d, .int .i64 s.m, .int .i64 ln] (0, 0) _ R0.out Tryz.underlying33 rfl (by kernel_rfl) ?_ | (go_at_call 42; refine (CZ.out _).mono ?_; rintro e wz ⟨rfl, rfl⟩) | (go_at_call 22; with_reducible refine (CI1.out _).mono ?_; rintro e wz ⟨rfl, rfl⟩) | (go_at_call 22; with_reducible refine (CI2.out _).mono ?_; rintro e wz ⟨rfl, rfl⟩))
        refine (CT.out (w.heap.size + 1) 1 1 _ rfl (by decide) (by simp) (nm2_new _ [(48, 48)] _ _ (by simp))).mono ?_
        rintro e w2 ⟨rfl, hb⟩
        have B2 := Lib.hid (belT B0.out hb)
        have R2 := Lib.hid (rowT R0.out hb)
        clear hb
        go_wp2
        go_ret
        exact ⟨rfl, B2.out⟩
      · go_enter Tryz.func23, Tryz.ntmps23
        go_wp2_with (first | refine wpList_load_row rfl 33 (.tmp 1) rfl w.heap.size rfl 33 #[.int .i64 42, .int .i64 1, .int .i64 cd, .int .i64 fr, .int .i64 d.k, .int .i64 d.r, .int .i64 d.b, .int .i64 d.i, .int .i64 d.s, .int .i64 d.d, .int .i64 d.m, .int .i64 s.k, .int .i64 s.r, .int .i64 s.b, .int .i64 s.i, .int .i64 s.s, .int .i64 s.d, .int .i64 s.m, .int .i64 ln] (0, 0) _ R0.out Tryz.underlying33 rfl (by kernel_rfl) ?_ | refine load_rowT (by rfl) 33 (.tmp 1) rfl w.heap.size rfl 33 #[.int .i64 42, .int .i64 1, .int .i64 cd, .int .i64 fr, .int .i64 d.k, .int .i64 d.r, .int .i64 d.b, .int .i64 d.i, .int .i64 d.s, .int .i64 d.d, .int .i64 d.m, .int .i64 s.k, .int .i64 s.r, .int .i64 s.b, .int .i64 s.i, .int .i64 s.s, .int .i64 s.d, .int .i64 s.m, .int .i64 ln] (0, 0) _ R0.out Tryz.underlying33 rfl (by kernel_rfl) ?_ | (go_at_call 42; refine (CZ.out _).mono ?_; rintro e wz ⟨rfl, rfl⟩) | (go_at_call 22; with_reducible refine (CI1.out _).mono ?_; rintro e wz ⟨rfl, rfl⟩) | (go_at_call 22; with_reducible refine (CI2.out _).mono ?_; rintro e wz ⟨rfl, rfl⟩))
        refine (CT.out (w.heap.size + 1) 1 1 _ rfl (by decide) (by simp) (nm2_new _ [(48, 48)] _ _ (by simp))).mono ?_
        rintro e w2 ⟨rfl, hb⟩
        have B2 := Lib.hid (belT B0.out hb)
        have R2 := Lib.hid (rowT R0.out hb)
        clear hb
        go_wp2
        go_ret
        exact ⟨rfl, B2.out⟩
    · rw [decide_eq_false hz]
      have hz2 : (sz == 1) = false := beq_eq_false_iff_ne.mpr hz
      clear hz
      by_cases hy : okSize sz
      · have CZ := Lib.hid (CY.out hy)
        clear CY CN hy
        go_enter Tryz.func23, Tryz.ntmps23
        go_wp2_with (first | refine wpList_load_row rfl 33 (.tmp 1) rfl w.heap.size rfl 33 #[.int .i64 42, .int .i64 sz, .int .i64 cd, .int .i64 fr, .int .i64 d.k, .int .i64 d.r, .int .i64 d.b, .int .i64 d.i, .int .i64 d.s, .int .i64 d.d, .int .i64 d.m, .int .i64 s.k, .int .i64 s.r, .int .i64 s.b, .int .i64 s.i, .int .i64 s.s, .int .i64 s.d, .int .i64 s.m, .int .i64 ln] (0, 0) _ R0.out Tryz.underlying33 rfl (by kernel_rfl) ?_ | refine load_rowT (by rfl) 33 (.tmp 1) rfl w.heap.size rfl 33 #[.int .i64 42, .int .i64 sz, .int .i64 cd, .int .i64 fr, .int .i64 d.k, .int .i64 d.r, .int .i64 d.b, .int .i64 d.i, .int .i64 d.s, .int .i64 d.d, .int .i64 d.m, .int .i64 s.k, .int .i64 s.r, .int .i64 s.b, .int .i64 s.i, .int .i64 s.s, .int .i64 s.d, .int .i64 s.m, .int .i64 ln] (0, 0) _ R0.out Tryz.underlying33 rfl (by kernel_rfl) ?_ | (go_at_call 42; refine (CZ.out _).mono ?_; rintro e wz ⟨rfl, rfl⟩) | (go_at_call 22; with_reducible refine (CI1.out _).mono ?_; rintro e wz ⟨rfl, rfl⟩) | (go_at_call 22; with_reducible refine (CI2.out _).mono ?_; rintro e wz ⟨rfl, rfl⟩))
        go_ret
        exact ⟨rfl, B0.out⟩
      · have CZ := Lib.hid (CN.out hy)
        clear CY CN hy
        go_enter Tryz.func23, Tryz.ntmps23
        go_wp2_with (first | refine wpList_load_row rfl 33 (.tmp 1) rfl w.heap.size rfl 33 #[.int .i64 42, .int .i64 sz, .int .i64 cd, .int .i64 fr, .int .i64 d.k, .int .i64 d.r, .int .i64 d.b, .int .i64 d.i, .int .i64 d.s, .int .i64 d.d, .int .i64 d.m, .int .i64 s.k, .int .i64 s.r, .int .i64 s.b, .int .i64 s.i, .int .i64 s.s, .int .i64 s.d, .int .i64 s.m, .int .i64 ln] (0, 0) _ R0.out Tryz.underlying33 rfl (by kernel_rfl) ?_ | refine load_rowT (by rfl) 33 (.tmp 1) rfl w.heap.size rfl 33 #[.int .i64 42, .int .i64 sz, .int .i64 cd, .int .i64 fr, .int .i64 d.k, .int .i64 d.r, .int .i64 d.b, .int .i64 d.i, .int .i64 d.s, .int .i64 d.d, .int .i64 d.m, .int .i64 s.k, .int .i64 s.r, .int .i64 s.b, .int .i64 s.i, .int .i64 s.s, .int .i64 s.d, .int .i64 s.m, .int .i64 ln] (0, 0) _ R0.out Tryz.underlying33 rfl (by kernel_rfl) ?_ | (go_at_call 42; refine (CZ.out _).mono ?_; rintro e wz ⟨rfl, rfl⟩) | (go_at_call 22; with_reducible refine (CI1.out _).mono ?_; rintro e wz ⟨rfl, rfl⟩) | (go_at_call 22; with_reducible refine (CI2.out _).mono ?_; rintro e wz ⟨rfl, rfl⟩))
        go_ret
        exact ⟨rfl, B0.out⟩
end Go.Proofs.YtjnjlgaemmdkhaaGreatDoor
