/-
  What l05Shape of spec does; conditions: those in each head.
-/
import Derived.Test.YtjnjlgaemmdkhaaGreatDoorWalkOkT3
namespace Go.Proofs.YtjnjlgaemmdkhaaGreatDoor
open Go.RowKit Go.Sort
set_option linter.unusedVariables false
set_option linter.unusedSimpArgs false
instance okSizeD (z : Int) : Decidable (okSize z) := by unfold okSize; infer_instance
theorem belT {w W W' : World} {o : Obj} (h : Below w.heap.size w W) (hb : Below (W.alloc o).heap.size (W.alloc o) W') : Below w.heap.size w W' := (h.alloc h.size o).trans (hb.mono (h.alloc h.size o).size)
theorem rowT {W W' : World} {o c : Obj} {g : Nat} (h : W.heap[g]? = some c) (hb : Below (W.alloc o).heap.size (W.alloc o) W') : W'.heap[g]? = some c := by
  have hg := lt_of_blk h
  have h2 := (((Below.refl _ _).alloc (Nat.le_refl W.heap.size) o).block _ hg).trans h
  exact (hb.block _ (lt_of_blk h2)).trans h2
theorem nm2_new (W : World) (l : List (UInt8 × UInt8)) (t : TypeId) (g : Nat) (hg : g = W.heap.size) : Nm2 (W.alloc (.cells (l.map fun p => Value.string ⟨#[p.1, p.2]⟩).toArray t)) g l := by
  subst hg
  intro k p e
  rw [cell_of_row _ _ k _ _ _ (heap_alloc_new W _)]
  simp [e]
set_option maxRecDepth 100000 in
set_option maxHeartbeats 4000000 in
theorem shpA1 (x : Ins) (w : World) (h1 : x.op ≤ 8) (hz : okSize x.sz) (CZ0 : ∀ W, Calls Tryz.prog 42 #[.int .i64 x.sz] W fun e w' => e = .returned (.bool true) ∧ W = w') :
    Calls Tryz.prog 23 #[.agg (insV x)] w fun e w' => e = .returned (.bool (kin2 [(114, 114), (109, 114), (114, 109), (114, 105), (109, 105)] x.d.k x.s.k && decide (fitP x.s.m x.sz))) ∧ Below w.heap.size w w' := by
  have CZ := Lib.hid CZ0
  have CF := Lib.hid (fun W => fitS5 x.s.m x.sz W hz)
  have CT := Lib.hid (twoS5 x [(114, 114), (109, 114), (114, 109), (114, 105), (109, 105)])
  clear CZ0
  obtain ⟨b1, q1⟩ : ∃ v, v = kin2 [(114, 114), (109, 114), (114, 109), (114, 105), (109, 105)] x.d.k x.s.k := ⟨_, rfl⟩
  obtain ⟨b2, q2⟩ : ∃ v, v = decide (fitP x.s.m x.sz) := ⟨_, rfl⟩
  rw [← q1] at CT ⊢; rw [← q2] at CF ⊢
  clear q1 q2 hz
  obtain ⟨op, sz, cd, fr, d, s, ln⟩ := x
  have R0 := Lib.hid (heap_alloc_new w (.cells #[.int .i64 op, .int .i64 sz, .int .i64 cd, .int .i64 fr, .int .i64 d.k, .int .i64 d.r, .int .i64 d.b, .int .i64 d.i, .int .i64 d.s, .int .i64 d.d, .int .i64 d.m, .int .i64 s.k, .int .i64 s.r, .int .i64 s.b, .int .i64 s.i, .int .i64 s.s, .int .i64 s.d, .int .i64 s.m, .int .i64 ln] 33))
  have B0 := Lib.hid (belA w (.cells #[.int .i64 op, .int .i64 sz, .int .i64 cd, .int .i64 fr, .int .i64 d.k, .int .i64 d.r, .int .i64 d.b, .int .i64 d.i, .int .i64 d.s, .int .i64 d.d, .int .i64 d.m, .int .i64 s.k, .int .i64 s.r, .int .i64 s.b, .int .i64 s.i, .int .i64 s.s, .int .i64 s.d, .int .i64 s.m, .int .i64 ln] 33))
  simp only at CZ CF CT h1
  unfold insV insA
  simp only
  cases b1
  case true =>
    go_enter Tryz.func23, Tryz.ntmps23
    go_wp2_with fail
    refine (CZ.out _).mono ?_
    rintro e w1 ⟨rfl, rfl⟩
    go_wp2_with (first | refine wpList_load_row rfl 33 (.tmp 1) rfl w.heap.size rfl 33 #[.int .i64 op, .int .i64 sz, .int .i64 cd, .int .i64 fr, .int .i64 d.k, .int .i64 d.r, .int .i64 d.b, .int .i64 d.i, .int .i64 d.s, .int .i64 d.d, .int .i64 d.m, .int .i64 s.k, .int .i64 s.r, .int .i64 s.b, .int .i64 s.i, .int .i64 s.s, .int .i64 s.d, .int .i64 s.m, .int .i64 ln] (0, 0) _ R0.out Tryz.underlying33 rfl (by kernel_rfl) ?_ | refine load_rowT (by rfl) 33 (.tmp 1) rfl w.heap.size rfl 33 #[.int .i64 op, .int .i64 sz, .int .i64 cd, .int .i64 fr, .int .i64 d.k, .int .i64 d.r, .int .i64 d.b, .int .i64 d.i, .int .i64 d.s, .int .i64 d.d, .int .i64 d.m, .int .i64 s.k, .int .i64 s.r, .int .i64 s.b, .int .i64 s.i, .int .i64 s.s, .int .i64 s.d, .int .i64 s.m, .int .i64 ln] (0, 0) _ R0.out Tryz.underlying33 rfl (by kernel_rfl) ?_)
    refine (CT.out (w.heap.size + 1) 5 5 _ rfl (by decide) (by simp) (nm2_new _ [(114, 114), (109, 114), (114, 109), (114, 105), (109, 105)] _ _ (by simp))).mono ?_
    rintro e w2 ⟨rfl, hb⟩
    have B2 := Lib.hid (belT B0.out hb)
    have R2 := Lib.hid (rowT R0.out hb)
    clear hb
    have c1 := cell_of_row _ _ 1 _ _ _ R2.out
    simp only [List.getElem?_toArray, List.getElem?_cons_zero, List.getElem?_cons_succ] at c1
    go_wp2_with fail
    refine (CF.out _).mono ?_
    rintro e w3 ⟨rfl, rfl⟩
    go_wp2
    go_ret
    exact ⟨rfl, B2.out⟩
  case false =>
    go_enter Tryz.func23, Tryz.ntmps23
    go_wp2_with fail
    refine (CZ.out _).mono ?_
    rintro e w1 ⟨rfl, rfl⟩
    go_wp2_with (first | refine wpList_load_row rfl 33 (.tmp 1) rfl w.heap.size rfl 33 #[.int .i64 op, .int .i64 sz, .int .i64 cd, .int .i64 fr, .int .i64 d.k, .int .i64 d.r, .int .i64 d.b, .int .i64 d.i, .int .i64 d.s, .int .i64 d.d, .int .i64 d.m, .int .i64 s.k, .int .i64 s.r, .int .i64 s.b, .int .i64 s.i, .int .i64 s.s, .int .i64 s.d, .int .i64 s.m, .int .i64 ln] (0, 0) _ R0.out Tryz.underlying33 rfl (by kernel_rfl) ?_ | refine load_rowT (by rfl) 33 (.tmp 1) rfl w.heap.size rfl 33 #[.int .i64 op, .int .i64 sz, .int .i64 cd, .int .i64 fr, .int .i64 d.k, .int .i64 d.r, .int .i64 d.b, .int .i64 d.i, .int .i64 d.s, .int .i64 d.d, .int .i64 d.m, .int .i64 s.k, .int .i64 s.r, .int .i64 s.b, .int .i64 s.i, .int .i64 s.s, .int .i64 s.d, .int .i64 s.m, .int .i64 ln] (0, 0) _ R0.out Tryz.underlying33 rfl (by kernel_rfl) ?_)
    refine (CT.out (w.heap.size + 1) 5 5 _ rfl (by decide) (by simp) (nm2_new _ [(114, 114), (109, 114), (114, 109), (114, 105), (109, 105)] _ _ (by simp))).mono ?_
    rintro e w2 ⟨rfl, hb⟩
    have B2 := Lib.hid (belT B0.out hb)
    clear hb
    go_wp2
    go_ret
    exact ⟨rfl, B2.out⟩
set_option maxRecDepth 100000 in
set_option maxHeartbeats 4000000 in
theorem shpA0 (x : Ins) (w : World) (h1 : x.op ≤ 8) (hz : ¬ okSize x.sz) : Calls Tryz.prog 23 #[.agg (insV x)] w fun e w' => e = .returned (.bool false) ∧ Below w.heap.size w w' := by
  have CZ := Lib.hid (fun W => sizeNo x.sz W hz)
  clear hz
  obtain ⟨op, sz, cd, fr, d, s, ln⟩ := x
  have R0 := Lib.hid (heap_alloc_new w (.cells #[.int .i64 op, .int .i64 sz, .int .i64 cd, .int .i64 fr, .int .i64 d.k, .int .i64 d.r, .int .i64 d.b, .int .i64 d.i, .int .i64 d.s, .int .i64 d.d, .int .i64 d.m, .int .i64 s.k, .int .i64 s.r, .int .i64 s.b, .int .i64 s.i, .int .i64 s.s, .int .i64 s.d, .int .i64 s.m, .int .i64 ln] 33))
  have B0 := Lib.hid (belA w (.cells #[.int .i64 op, .int .i64 sz, .int .i64 cd, .int .i64 fr, .int .i64 d.k, .int .i64 d.r, .int .i64 d.b, .int .i64 d.i, .int .i64 d.s, .int .i64 d.d, .int .i64 d.m, .int .i64 s.k, .int .i64 s.r, .int .i64 s.b, .int .i64 s.i, .int .i64 s.s, .int .i64 s.d, .int .i64 s.m, .int .i64 ln] 33))
  simp only at CZ h1
  unfold insV insA
  simp only
  go_enter Tryz.func23, Tryz.ntmps23
  go_wp2_with (first | refine wpList_load_row rfl 33 (.tmp 1) rfl w.heap.size rfl 33 #[.int .i64 op, .int .i64 sz, .int .i64 cd, .int .i64 fr, .int .i64 d.k, .int .i64 d.r, .int .i64 d.b, .int .i64 d.i, .int .i64 d.s, .int .i64 d.d, .int .i64 d.m, .int .i64 s.k, .int .i64 s.r, .int .i64 s.b, .int .i64 s.i, .int .i64 s.s, .int .i64 s.d, .int .i64 s.m, .int .i64 ln] (0, 0) _ R0.out Tryz.underlying33 rfl (by kernel_rfl) ?_ | refine load_rowT (by rfl) 33 (.tmp 1) rfl w.heap.size rfl 33 #[.int .i64 op, .int .i64 sz, .int .i64 cd, .int .i64 fr, .int .i64 d.k, .int .i64 d.r, .int .i64 d.b, .int .i64 d.i, .int .i64 d.s, .int .i64 d.d, .int .i64 d.m, .int .i64 s.k, .int .i64 s.r, .int .i64 s.b, .int .i64 s.i, .int .i64 s.s, .int .i64 s.d, .int .i64 s.m, .int .i64 ln] (0, 0) _ R0.out Tryz.underlying33 rfl (by kernel_rfl) ?_ | (go_at_call 42; refine (CZ.out _).mono ?_; rintro e wz ⟨rfl, rfl⟩) | (go_at_call 22; with_reducible refine (CI1.out _).mono ?_; rintro e wz ⟨rfl, rfl⟩) | (go_at_call 22; with_reducible refine (CI2.out _).mono ?_; rintro e wz ⟨rfl, rfl⟩))
  go_ret
  exact ⟨rfl, B0.out⟩
set_option maxRecDepth 100000 in
set_option maxHeartbeats 16000000 in
theorem shp10 (x : Ins) (w : World) (ho : x.op = 10) : Calls Tryz.prog 23 #[.agg (insV x)] w fun e w' => e = .returned (.bool (decide (okSize x.sz) && kin2 [(114, 114), (109, 114), (114, 105), (109, 105)] x.d.k x.s.k && decide (fitP x.s.m x.sz))) ∧ Below w.heap.size w w' := by
  have CT := Lib.hid (twoS5 x [(114, 114), (109, 114), (114, 105), (109, 105)])
  obtain ⟨b1, q1⟩ : ∃ v, v = kin2 [(114, 114), (109, 114), (114, 105), (109, 105)] x.d.k x.s.k := ⟨_, rfl⟩
  rw [← q1] at CT ⊢
  clear q1
  have CY := Lib.hid (fun h W => sizeYes x.sz W h); have CN := Lib.hid (fun h W => sizeNo x.sz W h)
  have CG := Lib.hid (fun (h : okSize x.sz) W => fitS5 x.s.m x.sz W h)
  obtain ⟨b2, q2⟩ : ∃ v, v = decide (fitP x.s.m x.sz) := ⟨_, rfl⟩
  rw [← q2] at CG ⊢
  clear q2
  obtain ⟨op, sz, cd, fr, d, s, ln⟩ := x
  have R0 := Lib.hid (heap_alloc_new w (.cells #[.int .i64 op, .int .i64 sz, .int .i64 cd, .int .i64 fr, .int .i64 d.k, .int .i64 d.r, .int .i64 d.b, .int .i64 d.i, .int .i64 d.s, .int .i64 d.d, .int .i64 d.m, .int .i64 s.k, .int .i64 s.r, .int .i64 s.b, .int .i64 s.i, .int .i64 s.s, .int .i64 s.d, .int .i64 s.m, .int .i64 ln] 33))
  have B0 := Lib.hid (belA w (.cells #[.int .i64 op, .int .i64 sz, .int .i64 cd, .int .i64 fr, .int .i64 d.k, .int .i64 d.r, .int .i64 d.b, .int .i64 d.i, .int .i64 d.s, .int .i64 d.d, .int .i64 d.m, .int .i64 s.k, .int .i64 s.r, .int .i64 s.b, .int .i64 s.i, .int .i64 s.s, .int .i64 s.d, .int .i64 s.m, .int .i64 ln] 33))
  simp only at CT CY CN ho CG
  unfold insV insA
  simp only
  rcases ho with rfl
  · have CI1 := Lib.hid (fun W => inNo 10 13 16 W (by decide))
    have CI2 := Lib.hid (fun W => inNo 10 20 24 W (by decide))
    by_cases hz : okSize sz
    · have CZ := Lib.hid (CY.out hz)
      have CF := Lib.hid (CG.out hz)
      rw [decide_eq_true hz]
      clear CY CN hz CG
      cases b1
      · go_enter Tryz.func23, Tryz.ntmps23
        go_wp2_with (first | refine wpList_load_row rfl 33 (.tmp 1) rfl w.heap.size rfl 33 #[.int .i64 10, .int .i64 sz, .int .i64 cd, .int .i64 fr, .int .i64 d.k, .int .i64 d.r, .int .i64 d.b, .int .i64 d.i, .int .i64 d.s, .int .i64 d.d, .int .i64 d.m, .int .i64 s.k, .int .i64 s.r, .int .i64 s.b, .int .i64 s.i, .int .i64 s.s, .int .i64 s.d, .int .i64 s.m, .int .i64 ln] (0, 0) _ R0.out Tryz.underlying33 rfl (by kernel_rfl) ?_ | refine load_rowT (by rfl) 33 (.tmp 1) rfl w.heap.size rfl 33 #[.int .i64 10, .int .i64 sz, .int .i64 cd, .int .i64 fr, .int .i64 d.k, .int .i64 d.r, .int .i64 d.b, .int .i64 d.i, .int .i64 d.s, .int .i64 d.d, .int .i64 d.m, .int .i64 s.k, .int .i64 s.r, .int .i64 s.b, .int .i64 s.i, .int .i64 s.s, .int .i64 s.d, .int .i64 s.m, .int .i64 ln] (0, 0) _ R0.out Tryz.underlying33 rfl (by kernel_rfl) ?_ | (go_at_call 42; refine (CZ.out _).mono ?_; rintro e wz ⟨rfl, rfl⟩) | (go_at_call 22; with_reducible refine (CI1.out _).mono ?_; rintro e wz ⟨rfl, rfl⟩) | (go_at_call 22; with_reducible refine (CI2.out _).mono ?_; rintro e wz ⟨rfl, rfl⟩) | (go_at_call 44; refine (CF.out _).mono ?_; rintro e wz ⟨rfl, rfl⟩))
        refine (CT.out (w.heap.size + 1) 4 4 _ rfl (by decide) (by simp) (nm2_new _ [(114, 114), (109, 114), (114, 105), (109, 105)] _ _ (by simp))).mono ?_
        rintro e w2 ⟨rfl, hb⟩
        have B2 := Lib.hid (belT B0.out hb)
        have R2 := Lib.hid (rowT R0.out hb)
        clear hb
        go_wp2
        go_ret
        exact ⟨rfl, B2.out⟩
      · go_enter Tryz.func23, Tryz.ntmps23
        go_wp2_with (first | refine wpList_load_row rfl 33 (.tmp 1) rfl w.heap.size rfl 33 #[.int .i64 10, .int .i64 sz, .int .i64 cd, .int .i64 fr, .int .i64 d.k, .int .i64 d.r, .int .i64 d.b, .int .i64 d.i, .int .i64 d.s, .int .i64 d.d, .int .i64 d.m, .int .i64 s.k, .int .i64 s.r, .int .i64 s.b, .int .i64 s.i, .int .i64 s.s, .int .i64 s.d, .int .i64 s.m, .int .i64 ln] (0, 0) _ R0.out Tryz.underlying33 rfl (by kernel_rfl) ?_ | refine load_rowT (by rfl) 33 (.tmp 1) rfl w.heap.size rfl 33 #[.int .i64 10, .int .i64 sz, .int .i64 cd, .int .i64 fr, .int .i64 d.k, .int .i64 d.r, .int .i64 d.b, .int .i64 d.i, .int .i64 d.s, .int .i64 d.d, .int .i64 d.m, .int .i64 s.k, .int .i64 s.r, .int .i64 s.b, .int .i64 s.i, .int .i64 s.s, .int .i64 s.d, .int .i64 s.m, .int .i64 ln] (0, 0) _ R0.out Tryz.underlying33 rfl (by kernel_rfl) ?_ | (go_at_call 42; refine (CZ.out _).mono ?_; rintro e wz ⟨rfl, rfl⟩) | (go_at_call 22; with_reducible refine (CI1.out _).mono ?_; rintro e wz ⟨rfl, rfl⟩) | (go_at_call 22; with_reducible refine (CI2.out _).mono ?_; rintro e wz ⟨rfl, rfl⟩) | (go_at_call 44; refine (CF.out _).mono ?_; rintro e wz ⟨rfl, rfl⟩))
        refine (CT.out (w.heap.size + 1) 4 4 _ rfl (by decide) (by simp) (nm2_new _ [(114, 114), (109, 114), (114, 105), (109, 105)] _ _ (by simp))).mono ?_
        rintro e w2 ⟨rfl, hb⟩
        have B2 := Lib.hid (belT B0.out hb)
        have R2 := Lib.hid (rowT R0.out hb)
        clear hb
        have c1 := cell_of_row _ _ 1 _ _ _ R2.out
        have c17 := cell_of_row _ _ 17 _ _ _ R2.out
        simp only [List.getElem?_toArray, List.getElem?_cons_zero, List.getElem?_cons_succ] at c1 c17
        go_wp2_with (first | refine wpList_load_row rfl 33 (.tmp 1) rfl w.heap.size rfl 33 #[.int .i64 10, .int .i64 sz, .int .i64 cd, .int .i64 fr, .int .i64 d.k, .int .i64 d.r, .int .i64 d.b, .int .i64 d.i, .int .i64 d.s, .int .i64 d.d, .int .i64 d.m, .int .i64 s.k, .int .i64 s.r, .int .i64 s.b, .int .i64 s.i, .int .i64 s.s, .int .i64 s.d, .int .i64 s.m, .int .i64 ln] (0, 0) _ R2.out Tryz.underlying33 rfl (by kernel_rfl) ?_ | refine load_rowT (by rfl) 33 (.tmp 1) rfl w.heap.size rfl 33 #[.int .i64 10, .int .i64 sz, .int .i64 cd, .int .i64 fr, .int .i64 d.k, .int .i64 d.r, .int .i64 d.b, .int .i64 d.i, .int .i64 d.s, .int .i64 d.d, .int .i64 d.m, .int .i64 s.k, .int .i64 s.r, .int .i64 s.b, .int .i64 s.i, .int .i64 s.s, .int .i64 s.d, .int .i64 s.m, .int .i64 ln] (0, 0) _ R2.out Tryz.underlying33 rfl (by kernel_rfl) ?_ | (go_at_call 42; refine (CZ.out _).mono ?_; rintro e wz ⟨rfl, rfl⟩) | (go_at_call 22; with_reducible refine (CI1.out _).mono ?_; rintro e wz ⟨rfl, rfl⟩) | (go_at_call 22; with_reducible refine (CI2.out _).mono ?_; rintro e wz ⟨rfl, rfl⟩) | (go_at_call 44; refine (CF.out _).mono ?_; rintro e wz ⟨rfl, rfl⟩))
        go_ret
        exact ⟨rfl, B2.out⟩
    · have CZ := Lib.hid (CN.out hz)
      have CF := CG
      rw [decide_eq_false hz]
      clear CY CN hz
      go_enter Tryz.func23, Tryz.ntmps23
      go_wp2_with (first | refine wpList_load_row rfl 33 (.tmp 1) rfl w.heap.size rfl 33 #[.int .i64 10, .int .i64 sz, .int .i64 cd, .int .i64 fr, .int .i64 d.k, .int .i64 d.r, .int .i64 d.b, .int .i64 d.i, .int .i64 d.s, .int .i64 d.d, .int .i64 d.m, .int .i64 s.k, .int .i64 s.r, .int .i64 s.b, .int .i64 s.i, .int .i64 s.s, .int .i64 s.d, .int .i64 s.m, .int .i64 ln] (0, 0) _ R0.out Tryz.underlying33 rfl (by kernel_rfl) ?_ | refine load_rowT (by rfl) 33 (.tmp 1) rfl w.heap.size rfl 33 #[.int .i64 10, .int .i64 sz, .int .i64 cd, .int .i64 fr, .int .i64 d.k, .int .i64 d.r, .int .i64 d.b, .int .i64 d.i, .int .i64 d.s, .int .i64 d.d, .int .i64 d.m, .int .i64 s.k, .int .i64 s.r, .int .i64 s.b, .int .i64 s.i, .int .i64 s.s, .int .i64 s.d, .int .i64 s.m, .int .i64 ln] (0, 0) _ R0.out Tryz.underlying33 rfl (by kernel_rfl) ?_ | (go_at_call 42; refine (CZ.out _).mono ?_; rintro e wz ⟨rfl, rfl⟩) | (go_at_call 22; with_reducible refine (CI1.out _).mono ?_; rintro e wz ⟨rfl, rfl⟩) | (go_at_call 22; with_reducible refine (CI2.out _).mono ?_; rintro e wz ⟨rfl, rfl⟩) | (go_at_call 44; refine (CF.out _).mono ?_; rintro e wz ⟨rfl, rfl⟩))
      go_ret
      exact ⟨rfl, B0.out⟩
set_option maxRecDepth 100000 in
set_option maxHeartbeats 16000000 in
theorem shp28 (x : Ins) (w : World) (ho : x.op = 28) : Calls Tryz.prog 23 #[.agg (insV x)] w fun e w' => e = .returned (.bool (decide (okSize x.sz) && kin2 [(114, 114), (109, 114)] x.d.k x.s.k)) ∧ Below w.heap.size w w' := by
  have CT := Lib.hid (twoS5 x [(114, 114), (109, 114)])
  obtain ⟨b1, q1⟩ : ∃ v, v = kin2 [(114, 114), (109, 114)] x.d.k x.s.k := ⟨_, rfl⟩
  rw [← q1] at CT ⊢
  clear q1
  have CY := Lib.hid (fun h W => sizeYes x.sz W h); have CN := Lib.hid (fun h W => sizeNo x.sz W h)
  obtain ⟨op, sz, cd, fr, d, s, ln⟩ := x
  have R0 := Lib.hid (heap_alloc_new w (.cells #[.int .i64 op, .int .i64 sz, .int .i64 cd, .int .i64 fr, .int .i64 d.k, .int .i64 d.r, .int .i64 d.b, .int .i64 d.i, .int .i64 d.s, .int .i64 d.d, .int .i64 d.m, .int .i64 s.k, .int .i64 s.r, .int .i64 s.b, .int .i64 s.i, .int .i64 s.s, .int .i64 s.d, .int .i64 s.m, .int .i64 ln] 33))
  have B0 := Lib.hid (belA w (.cells #[.int .i64 op, .int .i64 sz, .int .i64 cd, .int .i64 fr, .int .i64 d.k, .int .i64 d.r, .int .i64 d.b, .int .i64 d.i, .int .i64 d.s, .int .i64 d.d, .int .i64 d.m, .int .i64 s.k, .int .i64 s.r, .int .i64 s.b, .int .i64 s.i, .int .i64 s.s, .int .i64 s.d, .int .i64 s.m, .int .i64 ln] 33))
  simp only at CT CY CN ho
  unfold insV insA
  simp only
  rcases ho with rfl
  · have CI1 := Lib.hid (fun W => inNo 28 13 16 W (by decide))
    have CI2 := Lib.hid (fun W => inNo 28 20 24 W (by decide))
    by_cases hz : okSize sz
    · have CZ := Lib.hid (CY.out hz)
      rw [decide_eq_true hz]
      clear CY CN hz
      cases b1
      · go_enter Tryz.func23, Tryz.ntmps23
        go_wp2_with (first | refine wpList_load_row rfl 33 (.tmp 1) rfl w.heap.size rfl 33 #[.int .i64 28, .int .i64 sz, .int .i64 cd, .int .i64 fr, .int .i64 d.k, .int .i64 d.r, .int .i64 d.b, .int .i64 d.i, .int .i64 d.s, .int .i64 d.d, .int .i64 d.m, .int .i64 s.k, .int .i64 s.r, .int .i64 s.b, .int .i64 s.i, .int .i64 s.s, .int .i64 s.d, .int .i64 s.m, .int .i64 ln] (0, 0) _ R0.out Tryz.underlying33 rfl (by kernel_rfl) ?_ | refine load_rowT (by rfl) 33 (.tmp 1) rfl w.heap.size rfl 33 #[.int .i64 28, .int .i64 sz, .int .i64 cd, .int .i64 fr, .int .i64 d.k, .int .i64 d.r, .int .i64 d.b, .int .i64 d.i, .int .i64 d.s, .int .i64 d.d, .int .i64 d.m, .int .i64 s.k, .int .i64 s.r, .int .i64 s.b, .int .i64 s.i, .int .i64 s.s, .int .i64 s.d, .int .i64 s.m, .int .i64 ln] (0, 0) _ R0.out Tryz.underlying33 rfl (by kernel_rfl) ?_ | (go_at_call 42; refine (CZ.out _).mono ?_; rintro e wz ⟨rfl, rfl⟩) | (go_at_call 22; with_reducible refine (CI1.out _).mono ?_; rintro e wz ⟨rfl, rfl⟩) | (go_at_call 22; with_reducible refine (CI2.out _).mono ?_; rintro e wz ⟨rfl, rfl⟩))
        refine (CT.out (w.heap.size + 1) 2 2 _ rfl (by decide) (by simp) (nm2_new _ [(114, 114), (109, 114)] _ _ (by simp))).mono ?_
        rintro e w2 ⟨rfl, hb⟩
        have B2 := Lib.hid (belT B0.out hb)
        have R2 := Lib.hid (rowT R0.out hb)
        clear hb
        go_wp2
        go_ret
        exact ⟨rfl, B2.out⟩
      · go_enter Tryz.func23, Tryz.ntmps23
        go_wp2_with (first | refine wpList_load_row rfl 33 (.tmp 1) rfl w.heap.size rfl 33 #[.int .i64 28, .int .i64 sz, .int .i64 cd, .int .i64 fr, .int .i64 d.k, .int .i64 d.r, .int .i64 d.b, .int .i64 d.i, .int .i64 d.s, .int .i64 d.d, .int .i64 d.m, .int .i64 s.k, .int .i64 s.r, .int .i64 s.b, .int .i64 s.i, .int .i64 s.s, .int .i64 s.d, .int .i64 s.m, .int .i64 ln] (0, 0) _ R0.out Tryz.underlying33 rfl (by kernel_rfl) ?_ | refine load_rowT (by rfl) 33 (.tmp 1) rfl w.heap.size rfl 33 #[.int .i64 28, .int .i64 sz, .int .i64 cd, .int .i64 fr, .int .i64 d.k, .int .i64 d.r, .int .i64 d.b, .int .i64 d.i, .int .i64 d.s, .int .i64 d.d, .int .i64 d.m, .int .i64 s.k, .int .i64 s.r, .int .i64 s.b, .int .i64 s.i, .int .i64 s.s, .int .i64 s.d, .int .i64 s.m, .int .i64 ln] (0, 0) _ R0.out Tryz.underlying33 rfl (by kernel_rfl) ?_ | (go_at_call 42; refine (CZ.out _).mono ?_; rintro e wz ⟨rfl, rfl⟩) | (go_at_call 22; with_reducible refine (CI1.out _).mono ?_; rintro e wz ⟨rfl, rfl⟩) | (go_at_call 22; with_reducible refine (CI2.out _).mono ?_; rintro e wz ⟨rfl, rfl⟩))
        refine (CT.out (w.heap.size + 1) 2 2 _ rfl (by decide) (by simp) (nm2_new _ [(114, 114), (109, 114)] _ _ (by simp))).mono ?_
        rintro e w2 ⟨rfl, hb⟩
        have B2 := Lib.hid (belT B0.out hb)
        have R2 := Lib.hid (rowT R0.out hb)
        clear hb
        go_wp2
        go_ret
        exact ⟨rfl, B2.out⟩
    · have CZ := Lib.hid (CN.out hz)
      rw [decide_eq_false hz]
      clear CY CN hz
      go_enter Tryz.func23, Tryz.ntmps23
      go_wp2_with (first | refine wpList_load_row rfl 33 (.tmp 1) rfl w.heap.size rfl 33 #[.int .i64 28, .int .i64 sz, .int .i64 cd, .int .i64 fr, .int .i64 d.k, .int .i64 d.r, .int .i64 d.b, .int .i64 d.i, .int .i64 d.s, .int .i64 d.d, .int .i64 d.m, .int .i64 s.k, .int .i64 s.r, .int .i64 s.b, .int .i64 s.i, .int .i64 s.s, .int .i64 s.d, .int .i64 s.m, .int .i64 ln] (0, 0) _ R0.out Tryz.underlying33 rfl (by kernel_rfl) ?_ | refine load_rowT (by rfl) 33 (.tmp 1) rfl w.heap.size rfl 33 #[.int .i64 28, .int .i64 sz, .int .i64 cd, .int .i64 fr, .int .i64 d.k, .int .i64 d.r, .int .i64 d.b, .int .i64 d.i, .int .i64 d.s, .int .i64 d.d, .int .i64 d.m, .int .i64 s.k, .int .i64 s.r, .int .i64 s.b, .int .i64 s.i, .int .i64 s.s, .int .i64 s.d, .int .i64 s.m, .int .i64 ln] (0, 0) _ R0.out Tryz.underlying33 rfl (by kernel_rfl) ?_ | (go_at_call 42; refine (CZ.out _).mono ?_; rintro e wz ⟨rfl, rfl⟩) | (go_at_call 22; with_reducible refine (CI1.out _).mono ?_; rintro e wz ⟨rfl, rfl⟩) | (go_at_call 22; with_reducible refine (CI2.out _).mono ?_; rintro e wz ⟨rfl, rfl⟩))
      go_ret
      exact ⟨rfl, B0.out⟩
end Go.Proofs.YtjnjlgaemmdkhaaGreatDoor
