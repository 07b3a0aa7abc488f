/-
  What modrm of the specification's decoder does, by the form; conditions: those in each head.
-/
import Derived.Test.YtinjpobepcenfaaDoorWalkIn7
namespace Go.Proofs.YtinjpobepcenfaaDoor
open Go.RowKit Go.Sort
set_option linter.unusedVariables false
set_option linter.unusedSimpArgs false
set_option maxRecDepth 100000 in
set_option maxHeartbeats 4000000 in
theorem md_x (g m y y0 : Nat) (I I2 : In) (op sz cd fr ln : Int) (z : Shp) (r p : Opd) (W0 w : World) (h : IAt W0 w g I) (hm : m < 256) (hf1 : z.f = 1 ∨ z.f = 2 ∨ z.f = 4 ∨ z.f = 5 ∨ z.f = 6 ∨ z.f = 11 ∨ z.f = 12 ∨ z.f = 13) (E : Nat) (hE : E ≤ 8) (hy : y = m / 8 % 8 + E) (E0 : Nat) (hE0 : E0 ≤ 8) (hy0 : y0 = m % 8 + E0)
  (C2 : Hid (∀ W, IAt W0 W g I → Calls Tryd.prog 87 #[.pointer (some ⟨g, 0, none⟩), .int .i64 2] W fun e w' => e = .returned (.int .i64 (E : Int)) ∧ W = w'))
  (CR : Hid (∀ W, IAt W0 W g I → Calls Tryd.prog 86 #[.pointer (some ⟨g, 0, none⟩), .int .i64 (y : Int), .int .i64 sz] W fun e w' => e = .returned (V7 r) ∧ Below W.heap.size W w'))
  (C0 : Hid (∀ W, IAt W0 W g I → Calls Tryd.prog 87 #[.pointer (some ⟨g, 0, none⟩), .int .i64 0] W fun e w' => e = .returned (.int .i64 (E0 : Int)) ∧ W = w'))
  (CQ : m / 64 = 3 → Hid (∀ W, IAt W0 W g I → Calls Tryd.prog 86 #[.pointer (some ⟨g, 0, none⟩), .int .i64 (y0 : Int), .int .i64 sz] W fun e w' => e = .returned (V7 p) ∧ Below W.heap.size W w'))
  (CI : m / 64 = 3 → I2 = I)
  (CM : m / 64 ≠ 3 → Hid (∀ W, IAt W0 W g I → Calls Tryd.prog 88 #[.pointer (some ⟨g, 0, none⟩), .int .i64 ((m / 64 : Nat) : Int), .int .i64 ((m % 8 : Nat) : Int)] W fun e w' => e = .returned (V7 p) ∧ IWr W0 W w' g I2))
  (CI1 : Hid (∀ W, IAt W0 W g I2 → Calls Tryd.prog 89 #[.pointer (some ⟨g, 0, none⟩), .int .i64 1] W fun e w' => e = .returned (V7 (immS I2 1).1) ∧ IWr W0 W w' g (immS I2 1).2))
  (CIS : z.f = 5 ∨ op = 10 → Hid (∀ W, IAt W0 W g I2 → Calls Tryd.prog 89 #[.pointer (some ⟨g, 0, none⟩), .int .i64 sz] W fun e w' => e = .returned (V7 (immS I2 (minK sz)).1) ∧ IWr W0 W w' g (immS I2 (minK sz)).2))
  (CB : Hid (∀ W, IAt W0 W g I2 → Calls Tryd.prog 48 #[.pointer (some ⟨g, 0, none⟩)] W fun e w' => e = .returned (.int .i64 (byteV I2 : Int)) ∧ IWr W0 W w' g (immU I2).2))
  (COs : srcOp op → Hid (∀ W, Calls Tryd.prog 90 #[.agg (insV ⟨op, sz, cd, fr, noOpd, noOpd, ln⟩), V7 p] W fun e w' => e = .returned (.agg (insV ⟨op, sz, cd, fr, noOpd, p, ln⟩)) ∧ Below W.heap.size W w'))
  (COd : ¬ srcOp op → Hid (∀ W, Calls Tryd.prog 90 #[.agg (insV ⟨op, sz, cd, fr, noOpd, noOpd, ln⟩), V7 p] W fun e w' => e = .returned (.agg (insV ⟨op, sz, cd, fr, p, noOpd, ln⟩)) ∧ Below W.heap.size W w')) :
    Calls Tryd.prog 53 #[.pointer (some ⟨g, 0, none⟩), .agg (insV ⟨op, sz, cd, fr, noOpd, noOpd, ln⟩), shpV z, .int .i64 (m : Int)] w fun e w' => e = .returned (.agg (insV ⟨op, sz, cd, fr, (mr2 z.f op sz p r I2).1.1, (mr2 z.f op sz p r I2).1.2, ln⟩)) ∧ IWr W0 w w' g (mr2 z.f op sz p r I2).2 := by
  have M0 := Lib.hid (Md.new h ⟨op, sz, cd, fr, noOpd, noOpd, ln⟩ z)
  obtain ⟨zo, zf, zg, zy, zr⟩ := z
  simp only at hf1 CIS
  have f17 : (zf == 17) = false := beq_eq_false_iff_ne.mpr (by omega)
  have ew : IntKind.i64.wrap ((IntKind.i64.wrap ((m : Int) / 8)).tmod 8 + (E : Int)) = (y : Int) := by
    have e1 : IntKind.i64.wrap ((m : Int) / 8) = (m : Int) / 8 := IntWalk.i64_in _ (by omega)
    rw [e1, Int.tmod_eq_emod_of_nonneg (by omega), IntWalk.i64_in _ (by omega)]
    omega
  have hm' : (m : Int) < 256 := by omega
  have q1 : (y0 : Int) = (m : Int) % 8 + (E0 : Int) := by omega
  have q2 : (((m / 64 : Nat)) : Int) = (m : Int) / 64 := by omega
  have q3 : (((m % 8 : Nat)) : Int) = (m : Int) % 8 := by omega
  have hE0' : (E0 : Int) ≤ 8 := by omega
  clear h hy hE hm hy0 hE0
  go_enter Tryd.func53, Tryd.ntmps53
  go_upto_region 1 with fail
  refine abs_world (T := fun W => Md W0 w W g I ⟨op, sz, cd, fr, noOpd, noOpd, ln⟩ ⟨zo, zf, zg, zy, zr⟩) (G := fun W => Code.wp _ _ _ _ W) _ M0.out ?_
  clear M0
  intro W M
  have c1 := M.x.cell 1; have z1 := M.z.cell 1
  simp only [insV, insA, shpA, List.getElem?_toArray, List.getElem?_cons_zero, List.getElem?_cons_succ] at c1 z1
  have M0 := Lib.hid M
  clear M
  go_upto_region 4 with fail
  clear c1 z1
  go_cut [10] from 19 to 28 (fun v W' => ∃ b, v = .pointer (some ⟨b, 0, none⟩) ∧ w.heap.size + 3 ≤ b ∧ XB W' b r ∧ Md W0 w W' g I ⟨op, sz, cd, fr, noOpd, noOpd, ln⟩ ⟨zo, zf, zg, zy, zr⟩)
  case first =>
    refine wp_region_held_drew (S := fun W' => Md W0 w W' g I ⟨op, sz, cd, fr, noOpd, noOpd, ln⟩ ⟨zo, zf, zg, zy, zr⟩) (by kernel_rfl) M0.out.drew (fun (hH : Md W0 w _ g I ⟨op, sz, cd, fr, noOpd, noOpd, ln⟩ ⟨zo, zf, zg, zy, zr⟩) => ?_)
    refine takeTo 0 (v := ?_) rfl (some 19) rfl (by kernel_rfl) (by kernel_rfl) (by kernel_rfl) (fun _ _ _ h => h) (Or.inl ⟨by rfl, ?_⟩) hH ?_
    rotate_left
    · intro w' hS
      go_simp
      try (with_reducible rfl)
    simp only [Act.put, List.setIfInBounds_toArray, List.set_cons_zero, List.set_cons_succ]
    refine takeTo 1 (v := ?_) rfl (some 20) rfl (by kernel_rfl) (by kernel_rfl) (by kernel_rfl) (fun _ _ _ h => h) (Or.inl ⟨by rfl, ?_⟩) hH ?_
    rotate_left
    · intro w' hS
      go_simp
      try (with_reducible rfl)
    simp only [Act.put, List.setIfInBounds_toArray, List.set_cons_zero, List.set_cons_succ]
    refine takeTo 2 (v := ?_) rfl (some 21) rfl (by kernel_rfl) (by kernel_rfl) (by kernel_rfl) (fun _ _ _ h => h) (Or.inl ⟨by rfl, ?_⟩) hH ?_
    rotate_left
    · intro w' hS
      go_simp
      try (with_reducible rfl)
    simp only [Act.put, List.setIfInBounds_toArray, List.set_cons_zero, List.set_cons_succ]
    refine takeTo 3 (v := ?_) rfl (some 22) rfl (by kernel_rfl) (by kernel_rfl) (by kernel_rfl) (fun _ _ _ h => h) (Or.inl ⟨by rfl, ?_⟩) hH ?_
    rotate_left
    · intro w' hS
      go_simp
      try (with_reducible rfl)
    simp only [Act.put, List.setIfInBounds_toArray, List.set_cons_zero, List.set_cons_succ]
    refine takeTo 4 (v := ?_) rfl (some 23) rfl (by kernel_rfl) (by kernel_rfl) (by kernel_rfl) (fun _ _ _ h => h) (Or.inl ⟨by rfl, ?_⟩) hH ?_
    rotate_left
    · intro w' hS
      go_simp
      try (with_reducible rfl)
    simp only [Act.put, List.setIfInBounds_toArray, List.set_cons_zero, List.set_cons_succ]
    refine takeTo 7 (v := ?_) rfl (some 26) rfl (by kernel_rfl) (by kernel_rfl) (by kernel_rfl) (fun _ _ _ h => h) (Or.inl ⟨by rfl, ?_⟩) hH ?_
    rotate_left
    · intro w' hS
      go_simp
      try (with_reducible rfl)
    simp only [Act.put, List.setIfInBounds_toArray, List.set_cons_zero, List.set_cons_succ]
    refine takeTo 8 (v := ?_) rfl (some 27) rfl (by kernel_rfl) (by kernel_rfl) (by kernel_rfl) (fun _ _ _ h => h) (Or.inl ⟨by rfl, ?_⟩) hH ?_
    rotate_left
    · intro w' hS
      have c1 := hS.x.cell 1
      simp only [insV, insA, List.getElem?_toArray, List.getElem?_cons_zero, List.getElem?_cons_succ] at c1
      go_simp
      try (with_reducible rfl)
    simp only [Act.put, List.setIfInBounds_toArray, List.set_cons_zero, List.set_cons_succ]
    refine wpAnyH_ready (rs := [5, 10]) (by kernel_rfl) (by simp) ?_
    refine consCall rfl rfl (some 24) rfl 87 #[.pointer (some ⟨g, 0, none⟩), .int .i64 2] (by first | (go_simp; done) | rfl) (C2.out _ hH.at') ?_ ?_
    · rintro e w1 ⟨rfl, rfl⟩
      have hH : Md W0 w _ g I ⟨op, sz, cd, fr, noOpd, noOpd, ln⟩ ⟨zo, zf, zg, zy, zr⟩ := hH
      refine ⟨_, rfl, hH, ?_⟩
      simp only [Act.put, List.setIfInBounds_toArray, List.set_cons_zero, List.set_cons_succ]
      refine takeTo 6 (v := ?_) rfl (some 25) rfl (by kernel_rfl) (by kernel_rfl) (by kernel_rfl) (fun _ _ _ h => h) (Or.inl ⟨by rfl, ?_⟩) hH ?_
      rotate_left
      · intro w' hS
        go_simp
        try (with_reducible rfl)
      simp only [Act.put, List.setIfInBounds_toArray, List.set_cons_zero, List.set_cons_succ]
      refine wpAnyH_ready (rs := [9, 10]) (by kernel_rfl) (by simp) ?_
      refine consCall rfl rfl (some 28) rfl 86 #[.pointer (some ⟨g, 0, none⟩), .int .i64 (y : Int), .int .i64 sz] (by first | (go_simp; done) | rfl) (CR.out _ hH.at') ?_ ?_
      · rintro e w2 ⟨rfl, hb⟩
        have hH : Md W0 w _ g I ⟨op, sz, cd, fr, noOpd, noOpd, ln⟩ ⟨zo, zf, zg, zy, zr⟩ := hH.below hb
        refine ⟨V7 r, rfl, hH, ?_⟩
        simp only [Act.put, List.setIfInBounds_toArray, List.set_cons_zero, List.set_cons_succ]
        refine wpAnyH_ready (rs := [10]) (by kernel_rfl) (by simp) ?_
        have l10 : w.heap.size + 3 ≤ w2.heap.size := Md.sz3 hH
        refine consRun rfl rfl (some 10) rfl (.pointer (some ⟨w2.heap.size, 0, none⟩)) (w2.alloc (.cells #[.int .i64 0, .int .i64 0, .int .i64 0, .int .i64 0, .int .i64 0, .int .i64 0, .int .i64 0] 25)) (by first | (go_simp; done) | rfl) (hH.alloc (.cells #[.int .i64 0, .int .i64 0, .int .i64 0, .int .i64 0, .int .i64 0, .int .i64 0, .int .i64 0] 25)) ?_ ?_
        · have hH : Md W0 w _ g I ⟨op, sz, cd, fr, noOpd, noOpd, ln⟩ ⟨zo, zf, zg, zy, zr⟩ := hH.alloc (.cells #[.int .i64 0, .int .i64 0, .int .i64 0, .int .i64 0, .int .i64 0, .int .i64 0, .int .i64 0] 25)
          simp only [Act.put, List.setIfInBounds_toArray, List.set_cons_zero, List.set_cons_succ]
          have x10 : XB (w2.alloc (.cells #[.int .i64 0, .int .i64 0, .int .i64 0, .int .i64 0, .int .i64 0, .int .i64 0, .int .i64 0] 25)) w2.heap.size noOpd := heap_alloc_new w2 _
          refine wpAnyH_ready (rs := [11]) (by kernel_rfl) (by simp) ?_
          refine consRow rfl rfl 25 (.tmp 10) (.tmp 28) rfl rfl (w2.heap.size) (opdL r).toArray ?_ ?_ 25 _ (x10) ?_ ?_ (opd_one _) (hH.row l10 (opdL r).toArray) ?_ ?_
          · rfl
          · rfl
          · kernel_rfl
          · rfl
          · have hH := hH.row l10 (opdL r).toArray
            refine wpAnyH_done (by kernel_rfl) ?_ _
            go_wp2
            go_meet
            case rel => exact ⟨_, rfl, l10, x10.newRow, hH⟩
          exact AllReadyH.nil
        exact AllReadyH.nil
      have l10 : w.heap.size + 3 ≤ W.drew.heap.size := Md.sz3 hH
      refine consRun rfl rfl (some 10) rfl (.pointer (some ⟨W.drew.heap.size, 0, none⟩)) (W.drew.alloc (.cells #[.int .i64 0, .int .i64 0, .int .i64 0, .int .i64 0, .int .i64 0, .int .i64 0, .int .i64 0] 25)) (by first | (go_simp; done) | rfl) (hH.alloc (.cells #[.int .i64 0, .int .i64 0, .int .i64 0, .int .i64 0, .int .i64 0, .int .i64 0, .int .i64 0] 25)) ?_ ?_
      · have hH : Md W0 w _ g I ⟨op, sz, cd, fr, noOpd, noOpd, ln⟩ ⟨zo, zf, zg, zy, zr⟩ := hH.alloc (.cells #[.int .i64 0, .int .i64 0, .int .i64 0, .int .i64 0, .int .i64 0, .int .i64 0, .int .i64 0] 25)
        simp only [Act.put, List.setIfInBounds_toArray, List.set_cons_zero, List.set_cons_succ]
        have x10 : XB (W.drew.alloc (.cells #[.int .i64 0, .int .i64 0, .int .i64 0, .int .i64 0, .int .i64 0, .int .i64 0, .int .i64 0] 25)) W.drew.heap.size noOpd := heap_alloc_new W.drew _
        refine wpAnyH_ready (rs := [9]) (by kernel_rfl) (by simp) ?_
        refine consCall rfl rfl (some 28) rfl 86 #[.pointer (some ⟨g, 0, none⟩), .int .i64 (y : Int), .int .i64 sz] (by first | (go_simp; done) | rfl) (CR.out _ hH.at') ?_ ?_
        · rintro e w2 ⟨rfl, hb⟩
          have hH : Md W0 w _ g I ⟨op, sz, cd, fr, noOpd, noOpd, ln⟩ ⟨zo, zf, zg, zy, zr⟩ := hH.below hb
          refine ⟨V7 r, rfl, hH, ?_⟩
          simp only [Act.put, List.setIfInBounds_toArray, List.set_cons_zero, List.set_cons_succ]
          have x10 : XB w2 _ noOpd := (hb.block _ (lt_of_blk x10)).trans x10
          refine wpAnyH_ready (rs := [11]) (by kernel_rfl) (by simp) ?_
          refine consRow rfl rfl 25 (.tmp 10) (.tmp 28) rfl rfl (W.drew.heap.size) (opdL r).toArray ?_ ?_ 25 _ (x10) ?_ ?_ (opd_one _) (hH.row l10 (opdL r).toArray) ?_ ?_
          · rfl
          · rfl
          · kernel_rfl
          · rfl
          · have hH := hH.row l10 (opdL r).toArray
            refine wpAnyH_done (by kernel_rfl) ?_ _
            go_wp2
            go_meet
            case rel => exact ⟨_, rfl, l10, x10.newRow, hH⟩
          exact AllReadyH.nil
        exact AllReadyH.nil
      exact AllReadyH.nil
    have l10 : w.heap.size + 3 ≤ W.drew.heap.size := Md.sz3 hH
    refine consRun rfl rfl (some 10) rfl (.pointer (some ⟨W.drew.heap.size, 0, none⟩)) (W.drew.alloc (.cells #[.int .i64 0, .int .i64 0, .int .i64 0, .int .i64 0, .int .i64 0, .int .i64 0, .int .i64 0] 25)) (by first | (go_simp; done) | rfl) (hH.alloc (.cells #[.int .i64 0, .int .i64 0, .int .i64 0, .int .i64 0, .int .i64 0, .int .i64 0, .int .i64 0] 25)) ?_ ?_
    · have hH : Md W0 w _ g I ⟨op, sz, cd, fr, noOpd, noOpd, ln⟩ ⟨zo, zf, zg, zy, zr⟩ := hH.alloc (.cells #[.int .i64 0, .int .i64 0, .int .i64 0, .int .i64 0, .int .i64 0, .int .i64 0, .int .i64 0] 25)
      simp only [Act.put, List.setIfInBounds_toArray, List.set_cons_zero, List.set_cons_succ]
      have x10 : XB (W.drew.alloc (.cells #[.int .i64 0, .int .i64 0, .int .i64 0, .int .i64 0, .int .i64 0, .int .i64 0, .int .i64 0] 25)) W.drew.heap.size noOpd := heap_alloc_new W.drew _
      refine wpAnyH_ready (rs := [5]) (by kernel_rfl) (by simp) ?_
      refine consCall rfl rfl (some 24) rfl 87 #[.pointer (some ⟨g, 0, none⟩), .int .i64 2] (by first | (go_simp; done) | rfl) (C2.out _ hH.at') ?_ ?_
      · rintro e w1 ⟨rfl, rfl⟩
        have hH : Md W0 w _ g I ⟨op, sz, cd, fr, noOpd, noOpd, ln⟩ ⟨zo, zf, zg, zy, zr⟩ := hH
        refine ⟨_, rfl, hH, ?_⟩
        simp only [Act.put, List.setIfInBounds_toArray, List.set_cons_zero, List.set_cons_succ]
        refine takeTo 6 (v := ?_) rfl (some 25) rfl (by kernel_rfl) (by kernel_rfl) (by kernel_rfl) (fun _ _ _ h => h) (Or.inl ⟨by rfl, ?_⟩) hH ?_
        rotate_left
        · intro w' hS
          go_simp
          try (with_reducible rfl)
        simp only [Act.put, List.setIfInBounds_toArray, List.set_cons_zero, List.set_cons_succ]
        refine wpAnyH_ready (rs := [9]) (by kernel_rfl) (by simp) ?_
        refine consCall rfl rfl (some 28) rfl 86 #[.pointer (some ⟨g, 0, none⟩), .int .i64 (y : Int), .int .i64 sz] (by first | (go_simp; done) | rfl) (CR.out _ hH.at') ?_ ?_
        · rintro e w2 ⟨rfl, hb⟩
          have hH : Md W0 w _ g I ⟨op, sz, cd, fr, noOpd, noOpd, ln⟩ ⟨zo, zf, zg, zy, zr⟩ := hH.below hb
          refine ⟨V7 r, rfl, hH, ?_⟩
          simp only [Act.put, List.setIfInBounds_toArray, List.set_cons_zero, List.set_cons_succ]
          have x10 : XB w2 _ noOpd := (hb.block _ (lt_of_blk x10)).trans x10
          refine wpAnyH_ready (rs := [11]) (by kernel_rfl) (by simp) ?_
          refine consRow rfl rfl 25 (.tmp 10) (.tmp 28) rfl rfl (W.drew.heap.size) (opdL r).toArray ?_ ?_ 25 _ (x10) ?_ ?_ (opd_one _) (hH.row l10 (opdL r).toArray) ?_ ?_
          · rfl
          · rfl
          · kernel_rfl
          · rfl
          · have hH := hH.row l10 (opdL r).toArray
            refine wpAnyH_done (by kernel_rfl) ?_ _
            go_wp2
            go_meet
            case rel => exact ⟨_, rfl, l10, x10.newRow, hH⟩
          exact AllReadyH.nil
        exact AllReadyH.nil
      exact AllReadyH.nil
    exact AllReadyH.nil
  case rest =>
    obtain ⟨b10, rfl, l10, x10, M⟩ := hcut
    have l11 : w.heap.size + 3 ≤ wc.heap.size := Md.sz3 M
    have n11 : b10 < wc.heap.size := lt_of_blk x10
    go_upto_region 5 with fail
    apply wp_region_list
    refine wpList_buildTo rfl 25 #[] rfl (some 29) rfl (opdL noOpd).toArray (by kernel_rfl) ?_
    simp only [Act.put, List.setIfInBounds_toArray, List.set_cons_zero, List.set_cons_succ]
    refine Great.wpList_runTo rfl (some 11) rfl (.pointer (some ⟨wc.heap.size, 0, none⟩)) (wc.alloc (.cells #[.int .i64 0, .int .i64 0, .int .i64 0, .int .i64 0, .int .i64 0, .int .i64 0, .int .i64 0] 25)) (by first | (go_simp; done) | rfl) ?_
    simp only [Act.put, List.setIfInBounds_toArray, List.set_cons_zero, List.set_cons_succ]
    refine wpList_store_row rfl 25 (.tmp 11) (.tmp 29) rfl (wc.heap.size) (opdL noOpd).toArray ?_ ?_ 25 _ (heap_alloc_new wc _) (by kernel_rfl) rfl (opd_one _) ?_
    · rfl
    · rfl
    go_upto_region 6 with fail
    refine abs_world (T := fun W => Md W0 w W g I ⟨op, sz, cd, fr, noOpd, noOpd, ln⟩ ⟨zo, zf, zg, zy, zr⟩ ∧ XB W b10 r ∧ XB W wc.heap.size noOpd) (G := fun W => Code.wp _ _ _ _ W) _ (⟨(M.alloc (.cells #[.int .i64 0, .int .i64 0, .int .i64 0, .int .i64 0, .int .i64 0, .int .i64 0, .int .i64 0] 25)).row l11 (opdL noOpd).toArray, XB.othRow ((XB.below' x10 (bel_alloc _ _))) (by omega) _, XB.newRow (q := noOpd) (heap_alloc_new wc _)⟩) ?_
    clear M x10
    intro W ⟨M, x10, x11⟩
    generalize wc.heap.size = b11 at *
    have M0 := Lib.hid M
    have Z10 := Lib.hid x10
    have Z11 := Lib.hid x11
    clear M x10 x11
    go_upto_if 32 with fail
    go_cut [11] from 32 to 46 (fun v W' => v = .pointer (some ⟨b11, 0, none⟩) ∧ Md W0 w W' g I2 ⟨op, sz, cd, fr, noOpd, noOpd, ln⟩ ⟨zo, zf, zg, zy, zr⟩ ∧ XB W' b10 r ∧ XB W' b11 p)
    case first =>
      by_cases h3 : m / 64 = 3
      · have d3 : ((m : Int) / 64 == 3) = true := by simp; omega
        go_upto_region 7 with fail
        apply wp_region_list
        refine Great.wpList_runTo rfl (some 33) rfl (.pointer (some ⟨g, 0, none⟩)) W (by first | (go_simp; done) | rfl) ?_
        simp only [Act.put, List.setIfInBounds_toArray, List.set_cons_zero, List.set_cons_succ]
        refine Great.wpList_runTo rfl (some 34) rfl (.int .i64 (m : Int)) W (by first | (go_simp; done) | rfl) ?_
        simp only [Act.put, List.setIfInBounds_toArray, List.set_cons_zero, List.set_cons_succ]
        refine Great.wpList_runTo rfl (some 35) rfl (.int .i64 ((m : Int) % 8)) W (by first | (go_simp; done) | rfl) ?_
        simp only [Act.put, List.setIfInBounds_toArray, List.set_cons_zero, List.set_cons_succ]
        refine Great.wpList_runTo rfl (some 36) rfl (.pointer (some ⟨g, 0, none⟩)) W (by first | (go_simp; done) | rfl) ?_
        simp only [Act.put, List.setIfInBounds_toArray, List.set_cons_zero, List.set_cons_succ]
        refine callStep rfl (some 37) rfl 87 #[.pointer (some ⟨g, 0, none⟩), .int .i64 0] (by first | (go_simp; done) | rfl) (C0.out _ M0.out.at') ?_
        rintro e w1 ⟨rfl, rfl⟩
        refine ⟨.int .i64 (E0 : Int), rfl, ?_⟩
        simp only [Act.put, List.setIfInBounds_toArray, List.set_cons_zero, List.set_cons_succ]
        refine Great.wpList_runTo rfl (some 38) rfl (.int .i64 (y0 : Int)) W (by rw [q1]; go_simp; exact IntWalk.i64_in _ (by omega)) ?_
        simp only [Act.put, List.setIfInBounds_toArray, List.set_cons_zero, List.set_cons_succ]
        refine Great.wpList_runTo rfl (some 39) rfl (.int .i64 sz) W (by first | (go_simp; done) | rfl) ?_
        simp only [Act.put, List.setIfInBounds_toArray, List.set_cons_zero, List.set_cons_succ]
        refine callStep rfl (some 40) rfl 86 #[.pointer (some ⟨g, 0, none⟩), .int .i64 (y0 : Int), .int .i64 sz] (by first | (go_simp; done) | rfl) ((CQ h3).out _ M0.out.at') ?_
        rintro e w2 ⟨rfl, hb⟩
        refine ⟨V7 p, rfl, ?_⟩
        simp only [Act.put, List.setIfInBounds_toArray, List.set_cons_zero, List.set_cons_succ]
        have hw := IWr.of_below M0.out.at' hb
        obtain rfl := CI h3
        have M := M0.out.wr hw
        have x10 := M0.out.opd hw (by omega) Z10.out
        have x11 := M0.out.opd hw (by omega) Z11.out
        refine wpList_store_row rfl 25 (.tmp 11) (.tmp 40) rfl (b11) (opdL p).toArray ?_ ?_ 25 _ (x11) (by kernel_rfl) rfl (opd_one _) ?_
        · rfl
        · rfl
        go_wp2
        go_meet
        case rel => exact ⟨rfl, M.row l11 _, x10.othRow (by omega) _, x11.newRow⟩
      · have d3 : ((m : Int) / 64 == 3) = false := beq_eq_false_iff_ne.mpr (by omega)
        go_upto_region 8 with fail
        apply wp_region_list
        refine Great.wpList_runTo rfl (some 41) rfl (.pointer (some ⟨g, 0, none⟩)) W (by first | (go_simp; done) | rfl) ?_
        simp only [Act.put, List.setIfInBounds_toArray, List.set_cons_zero, List.set_cons_succ]
        refine Great.wpList_runTo rfl (some 42) rfl (.int .i64 (m : Int)) W (by first | (go_simp; done) | rfl) ?_
        simp only [Act.put, List.setIfInBounds_toArray, List.set_cons_zero, List.set_cons_succ]
        refine Great.wpList_runTo rfl (some 43) rfl (.int .i64 ((m / 64 : Nat) : Int)) W (by rw [q2]; go_simp; exact IntWalk.i64_in _ (by omega)) ?_
        simp only [Act.put, List.setIfInBounds_toArray, List.set_cons_zero, List.set_cons_succ]
        refine Great.wpList_runTo rfl (some 44) rfl (.int .i64 (m : Int)) W (by first | (go_simp; done) | rfl) ?_
        simp only [Act.put, List.setIfInBounds_toArray, List.set_cons_zero, List.set_cons_succ]
        refine Great.wpList_runTo rfl (some 45) rfl (.int .i64 ((m % 8 : Nat) : Int)) W (by rw [q3]; first | (go_simp; done) | rfl) ?_
        simp only [Act.put, List.setIfInBounds_toArray, List.set_cons_zero, List.set_cons_succ]
        refine callStep rfl (some 46) rfl 88 #[.pointer (some ⟨g, 0, none⟩), .int .i64 ((m / 64 : Nat) : Int), .int .i64 ((m % 8 : Nat) : Int)] (by first | (go_simp; done) | rfl) ((CM h3).out _ M0.out.at') ?_
        rintro e w2 ⟨rfl, hw⟩
        refine ⟨V7 p, rfl, ?_⟩
        simp only [Act.put, List.setIfInBounds_toArray, List.set_cons_zero, List.set_cons_succ]
        have M := M0.out.wr hw
        have x10 := M0.out.opd hw (by omega) Z10.out
        have x11 := M0.out.opd hw (by omega) Z11.out
        refine wpList_store_row rfl 25 (.tmp 11) (.tmp 46) rfl (b11) (opdL p).toArray ?_ ?_ 25 _ (x11) (by kernel_rfl) rfl (opd_one _) ?_
        · rfl
        · rfl
        go_wp2
        go_meet
        case rel => exact ⟨rfl, M.row l11 _, x10.othRow (by omega) _, x11.newRow⟩
    case rest =>
      obtain ⟨rfl, M, x10, x11⟩ := hcut
      clear M0 Z10 Z11
      obtain ⟨W, rfl⟩ : ∃ W, W = wc := ⟨_, rfl⟩
      rcases hf1 with rfl | rfl | rfl | rfl | rfl | rfl | rfl | rfl
      · have z1 := M.z.cell 1
        simp only [insV, insA, shpA, List.getElem?_toArray, List.getElem?_cons_zero, List.getElem?_cons_succ] at z1
        go_upto_region 14 with fail
        apply wp_region_list
        refine wpList_load_row rfl 25 (.tmp 11) rfl (b11) rfl 25 (opdL p).toArray (0, 0) _ (x11) Tryd.underlying25 rfl (by kernel_rfl) ?_
        simp only [Act.put, List.setIfInBounds_toArray, List.set_cons_zero, List.set_cons_succ]
        refine Great.wpList_runTo rfl (some 63) rfl (.pointer (some ⟨w.heap.size, 4, none⟩)) W (by first | (go_simp; done) | rfl) ?_
        simp only [Act.put, List.setIfInBounds_toArray, List.set_cons_zero, List.set_cons_succ]
        refine wpList_store_mid rfl 25 (.tmp 63) (.tmp 62) rfl (w.heap.size) 4 (opdL (p)).toArray ?_ ?_ (M.x.there 4 7 (by decide)) (by kernel_rfl) (opd_one _) ?_
        · rfl
        · rfl
        go_upto_region 15 with fail
        refine abs_world (T := fun W => Md W0 w W g I2 ⟨op, sz, cd, fr, (p), (noOpd), ln⟩ ⟨zo, 1, zg, zy, zr⟩ ∧ XB W b10 r ∧ XB W b11 p) (G := fun W => Code.wp _ _ _ _ W) _ (⟨M.dst (p), x10.setCs (by omega) _ _, x11.setCs (by omega) _ _⟩) ?_
        clear M x10 x11
        intro W ⟨M, x10, x11⟩
        go_upto_region 15 with fail
        apply wp_region_list
        refine wpList_load_row rfl 25 (.tmp 10) rfl (b10) rfl 25 (opdL r).toArray (0, 0) _ (x10) Tryd.underlying25 rfl (by kernel_rfl) ?_
        simp only [Act.put, List.setIfInBounds_toArray, List.set_cons_zero, List.set_cons_succ]
        refine Great.wpList_runTo rfl (some 65) rfl (.pointer (some ⟨w.heap.size, 11, none⟩)) W (by first | (go_simp; done) | rfl) ?_
        simp only [Act.put, List.setIfInBounds_toArray, List.set_cons_zero, List.set_cons_succ]
        refine wpList_store_mid rfl 25 (.tmp 65) (.tmp 64) rfl (w.heap.size) 11 (opdL (r)).toArray ?_ ?_ (M.x.there 11 7 (by decide)) (by kernel_rfl) (opd_one _) ?_
        · rfl
        · rfl
        go_upto_region 35 with fail
        refine abs_world (T := fun W => Md W0 w W g I2 ⟨op, sz, cd, fr, ((p)), (r), ln⟩ ⟨zo, 1, zg, zy, zr⟩ ∧ XB W b10 r ∧ XB W b11 p) (G := fun W => Code.wp _ _ _ _ W) _ (⟨M.src (r), x10.setCs (by omega) _ _, x11.setCs (by omega) _ _⟩) ?_
        clear M x10 x11
        intro W ⟨M, x10, x11⟩
        go_upto_region 35 with fail
        apply wp_region_list
        refine wpList_load_row rfl 29 (.tmp 5) rfl (w.heap.size) rfl 29 (insV ⟨op, sz, cd, fr, p, r, ln⟩) (0, 0) _ (M.x) Tryd.underlying29 rfl (by kernel_rfl) ?_
        simp only [Act.put, List.setIfInBounds_toArray, List.set_cons_zero, List.set_cons_succ]
        refine wpList_store_row rfl 29 (.tmp 8) (.tmp 109) rfl (w.heap.size + 2) (insV ⟨op, sz, cd, fr, p, r, ln⟩) ?_ ?_ 29 _ (M.r) (by kernel_rfl) rfl (insV_one _) ?_
        · rfl
        · rfl
        go_wp2_with fail
        refine bodyPost_ret (v := .agg (insV ⟨op, sz, cd, fr, p, r, ln⟩)) (by exact results_cell_row Tryd.results53 _ _ (w.heap.size + 2) 29 (insV ⟨op, sz, cd, fr, p, r, ln⟩) (0, 0) _ rfl (setRow_heap _ _ _ _ _ _ M.r) Tryd.underlying29 rfl (by kernel_rfl)) (by rfl) ⟨by simp only [mr2_1], by simp only [mr2_1]; exact M.fin _⟩
      · have z1 := M.z.cell 1
        simp only [insV, insA, shpA, List.getElem?_toArray, List.getElem?_cons_zero, List.getElem?_cons_succ] at z1
        go_upto_region 18 with fail
        apply wp_region_list
        refine wpList_load_row rfl 25 (.tmp 10) rfl (b10) rfl 25 (opdL r).toArray (0, 0) _ (x10) Tryd.underlying25 rfl (by kernel_rfl) ?_
        simp only [Act.put, List.setIfInBounds_toArray, List.set_cons_zero, List.set_cons_succ]
        refine Great.wpList_runTo rfl (some 70) rfl (.pointer (some ⟨w.heap.size, 4, none⟩)) W (by first | (go_simp; done) | rfl) ?_
        simp only [Act.put, List.setIfInBounds_toArray, List.set_cons_zero, List.set_cons_succ]
        refine wpList_store_mid rfl 25 (.tmp 70) (.tmp 69) rfl (w.heap.size) 4 (opdL (r)).toArray ?_ ?_ (M.x.there 4 7 (by decide)) (by kernel_rfl) (opd_one _) ?_
        · rfl
        · rfl
        go_upto_region 19 with fail
        refine abs_world (T := fun W => Md W0 w W g I2 ⟨op, sz, cd, fr, (r), (noOpd), ln⟩ ⟨zo, 2, zg, zy, zr⟩ ∧ XB W b10 r ∧ XB W b11 p) (G := fun W => Code.wp _ _ _ _ W) _ (⟨M.dst (r), x10.setCs (by omega) _ _, x11.setCs (by omega) _ _⟩) ?_
        clear M x10 x11
        intro W ⟨M, x10, x11⟩
        go_upto_region 19 with fail
        apply wp_region_list
        refine wpList_load_row rfl 25 (.tmp 11) rfl (b11) rfl 25 (opdL p).toArray (0, 0) _ (x11) Tryd.underlying25 rfl (by kernel_rfl) ?_
        simp only [Act.put, List.setIfInBounds_toArray, List.set_cons_zero, List.set_cons_succ]
        refine Great.wpList_runTo rfl (some 72) rfl (.pointer (some ⟨w.heap.size, 11, none⟩)) W (by first | (go_simp; done) | rfl) ?_
        simp only [Act.put, List.setIfInBounds_toArray, List.set_cons_zero, List.set_cons_succ]
        refine wpList_store_mid rfl 25 (.tmp 72) (.tmp 71) rfl (w.heap.size) 11 (opdL (p)).toArray ?_ ?_ (M.x.there 11 7 (by decide)) (by kernel_rfl) (opd_one _) ?_
        · rfl
        · rfl
        go_upto_region 35 with fail
        refine abs_world (T := fun W => Md W0 w W g I2 ⟨op, sz, cd, fr, ((r)), (p), ln⟩ ⟨zo, 2, zg, zy, zr⟩ ∧ XB W b10 r ∧ XB W b11 p) (G := fun W => Code.wp _ _ _ _ W) _ (⟨M.src (p), x10.setCs (by omega) _ _, x11.setCs (by omega) _ _⟩) ?_
        clear M x10 x11
        intro W ⟨M, x10, x11⟩
        go_upto_region 35 with fail
        apply wp_region_list
        refine wpList_load_row rfl 29 (.tmp 5) rfl (w.heap.size) rfl 29 (insV ⟨op, sz, cd, fr, r, p, ln⟩) (0, 0) _ (M.x) Tryd.underlying29 rfl (by kernel_rfl) ?_
        simp only [Act.put, List.setIfInBounds_toArray, List.set_cons_zero, List.set_cons_succ]
        refine wpList_store_row rfl 29 (.tmp 8) (.tmp 109) rfl (w.heap.size + 2) (insV ⟨op, sz, cd, fr, r, p, ln⟩) ?_ ?_ 29 _ (M.r) (by kernel_rfl) rfl (insV_one _) ?_
        · rfl
        · rfl
        go_wp2_with fail
        refine bodyPost_ret (v := .agg (insV ⟨op, sz, cd, fr, r, p, ln⟩)) (by exact results_cell_row Tryd.results53 _ _ (w.heap.size + 2) 29 (insV ⟨op, sz, cd, fr, r, p, ln⟩) (0, 0) _ rfl (setRow_heap _ _ _ _ _ _ M.r) Tryd.underlying29 rfl (by kernel_rfl)) (by rfl) ⟨by simp only [mr2_2], by simp only [mr2_2]; exact M.fin _⟩
      · have z1 := M.z.cell 1
        simp only [insV, insA, shpA, List.getElem?_toArray, List.getElem?_cons_zero, List.getElem?_cons_succ] at z1
        go_upto_region 21 with fail
        apply wp_region_list
        refine wpList_load_row rfl 25 (.tmp 11) rfl (b11) rfl 25 (opdL p).toArray (0, 0) _ (x11) Tryd.underlying25 rfl (by kernel_rfl) ?_
        simp only [Act.put, List.setIfInBounds_toArray, List.set_cons_zero, List.set_cons_succ]
        refine Great.wpList_runTo rfl (some 76) rfl (.pointer (some ⟨w.heap.size, 4, none⟩)) W (by first | (go_simp; done) | rfl) ?_
        simp only [Act.put, List.setIfInBounds_toArray, List.set_cons_zero, List.set_cons_succ]
        refine wpList_store_mid rfl 25 (.tmp 76) (.tmp 75) rfl (w.heap.size) 4 (opdL (p)).toArray ?_ ?_ (M.x.there 4 7 (by decide)) (by kernel_rfl) (opd_one _) ?_
        · rfl
        · rfl
        go_upto_region 22 with fail
        refine abs_world (T := fun W => Md W0 w W g I2 ⟨op, sz, cd, fr, (p), (noOpd), ln⟩ ⟨zo, 4, zg, zy, zr⟩ ∧ XB W b10 r ∧ XB W b11 p) (G := fun W => Code.wp _ _ _ _ W) _ (⟨M.dst (p), x10.setCs (by omega) _ _, x11.setCs (by omega) _ _⟩) ?_
        clear M x10 x11
        intro W ⟨M, x10, x11⟩
        go_upto_region 22 with fail
        apply wp_region_list
        have M0 := Lib.hid M
        have Z10 := Lib.hid x10
        have Z11 := Lib.hid x11
        refine Great.wpList_runTo rfl (some 77) rfl (.pointer (some ⟨g, 0, none⟩)) W (by first | (go_simp; done) | rfl) ?_
        simp only [Act.put, List.setIfInBounds_toArray, List.set_cons_zero, List.set_cons_succ]
        clear M x10 x11
        refine callStep rfl (some 78) rfl 89 #[.pointer (some ⟨g, 0, none⟩), .int .i64 1] (by first | (go_simp; done) | rfl) (CI1.out _ M0.out.at') ?_
        rintro e W ⟨rfl, hw⟩
        refine ⟨V7 (immS I2 1).1, rfl, ?_⟩
        simp only [Act.put, List.setIfInBounds_toArray, List.set_cons_zero, List.set_cons_succ]
        have M := M0.out.wr hw
        have x10 := M0.out.opd hw (by omega) Z10.out
        have x11 := M0.out.opd hw (by omega) Z11.out
        clear hw M0 Z10 Z11
        refine Great.wpList_runTo rfl (some 79) rfl (.pointer (some ⟨w.heap.size, 11, none⟩)) W (by first | (go_simp; done) | rfl) ?_
        simp only [Act.put, List.setIfInBounds_toArray, List.set_cons_zero, List.set_cons_succ]
        refine wpList_store_mid rfl 25 (.tmp 79) (.tmp 78) rfl (w.heap.size) 11 (opdL ((immS I2 1).1)).toArray ?_ ?_ (M.x.there 11 7 (by decide)) (by kernel_rfl) (opd_one _) ?_
        · rfl
        · rfl
        go_upto_region 35 with fail
        refine abs_world (T := fun W => Md W0 w W g (immS I2 1).2 ⟨op, sz, cd, fr, ((p)), ((immS I2 1).1), ln⟩ ⟨zo, 4, zg, zy, zr⟩ ∧ XB W b10 r ∧ XB W b11 p) (G := fun W => Code.wp _ _ _ _ W) _ (⟨M.src ((immS I2 1).1), x10.setCs (by omega) _ _, x11.setCs (by omega) _ _⟩) ?_
        clear M x10 x11
        intro W ⟨M, x10, x11⟩
        go_upto_region 35 with fail
        apply wp_region_list
        refine wpList_load_row rfl 29 (.tmp 5) rfl (w.heap.size) rfl 29 (insV ⟨op, sz, cd, fr, p, (immS I2 1).1, ln⟩) (0, 0) _ (M.x) Tryd.underlying29 rfl (by kernel_rfl) ?_
        simp only [Act.put, List.setIfInBounds_toArray, List.set_cons_zero, List.set_cons_succ]
        refine wpList_store_row rfl 29 (.tmp 8) (.tmp 109) rfl (w.heap.size + 2) (insV ⟨op, sz, cd, fr, p, (immS I2 1).1, ln⟩) ?_ ?_ 29 _ (M.r) (by kernel_rfl) rfl (insV_one _) ?_
        · rfl
        · rfl
        go_wp2_with fail
        refine bodyPost_ret (v := .agg (insV ⟨op, sz, cd, fr, p, (immS I2 1).1, ln⟩)) (by exact results_cell_row Tryd.results53 _ _ (w.heap.size + 2) 29 (insV ⟨op, sz, cd, fr, p, (immS I2 1).1, ln⟩) (0, 0) _ rfl (setRow_heap _ _ _ _ _ _ M.r) Tryd.underlying29 rfl (by kernel_rfl)) (by rfl) ⟨by simp only [mr2_4], by simp only [mr2_4]; exact M.fin _⟩
      · have z1 := M.z.cell 1
        simp only [insV, insA, shpA, List.getElem?_toArray, List.getElem?_cons_zero, List.getElem?_cons_succ] at z1
        go_upto_region 24 with fail
        apply wp_region_list
        refine wpList_load_row rfl 25 (.tmp 11) rfl (b11) rfl 25 (opdL p).toArray (0, 0) _ (x11) Tryd.underlying25 rfl (by kernel_rfl) ?_
        simp only [Act.put, List.setIfInBounds_toArray, List.set_cons_zero, List.set_cons_succ]
        refine Great.wpList_runTo rfl (some 83) rfl (.pointer (some ⟨w.heap.size, 4, none⟩)) W (by first | (go_simp; done) | rfl) ?_
        simp only [Act.put, List.setIfInBounds_toArray, List.set_cons_zero, List.set_cons_succ]
        refine wpList_store_mid rfl 25 (.tmp 83) (.tmp 82) rfl (w.heap.size) 4 (opdL (p)).toArray ?_ ?_ (M.x.there 4 7 (by decide)) (by kernel_rfl) (opd_one _) ?_
        · rfl
        · rfl
        go_upto_region 25 with fail
        refine abs_world (T := fun W => Md W0 w W g I2 ⟨op, sz, cd, fr, (p), (noOpd), ln⟩ ⟨zo, 5, zg, zy, zr⟩ ∧ XB W b10 r ∧ XB W b11 p) (G := fun W => Code.wp _ _ _ _ W) _ (⟨M.dst (p), x10.setCs (by omega) _ _, x11.setCs (by omega) _ _⟩) ?_
        clear M x10 x11
        intro W ⟨M, x10, x11⟩
        go_upto_region 25 with fail
        apply wp_region_list
        have M0 := Lib.hid M
        have Z10 := Lib.hid x10
        have Z11 := Lib.hid x11
        refine Great.wpList_runTo rfl (some 84) rfl (.pointer (some ⟨g, 0, none⟩)) W (by first | (go_simp; done) | rfl) ?_
        simp only [Act.put, List.setIfInBounds_toArray, List.set_cons_zero, List.set_cons_succ]
        refine Great.wpList_runTo rfl (some 85) rfl (.pointer (some ⟨w.heap.size, 1, none⟩)) W (by first | (go_simp; done) | rfl) ?_
        simp only [Act.put, List.setIfInBounds_toArray, List.set_cons_zero, List.set_cons_succ]
        have c1 := M.x.cell 1
        simp only [insV, insA, shpA, List.getElem?_toArray, List.getElem?_cons_zero, List.getElem?_cons_succ] at c1
        refine Great.wpList_runTo rfl (some 86) rfl (.int .i64 sz) W (by first | (go_simp; done) | rfl) ?_
        simp only [Act.put, List.setIfInBounds_toArray, List.set_cons_zero, List.set_cons_succ]
        clear c1
        clear M x10 x11
        refine callStep rfl (some 87) rfl 89 #[.pointer (some ⟨g, 0, none⟩), .int .i64 sz] (by first | (go_simp; done) | rfl) ((CIS (.inl rfl)).out _ M0.out.at') ?_
        rintro e W ⟨rfl, hw⟩
        refine ⟨V7 (immS I2 (minK sz)).1, rfl, ?_⟩
        simp only [Act.put, List.setIfInBounds_toArray, List.set_cons_zero, List.set_cons_succ]
        have M := M0.out.wr hw
        have x10 := M0.out.opd hw (by omega) Z10.out
        have x11 := M0.out.opd hw (by omega) Z11.out
        clear hw M0 Z10 Z11
        refine Great.wpList_runTo rfl (some 88) rfl (.pointer (some ⟨w.heap.size, 11, none⟩)) W (by first | (go_simp; done) | rfl) ?_
        simp only [Act.put, List.setIfInBounds_toArray, List.set_cons_zero, List.set_cons_succ]
        refine wpList_store_mid rfl 25 (.tmp 88) (.tmp 87) rfl (w.heap.size) 11 (opdL ((immS I2 (minK sz)).1)).toArray ?_ ?_ (M.x.there 11 7 (by decide)) (by kernel_rfl) (opd_one _) ?_
        · rfl
        · rfl
        go_upto_region 35 with fail
        refine abs_world (T := fun W => Md W0 w W g (immS I2 (minK sz)).2 ⟨op, sz, cd, fr, ((p)), ((immS I2 (minK sz)).1), ln⟩ ⟨zo, 5, zg, zy, zr⟩ ∧ XB W b10 r ∧ XB W b11 p) (G := fun W => Code.wp _ _ _ _ W) _ (⟨M.src ((immS I2 (minK sz)).1), x10.setCs (by omega) _ _, x11.setCs (by omega) _ _⟩) ?_
        clear M x10 x11
        intro W ⟨M, x10, x11⟩
        go_upto_region 35 with fail
        apply wp_region_list
        refine wpList_load_row rfl 29 (.tmp 5) rfl (w.heap.size) rfl 29 (insV ⟨op, sz, cd, fr, p, (immS I2 (minK sz)).1, ln⟩) (0, 0) _ (M.x) Tryd.underlying29 rfl (by kernel_rfl) ?_
        simp only [Act.put, List.setIfInBounds_toArray, List.set_cons_zero, List.set_cons_succ]
        refine wpList_store_row rfl 29 (.tmp 8) (.tmp 109) rfl (w.heap.size + 2) (insV ⟨op, sz, cd, fr, p, (immS I2 (minK sz)).1, ln⟩) ?_ ?_ 29 _ (M.r) (by kernel_rfl) rfl (insV_one _) ?_
        · rfl
        · rfl
        go_wp2_with fail
        refine bodyPost_ret (v := .agg (insV ⟨op, sz, cd, fr, p, (immS I2 (minK sz)).1, ln⟩)) (by exact results_cell_row Tryd.results53 _ _ (w.heap.size + 2) 29 (insV ⟨op, sz, cd, fr, p, (immS I2 (minK sz)).1, ln⟩) (0, 0) _ rfl (setRow_heap _ _ _ _ _ _ M.r) Tryd.underlying29 rfl (by kernel_rfl)) (by rfl) ⟨by simp only [mr2_5], by simp only [mr2_5]; exact M.fin _⟩
      · have z1 := M.z.cell 1
        simp only [insV, insA, shpA, List.getElem?_toArray, List.getElem?_cons_zero, List.getElem?_cons_succ] at z1
        by_cases hso : srcOp op
        · have o10 : (op == 10) = false := beq_eq_false_iff_ne.mpr (fun e => by subst e; exact absurd hso (by decide))
          go_upto_region 10 with fail
          apply wp_region_list
          refine wpList_load_row rfl 29 (.tmp 5) rfl (w.heap.size) rfl 29 (insV ⟨op, sz, cd, fr, noOpd, noOpd, ln⟩) (0, 0) _ (M.x) Tryd.underlying29 rfl (by kernel_rfl) ?_
          simp only [Act.put, List.setIfInBounds_toArray, List.set_cons_zero, List.set_cons_succ]
          refine wpList_load_row rfl 25 (.tmp 11) rfl (b11) rfl 25 (opdL p).toArray (0, 0) _ (x11) Tryd.underlying25 rfl (by kernel_rfl) ?_
          simp only [Act.put, List.setIfInBounds_toArray, List.set_cons_zero, List.set_cons_succ]
          have M0 := Lib.hid M
          have Z10 := Lib.hid x10
          have Z11 := Lib.hid x11
          clear M x10 x11
          refine callStep rfl (some 51) rfl 90 #[.agg (insV ⟨op, sz, cd, fr, noOpd, noOpd, ln⟩), .agg (opdL p).toArray] (by first | (go_simp; done) | rfl) ((COs hso).out _) ?_
          rintro e W ⟨rfl, hb⟩
          refine ⟨.agg (insV ⟨op, sz, cd, fr, noOpd, p, ln⟩), rfl, ?_⟩
          simp only [Act.put, List.setIfInBounds_toArray, List.set_cons_zero, List.set_cons_succ]
          have hw := IWr.of_below M0.out.at' hb
          have M := M0.out.wr hw
          have x10 := M0.out.opd hw (by omega) Z10.out
          have x11 := M0.out.opd hw (by omega) Z11.out
          clear hw hb M0 Z10 Z11
          refine wpList_store_row rfl 29 (.tmp 5) (.tmp 51) rfl (w.heap.size) (insV ⟨op, sz, cd, fr, noOpd, p, ln⟩) ?_ ?_ 29 _ (M.x) (by kernel_rfl) rfl (insV_one _) ?_
          · rfl
          · rfl
          go_upto_region 11 with fail
          refine abs_world (T := fun W => Md W0 w W g I2 ⟨op, sz, cd, fr, noOpd, p, ln⟩ ⟨zo, 6, zg, zy, zr⟩ ∧ XB W b10 r ∧ XB W b11 p) (G := fun W => Code.wp _ _ _ _ W) _ (⟨M.setX, x10.othRow (by omega) _, x11.othRow (by omega) _⟩) ?_
          clear M x10 x11
          intro W ⟨M, x10, x11⟩
          have c0 := M.x.cell 0
          simp only [insV, insA, shpA, List.getElem?_toArray, List.getElem?_cons_zero, List.getElem?_cons_succ] at c0
          go_upto_region 35 with fail
          clear c0
          go_upto_region 35 with fail
          apply wp_region_list
          refine wpList_load_row rfl 29 (.tmp 5) rfl (w.heap.size) rfl 29 (insV ⟨op, sz, cd, fr, noOpd, p, ln⟩) (0, 0) _ (M.x) Tryd.underlying29 rfl (by kernel_rfl) ?_
          simp only [Act.put, List.setIfInBounds_toArray, List.set_cons_zero, List.set_cons_succ]
          refine wpList_store_row rfl 29 (.tmp 8) (.tmp 109) rfl (w.heap.size + 2) (insV ⟨op, sz, cd, fr, noOpd, p, ln⟩) ?_ ?_ 29 _ (M.r) (by kernel_rfl) rfl (insV_one _) ?_
          · rfl
          · rfl
          go_wp2_with fail
          refine bodyPost_ret (v := .agg (insV ⟨op, sz, cd, fr, noOpd, p, ln⟩)) (by exact results_cell_row Tryd.results53 _ _ (w.heap.size + 2) 29 (insV ⟨op, sz, cd, fr, noOpd, p, ln⟩) (0, 0) _ rfl (setRow_heap _ _ _ _ _ _ M.r) Tryd.underlying29 rfl (by kernel_rfl)) (by rfl) ⟨by simp only [mr2_6s _ _ _ _ _ hso], by simp only [mr2_6s _ _ _ _ _ hso]; exact M.fin _⟩
        · by_cases h10 : op = 10
          · have o10 : (op == 10) = true := by rw [h10]; rfl
            go_upto_region 10 with fail
            apply wp_region_list
            refine wpList_load_row rfl 29 (.tmp 5) rfl (w.heap.size) rfl 29 (insV ⟨op, sz, cd, fr, noOpd, noOpd, ln⟩) (0, 0) _ (M.x) Tryd.underlying29 rfl (by kernel_rfl) ?_
            simp only [Act.put, List.setIfInBounds_toArray, List.set_cons_zero, List.set_cons_succ]
            refine wpList_load_row rfl 25 (.tmp 11) rfl (b11) rfl 25 (opdL p).toArray (0, 0) _ (x11) Tryd.underlying25 rfl (by kernel_rfl) ?_
            simp only [Act.put, List.setIfInBounds_toArray, List.set_cons_zero, List.set_cons_succ]
            have M0 := Lib.hid M
            have Z10 := Lib.hid x10
            have Z11 := Lib.hid x11
            clear M x10 x11
            refine callStep rfl (some 51) rfl 90 #[.agg (insV ⟨op, sz, cd, fr, noOpd, noOpd, ln⟩), .agg (opdL p).toArray] (by first | (go_simp; done) | rfl) ((COd hso).out _) ?_
            rintro e W ⟨rfl, hb⟩
            refine ⟨.agg (insV ⟨op, sz, cd, fr, p, noOpd, ln⟩), rfl, ?_⟩
            simp only [Act.put, List.setIfInBounds_toArray, List.set_cons_zero, List.set_cons_succ]
            have hw := IWr.of_below M0.out.at' hb
            have M := M0.out.wr hw
            have x10 := M0.out.opd hw (by omega) Z10.out
            have x11 := M0.out.opd hw (by omega) Z11.out
            clear hw hb M0 Z10 Z11
            refine wpList_store_row rfl 29 (.tmp 5) (.tmp 51) rfl (w.heap.size) (insV ⟨op, sz, cd, fr, p, noOpd, ln⟩) ?_ ?_ 29 _ (M.x) (by kernel_rfl) rfl (insV_one _) ?_
            · rfl
            · rfl
            go_upto_region 11 with fail
            refine abs_world (T := fun W => Md W0 w W g I2 ⟨op, sz, cd, fr, p, noOpd, ln⟩ ⟨zo, 6, zg, zy, zr⟩ ∧ XB W b10 r ∧ XB W b11 p) (G := fun W => Code.wp _ _ _ _ W) _ (⟨M.setX, x10.othRow (by omega) _, x11.othRow (by omega) _⟩) ?_
            clear M x10 x11
            intro W ⟨M, x10, x11⟩
            have c0 := M.x.cell 0
            simp only [insV, insA, shpA, List.getElem?_toArray, List.getElem?_cons_zero, List.getElem?_cons_succ] at c0
            go_upto_region 12 with fail
            clear c0
            go_upto_region 12 with fail
            apply wp_region_list
            have M0 := Lib.hid M
            have Z10 := Lib.hid x10
            have Z11 := Lib.hid x11
            refine Great.wpList_runTo rfl (some 55) rfl (.pointer (some ⟨g, 0, none⟩)) W (by first | (go_simp; done) | rfl) ?_
            simp only [Act.put, List.setIfInBounds_toArray, List.set_cons_zero, List.set_cons_succ]
            refine Great.wpList_runTo rfl (some 56) rfl (.pointer (some ⟨w.heap.size, 1, none⟩)) W (by first | (go_simp; done) | rfl) ?_
            simp only [Act.put, List.setIfInBounds_toArray, List.set_cons_zero, List.set_cons_succ]
            have c1 := M.x.cell 1
            simp only [insV, insA, shpA, List.getElem?_toArray, List.getElem?_cons_zero, List.getElem?_cons_succ] at c1
            refine Great.wpList_runTo rfl (some 57) rfl (.int .i64 sz) W (by first | (go_simp; done) | rfl) ?_
            simp only [Act.put, List.setIfInBounds_toArray, List.set_cons_zero, List.set_cons_succ]
            clear c1
            clear M x10 x11
            refine callStep rfl (some 58) rfl 89 #[.pointer (some ⟨g, 0, none⟩), .int .i64 sz] (by first | (go_simp; done) | rfl) ((CIS (.inr h10)).out _ M0.out.at') ?_
            rintro e W ⟨rfl, hw⟩
            refine ⟨V7 (immS I2 (minK sz)).1, rfl, ?_⟩
            simp only [Act.put, List.setIfInBounds_toArray, List.set_cons_zero, List.set_cons_succ]
            have M := M0.out.wr hw
            have x10 := M0.out.opd hw (by omega) Z10.out
            have x11 := M0.out.opd hw (by omega) Z11.out
            clear hw M0 Z10 Z11
            refine Great.wpList_runTo rfl (some 59) rfl (.pointer (some ⟨w.heap.size, 11, none⟩)) W (by first | (go_simp; done) | rfl) ?_
            simp only [Act.put, List.setIfInBounds_toArray, List.set_cons_zero, List.set_cons_succ]
            refine wpList_store_mid rfl 25 (.tmp 59) (.tmp 58) rfl (w.heap.size) 11 (opdL ((immS I2 (minK sz)).1)).toArray ?_ ?_ (M.x.there 11 7 (by decide)) (by kernel_rfl) (opd_one _) ?_
            · rfl
            · rfl
            go_upto_region 35 with fail
            refine abs_world (T := fun W => Md W0 w W g (immS I2 (minK sz)).2 ⟨op, sz, cd, fr, (p), ((immS I2 (minK sz)).1), ln⟩ ⟨zo, 6, zg, zy, zr⟩ ∧ XB W b10 r ∧ XB W b11 p) (G := fun W => Code.wp _ _ _ _ W) _ (⟨M.src ((immS I2 (minK sz)).1), x10.setCs (by omega) _ _, x11.setCs (by omega) _ _⟩) ?_
            clear M x10 x11
            intro W ⟨M, x10, x11⟩
            go_upto_region 35 with fail
            apply wp_region_list
            refine wpList_load_row rfl 29 (.tmp 5) rfl (w.heap.size) rfl 29 (insV ⟨op, sz, cd, fr, p, (immS I2 (minK sz)).1, ln⟩) (0, 0) _ (M.x) Tryd.underlying29 rfl (by kernel_rfl) ?_
            simp only [Act.put, List.setIfInBounds_toArray, List.set_cons_zero, List.set_cons_succ]
            refine wpList_store_row rfl 29 (.tmp 8) (.tmp 109) rfl (w.heap.size + 2) (insV ⟨op, sz, cd, fr, p, (immS I2 (minK sz)).1, ln⟩) ?_ ?_ 29 _ (M.r) (by kernel_rfl) rfl (insV_one _) ?_
            · rfl
            · rfl
            go_wp2_with fail
            refine bodyPost_ret (v := .agg (insV ⟨op, sz, cd, fr, p, (immS I2 (minK sz)).1, ln⟩)) (by exact results_cell_row Tryd.results53 _ _ (w.heap.size + 2) 29 (insV ⟨op, sz, cd, fr, p, (immS I2 (minK sz)).1, ln⟩) (0, 0) _ rfl (setRow_heap _ _ _ _ _ _ M.r) Tryd.underlying29 rfl (by kernel_rfl)) (by rfl) ⟨by simp only [mr2_6t _ _ _ _ _ hso h10], by simp only [mr2_6t _ _ _ _ _ hso h10]; exact M.fin _⟩
          · have o10 : (op == 10) = false := beq_eq_false_iff_ne.mpr h10
            go_upto_region 10 with fail
            apply wp_region_list
            refine wpList_load_row rfl 29 (.tmp 5) rfl (w.heap.size) rfl 29 (insV ⟨op, sz, cd, fr, noOpd, noOpd, ln⟩) (0, 0) _ (M.x) Tryd.underlying29 rfl (by kernel_rfl) ?_
            simp only [Act.put, List.setIfInBounds_toArray, List.set_cons_zero, List.set_cons_succ]
            refine wpList_load_row rfl 25 (.tmp 11) rfl (b11) rfl 25 (opdL p).toArray (0, 0) _ (x11) Tryd.underlying25 rfl (by kernel_rfl) ?_
            simp only [Act.put, List.setIfInBounds_toArray, List.set_cons_zero, List.set_cons_succ]
            have M0 := Lib.hid M
            have Z10 := Lib.hid x10
            have Z11 := Lib.hid x11
            clear M x10 x11
            refine callStep rfl (some 51) rfl 90 #[.agg (insV ⟨op, sz, cd, fr, noOpd, noOpd, ln⟩), .agg (opdL p).toArray] (by first | (go_simp; done) | rfl) ((COd hso).out _) ?_
            rintro e W ⟨rfl, hb⟩
            refine ⟨.agg (insV ⟨op, sz, cd, fr, p, noOpd, ln⟩), rfl, ?_⟩
            simp only [Act.put, List.setIfInBounds_toArray, List.set_cons_zero, List.set_cons_succ]
            have hw := IWr.of_below M0.out.at' hb
            have M := M0.out.wr hw
            have x10 := M0.out.opd hw (by omega) Z10.out
            have x11 := M0.out.opd hw (by omega) Z11.out
            clear hw hb M0 Z10 Z11
            refine wpList_store_row rfl 29 (.tmp 5) (.tmp 51) rfl (w.heap.size) (insV ⟨op, sz, cd, fr, p, noOpd, ln⟩) ?_ ?_ 29 _ (M.x) (by kernel_rfl) rfl (insV_one _) ?_
            · rfl
            · rfl
            go_upto_region 11 with fail
            refine abs_world (T := fun W => Md W0 w W g I2 ⟨op, sz, cd, fr, p, noOpd, ln⟩ ⟨zo, 6, zg, zy, zr⟩ ∧ XB W b10 r ∧ XB W b11 p) (G := fun W => Code.wp _ _ _ _ W) _ (⟨M.setX, x10.othRow (by omega) _, x11.othRow (by omega) _⟩) ?_
            clear M x10 x11
            intro W ⟨M, x10, x11⟩
            have c0 := M.x.cell 0
            simp only [insV, insA, shpA, List.getElem?_toArray, List.getElem?_cons_zero, List.getElem?_cons_succ] at c0
            go_upto_region 35 with fail
            clear c0
            go_upto_region 35 with fail
            apply wp_region_list
            refine wpList_load_row rfl 29 (.tmp 5) rfl (w.heap.size) rfl 29 (insV ⟨op, sz, cd, fr, p, noOpd, ln⟩) (0, 0) _ (M.x) Tryd.underlying29 rfl (by kernel_rfl) ?_
            simp only [Act.put, List.setIfInBounds_toArray, List.set_cons_zero, List.set_cons_succ]
            refine wpList_store_row rfl 29 (.tmp 8) (.tmp 109) rfl (w.heap.size + 2) (insV ⟨op, sz, cd, fr, p, noOpd, ln⟩) ?_ ?_ 29 _ (M.r) (by kernel_rfl) rfl (insV_one _) ?_
            · rfl
            · rfl
            go_wp2_with fail
            refine bodyPost_ret (v := .agg (insV ⟨op, sz, cd, fr, p, noOpd, ln⟩)) (by exact results_cell_row Tryd.results53 _ _ (w.heap.size + 2) 29 (insV ⟨op, sz, cd, fr, p, noOpd, ln⟩) (0, 0) _ rfl (setRow_heap _ _ _ _ _ _ M.r) Tryd.underlying29 rfl (by kernel_rfl)) (by rfl) ⟨by simp only [mr2_6d _ _ _ _ _ hso h10], by simp only [mr2_6d _ _ _ _ _ hso h10]; exact M.fin _⟩
      · have z1 := M.z.cell 1
        simp only [insV, insA, shpA, List.getElem?_toArray, List.getElem?_cons_zero, List.getElem?_cons_succ] at z1
        go_upto_region 27 with fail
        apply wp_region_list
        refine wpList_load_row rfl 25 (.tmp 11) rfl (b11) rfl 25 (opdL p).toArray (0, 0) _ (x11) Tryd.underlying25 rfl (by kernel_rfl) ?_
        simp only [Act.put, List.setIfInBounds_toArray, List.set_cons_zero, List.set_cons_succ]
        refine Great.wpList_runTo rfl (some 92) rfl (.pointer (some ⟨w.heap.size, 4, none⟩)) W (by first | (go_simp; done) | rfl) ?_
        simp only [Act.put, List.setIfInBounds_toArray, List.set_cons_zero, List.set_cons_succ]
        refine wpList_store_mid rfl 25 (.tmp 92) (.tmp 91) rfl (w.heap.size) 4 (opdL (p)).toArray ?_ ?_ (M.x.there 4 7 (by decide)) (by kernel_rfl) (opd_one _) ?_
        · rfl
        · rfl
        go_upto_region 28 with fail
        refine abs_world (T := fun W => Md W0 w W g I2 ⟨op, sz, cd, fr, (p), (noOpd), ln⟩ ⟨zo, 11, zg, zy, zr⟩ ∧ XB W b10 r ∧ XB W b11 p) (G := fun W => Code.wp _ _ _ _ W) _ (⟨M.dst (p), x10.setCs (by omega) _ _, x11.setCs (by omega) _ _⟩) ?_
        clear M x10 x11
        intro W ⟨M, x10, x11⟩
        go_upto_region 28 with fail
        apply wp_region_list
        have M0 := Lib.hid M
        have Z10 := Lib.hid x10
        have Z11 := Lib.hid x11
        refine Great.wpList_runTo rfl (some 93) rfl (.pointer (some ⟨g, 0, none⟩)) W (by first | (go_simp; done) | rfl) ?_
        simp only [Act.put, List.setIfInBounds_toArray, List.set_cons_zero, List.set_cons_succ]
        clear M x10 x11
        refine callStep rfl (some 94) rfl 48 #[.pointer (some ⟨g, 0, none⟩)] (by first | (go_simp; done) | rfl) (CB.out _ M0.out.at') ?_
        rintro e W ⟨rfl, hw⟩
        refine ⟨.int .i64 (byteV I2 : Int), rfl, ?_⟩
        simp only [Act.put, List.setIfInBounds_toArray, List.set_cons_zero, List.set_cons_succ]
        refine wpList_buildTo rfl 25 #[(0, .const (.int .i64 3)), (6, .tmp 94)] rfl (some 95) rfl (opdL (immU I2).1).toArray (by kernel_rfl) ?_
        simp only [Act.put, List.setIfInBounds_toArray, List.set_cons_zero, List.set_cons_succ]
        have M := M0.out.wr hw
        have x10 := M0.out.opd hw (by omega) Z10.out
        have x11 := M0.out.opd hw (by omega) Z11.out
        clear hw M0 Z10 Z11
        refine Great.wpList_runTo rfl (some 96) rfl (.pointer (some ⟨w.heap.size, 11, none⟩)) W (by first | (go_simp; done) | rfl) ?_
        simp only [Act.put, List.setIfInBounds_toArray, List.set_cons_zero, List.set_cons_succ]
        refine wpList_store_mid rfl 25 (.tmp 96) (.tmp 95) rfl (w.heap.size) 11 (opdL ((immU I2).1)).toArray ?_ ?_ (M.x.there 11 7 (by decide)) (by kernel_rfl) (opd_one _) ?_
        · rfl
        · rfl
        go_upto_region 35 with fail
        refine abs_world (T := fun W => Md W0 w W g (immU I2).2 ⟨op, sz, cd, fr, ((p)), ((immU I2).1), ln⟩ ⟨zo, 11, zg, zy, zr⟩ ∧ XB W b10 r ∧ XB W b11 p) (G := fun W => Code.wp _ _ _ _ W) _ (⟨M.src ((immU I2).1), x10.setCs (by omega) _ _, x11.setCs (by omega) _ _⟩) ?_
        clear M x10 x11
        intro W ⟨M, x10, x11⟩
        go_upto_region 35 with fail
        apply wp_region_list
        refine wpList_load_row rfl 29 (.tmp 5) rfl (w.heap.size) rfl 29 (insV ⟨op, sz, cd, fr, p, (immU I2).1, ln⟩) (0, 0) _ (M.x) Tryd.underlying29 rfl (by kernel_rfl) ?_
        simp only [Act.put, List.setIfInBounds_toArray, List.set_cons_zero, List.set_cons_succ]
        refine wpList_store_row rfl 29 (.tmp 8) (.tmp 109) rfl (w.heap.size + 2) (insV ⟨op, sz, cd, fr, p, (immU I2).1, ln⟩) ?_ ?_ 29 _ (M.r) (by kernel_rfl) rfl (insV_one _) ?_
        · rfl
        · rfl
        go_wp2_with fail
        refine bodyPost_ret (v := .agg (insV ⟨op, sz, cd, fr, p, (immU I2).1, ln⟩)) (by exact results_cell_row Tryd.results53 _ _ (w.heap.size + 2) 29 (insV ⟨op, sz, cd, fr, p, (immU I2).1, ln⟩) (0, 0) _ rfl (setRow_heap _ _ _ _ _ _ M.r) Tryd.underlying29 rfl (by kernel_rfl)) (by rfl) ⟨by simp only [mr2_11], by simp only [mr2_11]; exact M.fin _⟩
      · have z1 := M.z.cell 1
        simp only [insV, insA, shpA, List.getElem?_toArray, List.getElem?_cons_zero, List.getElem?_cons_succ] at z1
        go_upto_region 30 with fail
        apply wp_region_list
        refine wpList_load_row rfl 25 (.tmp 11) rfl (b11) rfl 25 (opdL p).toArray (0, 0) _ (x11) Tryd.underlying25 rfl (by kernel_rfl) ?_
        simp only [Act.put, List.setIfInBounds_toArray, List.set_cons_zero, List.set_cons_succ]
        refine Great.wpList_runTo rfl (some 100) rfl (.pointer (some ⟨w.heap.size, 4, none⟩)) W (by first | (go_simp; done) | rfl) ?_
        simp only [Act.put, List.setIfInBounds_toArray, List.set_cons_zero, List.set_cons_succ]
        refine wpList_store_mid rfl 25 (.tmp 100) (.tmp 99) rfl (w.heap.size) 4 (opdL (p)).toArray ?_ ?_ (M.x.there 4 7 (by decide)) (by kernel_rfl) (opd_one _) ?_
        · rfl
        · rfl
        go_upto_region 31 with fail
        refine abs_world (T := fun W => Md W0 w W g I2 ⟨op, sz, cd, fr, (p), (noOpd), ln⟩ ⟨zo, 12, zg, zy, zr⟩ ∧ XB W b10 r ∧ XB W b11 p) (G := fun W => Code.wp _ _ _ _ W) _ (⟨M.dst (p), x10.setCs (by omega) _ _, x11.setCs (by omega) _ _⟩) ?_
        clear M x10 x11
        intro W ⟨M, x10, x11⟩
        go_upto_region 31 with fail
        apply wp_region_list
        refine wpList_buildTo rfl 25 #[(0, .const (.int .i64 3)), (6, .const (.int .i64 1))] rfl (some 101) rfl (opdL (immOpd 1)).toArray (by kernel_rfl) ?_
        simp only [Act.put, List.setIfInBounds_toArray, List.set_cons_zero, List.set_cons_succ]
        refine Great.wpList_runTo rfl (some 102) rfl (.pointer (some ⟨w.heap.size, 11, none⟩)) W (by first | (go_simp; done) | rfl) ?_
        simp only [Act.put, List.setIfInBounds_toArray, List.set_cons_zero, List.set_cons_succ]
        refine wpList_store_mid rfl 25 (.tmp 102) (.tmp 101) rfl (w.heap.size) 11 (opdL (immOpd 1)).toArray ?_ ?_ (M.x.there 11 7 (by decide)) (by kernel_rfl) (opd_one _) ?_
        · rfl
        · rfl
        go_upto_region 35 with fail
        refine abs_world (T := fun W => Md W0 w W g I2 ⟨op, sz, cd, fr, ((p)), (immOpd 1), ln⟩ ⟨zo, 12, zg, zy, zr⟩ ∧ XB W b10 r ∧ XB W b11 p) (G := fun W => Code.wp _ _ _ _ W) _ (⟨M.src (immOpd 1), x10.setCs (by omega) _ _, x11.setCs (by omega) _ _⟩) ?_
        clear M x10 x11
        intro W ⟨M, x10, x11⟩
        go_upto_region 35 with fail
        apply wp_region_list
        refine wpList_load_row rfl 29 (.tmp 5) rfl (w.heap.size) rfl 29 (insV ⟨op, sz, cd, fr, p, (immOpd 1), ln⟩) (0, 0) _ (M.x) Tryd.underlying29 rfl (by kernel_rfl) ?_
        simp only [Act.put, List.setIfInBounds_toArray, List.set_cons_zero, List.set_cons_succ]
        refine wpList_store_row rfl 29 (.tmp 8) (.tmp 109) rfl (w.heap.size + 2) (insV ⟨op, sz, cd, fr, p, (immOpd 1), ln⟩) ?_ ?_ 29 _ (M.r) (by kernel_rfl) rfl (insV_one _) ?_
        · rfl
        · rfl
        go_wp2_with fail
        refine bodyPost_ret (v := .agg (insV ⟨op, sz, cd, fr, p, (immOpd 1), ln⟩)) (by exact results_cell_row Tryd.results53 _ _ (w.heap.size + 2) 29 (insV ⟨op, sz, cd, fr, p, (immOpd 1), ln⟩) (0, 0) _ rfl (setRow_heap _ _ _ _ _ _ M.r) Tryd.underlying29 rfl (by kernel_rfl)) (by rfl) ⟨by simp only [mr2_12], by simp only [mr2_12]; exact M.fin _⟩
      · have z1 := M.z.cell 1
        simp only [insV, insA, shpA, List.getElem?_toArray, List.getElem?_cons_zero, List.getElem?_cons_succ] at z1
        go_upto_region 33 with fail
        apply wp_region_list
        refine wpList_load_row rfl 25 (.tmp 11) rfl (b11) rfl 25 (opdL p).toArray (0, 0) _ (x11) Tryd.underlying25 rfl (by kernel_rfl) ?_
        simp only [Act.put, List.setIfInBounds_toArray, List.set_cons_zero, List.set_cons_succ]
        refine Great.wpList_runTo rfl (some 106) rfl (.pointer (some ⟨w.heap.size, 4, none⟩)) W (by first | (go_simp; done) | rfl) ?_
        simp only [Act.put, List.setIfInBounds_toArray, List.set_cons_zero, List.set_cons_succ]
        refine wpList_store_mid rfl 25 (.tmp 106) (.tmp 105) rfl (w.heap.size) 4 (opdL (p)).toArray ?_ ?_ (M.x.there 4 7 (by decide)) (by kernel_rfl) (opd_one _) ?_
        · rfl
        · rfl
        go_upto_region 34 with fail
        refine abs_world (T := fun W => Md W0 w W g I2 ⟨op, sz, cd, fr, (p), (noOpd), ln⟩ ⟨zo, 13, zg, zy, zr⟩ ∧ XB W b10 r ∧ XB W b11 p) (G := fun W => Code.wp _ _ _ _ W) _ (⟨M.dst (p), x10.setCs (by omega) _ _, x11.setCs (by omega) _ _⟩) ?_
        clear M x10 x11
        intro W ⟨M, x10, x11⟩
        go_upto_region 34 with fail
        apply wp_region_list
        refine wpList_buildTo rfl 25 #[(0, .const (.int .i64 1)), (1, .const (.int .i64 1))] rfl (some 107) rfl (opdL (regOpd 1)).toArray (by kernel_rfl) ?_
        simp only [Act.put, List.setIfInBounds_toArray, List.set_cons_zero, List.set_cons_succ]
        refine Great.wpList_runTo rfl (some 108) rfl (.pointer (some ⟨w.heap.size, 11, none⟩)) W (by first | (go_simp; done) | rfl) ?_
        simp only [Act.put, List.setIfInBounds_toArray, List.set_cons_zero, List.set_cons_succ]
        refine wpList_store_mid rfl 25 (.tmp 108) (.tmp 107) rfl (w.heap.size) 11 (opdL (regOpd 1)).toArray ?_ ?_ (M.x.there 11 7 (by decide)) (by kernel_rfl) (opd_one _) ?_
        · rfl
        · rfl
        go_upto_region 35 with fail
        refine abs_world (T := fun W => Md W0 w W g I2 ⟨op, sz, cd, fr, ((p)), (regOpd 1), ln⟩ ⟨zo, 13, zg, zy, zr⟩ ∧ XB W b10 r ∧ XB W b11 p) (G := fun W => Code.wp _ _ _ _ W) _ (⟨M.src (regOpd 1), x10.setCs (by omega) _ _, x11.setCs (by omega) _ _⟩) ?_
        clear M x10 x11
        intro W ⟨M, x10, x11⟩
        go_upto_region 35 with fail
        apply wp_region_list
        refine wpList_load_row rfl 29 (.tmp 5) rfl (w.heap.size) rfl 29 (insV ⟨op, sz, cd, fr, p, (regOpd 1), ln⟩) (0, 0) _ (M.x) Tryd.underlying29 rfl (by kernel_rfl) ?_
        simp only [Act.put, List.setIfInBounds_toArray, List.set_cons_zero, List.set_cons_succ]
        refine wpList_store_row rfl 29 (.tmp 8) (.tmp 109) rfl (w.heap.size + 2) (insV ⟨op, sz, cd, fr, p, (regOpd 1), ln⟩) ?_ ?_ 29 _ (M.r) (by kernel_rfl) rfl (insV_one _) ?_
        · rfl
        · rfl
        go_wp2_with fail
        refine bodyPost_ret (v := .agg (insV ⟨op, sz, cd, fr, p, (regOpd 1), ln⟩)) (by exact results_cell_row Tryd.results53 _ _ (w.heap.size + 2) 29 (insV ⟨op, sz, cd, fr, p, (regOpd 1), ln⟩) (0, 0) _ rfl (setRow_heap _ _ _ _ _ _ M.r) Tryd.underlying29 rfl (by kernel_rfl)) (by rfl) ⟨by simp only [mr2_13], by simp only [mr2_13]; exact M.fin _⟩
set_option maxRecDepth 100000 in
set_option maxHeartbeats 4000000 in
theorem md_17 (g m y y0 : Nat) (I I2 : In) (op sz cd fr ln : Int) (z : Shp) (r p : Opd) (W0 w : World) (h : IAt W0 w g I) (hm : m < 256) (hf1 : z.f = 17) (E : Nat) (hE : E ≤ 8) (hy : y = m / 8 % 8 + E) (E0 : Nat) (hE0 : E0 ≤ 8) (hy0 : y0 = m % 8 + E0)
  (C2 : Hid (∀ W, IAt W0 W g I → Calls Tryd.prog 87 #[.pointer (some ⟨g, 0, none⟩), .int .i64 2] W fun e w' => e = .returned (.int .i64 (E : Int)) ∧ W = w'))
  (CR : Hid (∀ W, IAt W0 W g I → Calls Tryd.prog 86 #[.pointer (some ⟨g, 0, none⟩), .int .i64 (y : Int), .int .i64 sz] W fun e w' => e = .returned (V7 r) ∧ Below W.heap.size W w'))
  (C0 : Hid (∀ W, IAt W0 W g I → Calls Tryd.prog 87 #[.pointer (some ⟨g, 0, none⟩), .int .i64 0] W fun e w' => e = .returned (.int .i64 (E0 : Int)) ∧ W = w'))
  (CQ : m / 64 = 3 → Hid (∀ W, IAt W0 W g I → Calls Tryd.prog 86 #[.pointer (some ⟨g, 0, none⟩), .int .i64 (y0 : Int), .int .i64 z.r] W fun e w' => e = .returned (V7 p) ∧ Below W.heap.size W w'))
  (CI : m / 64 = 3 → I2 = I)
  (CM : m / 64 ≠ 3 → Hid (∀ W, IAt W0 W g I → Calls Tryd.prog 88 #[.pointer (some ⟨g, 0, none⟩), .int .i64 ((m / 64 : Nat) : Int), .int .i64 ((m % 8 : Nat) : Int)] W fun e w' => e = .returned (V7 p) ∧ IWr W0 W w' g I2))
  (CI1 : Hid (∀ W, IAt W0 W g I2 → Calls Tryd.prog 89 #[.pointer (some ⟨g, 0, none⟩), .int .i64 1] W fun e w' => e = .returned (V7 (immS I2 1).1) ∧ IWr W0 W w' g (immS I2 1).2))
  (CIS : z.f = 5 ∨ op = 10 → Hid (∀ W, IAt W0 W g I2 → Calls Tryd.prog 89 #[.pointer (some ⟨g, 0, none⟩), .int .i64 sz] W fun e w' => e = .returned (V7 (immS I2 (minK sz)).1) ∧ IWr W0 W w' g (immS I2 (minK sz)).2))
  (CB : Hid (∀ W, IAt W0 W g I2 → Calls Tryd.prog 48 #[.pointer (some ⟨g, 0, none⟩)] W fun e w' => e = .returned (.int .i64 (byteV I2 : Int)) ∧ IWr W0 W w' g (immU I2).2))
  (COs : srcOp op → Hid (∀ W, Calls Tryd.prog 90 #[.agg (insV ⟨op, sz, cd, fr, noOpd, noOpd, ln⟩), V7 p] W fun e w' => e = .returned (.agg (insV ⟨op, sz, cd, fr, noOpd, p, ln⟩)) ∧ Below W.heap.size W w'))
  (COd : ¬ srcOp op → Hid (∀ W, Calls Tryd.prog 90 #[.agg (insV ⟨op, sz, cd, fr, noOpd, noOpd, ln⟩), V7 p] W fun e w' => e = .returned (.agg (insV ⟨op, sz, cd, fr, p, noOpd, ln⟩)) ∧ Below W.heap.size W w')) :
    Calls Tryd.prog 53 #[.pointer (some ⟨g, 0, none⟩), .agg (insV ⟨op, sz, cd, fr, noOpd, noOpd, ln⟩), shpV z, .int .i64 (m : Int)] w fun e w' => e = .returned (.agg (insV ⟨op, sz, cd, fr, (mr2 z.f op sz p r I2).1.1, (mr2 z.f op sz p r I2).1.2, ln⟩)) ∧ IWr W0 w w' g (mr2 z.f op sz p r I2).2 := by
  have M0 := Lib.hid (Md.new h ⟨op, sz, cd, fr, noOpd, noOpd, ln⟩ z)
  obtain ⟨zo, zf, zg, zy, zr⟩ := z
  simp only at hf1 CIS CQ
  subst hf1
  have ew : IntKind.i64.wrap ((IntKind.i64.wrap ((m : Int) / 8)).tmod 8 + (E : Int)) = (y : Int) := by
    have e1 : IntKind.i64.wrap ((m : Int) / 8) = (m : Int) / 8 := IntWalk.i64_in _ (by omega)
    rw [e1, Int.tmod_eq_emod_of_nonneg (by omega), IntWalk.i64_in _ (by omega)]
    omega
  have hm' : (m : Int) < 256 := by omega
  have q1 : (y0 : Int) = (m : Int) % 8 + (E0 : Int) := by omega
  have q2 : (((m / 64 : Nat)) : Int) = (m : Int) / 64 := by omega
  have q3 : (((m % 8 : Nat)) : Int) = (m : Int) % 8 := by omega
  have hE0' : (E0 : Int) ≤ 8 := by omega
  clear h hy hE hm hy0 hE0
  go_enter Tryd.func53, Tryd.ntmps53
  go_upto_region 1 with fail
  refine abs_world (T := fun W => Md W0 w W g I ⟨op, sz, cd, fr, noOpd, noOpd, ln⟩ ⟨zo, 17, zg, zy, zr⟩) (G := fun W => Code.wp _ _ _ _ W) _ M0.out ?_
  clear M0
  intro W M
  have c1 := M.x.cell 1; have z1 := M.z.cell 1; have z4 := M.z.cell 4
  simp only [insV, insA, shpA, List.getElem?_toArray, List.getElem?_cons_zero, List.getElem?_cons_succ] at c1 z1 z4
  have M0 := Lib.hid M
  clear M
  go_upto_region 4 with fail
  clear c1 z1 z4
  go_cut [10] from 19 to 28 (fun v W' => ∃ b, v = .pointer (some ⟨b, 0, none⟩) ∧ w.heap.size + 3 ≤ b ∧ XB W' b r ∧ Md W0 w W' g I ⟨op, sz, cd, fr, noOpd, noOpd, ln⟩ ⟨zo, 17, zg, zy, zr⟩)
  case first =>
    refine wp_region_held_drew (S := fun W' => Md W0 w W' g I ⟨op, sz, cd, fr, noOpd, noOpd, ln⟩ ⟨zo, 17, zg, zy, zr⟩) (by kernel_rfl) M0.out.drew (fun (hH : Md W0 w _ g I ⟨op, sz, cd, fr, noOpd, noOpd, ln⟩ ⟨zo, 17, zg, zy, zr⟩) => ?_)
    refine takeTo 0 (v := ?_) rfl (some 19) rfl (by kernel_rfl) (by kernel_rfl) (by kernel_rfl) (fun _ _ _ h => h) (Or.inl ⟨by rfl, ?_⟩) hH ?_
    rotate_left
    · intro w' hS
      go_simp
      try (with_reducible rfl)
    simp only [Act.put, List.setIfInBounds_toArray, List.set_cons_zero, List.set_cons_succ]
    refine takeTo 1 (v := ?_) rfl (some 20) rfl (by kernel_rfl) (by kernel_rfl) (by kernel_rfl) (fun _ _ _ h => h) (Or.inl ⟨by rfl, ?_⟩) hH ?_
    rotate_left
    · intro w' hS
      go_simp
      try (with_reducible rfl)
    simp only [Act.put, List.setIfInBounds_toArray, List.set_cons_zero, List.set_cons_succ]
    refine takeTo 2 (v := ?_) rfl (some 21) rfl (by kernel_rfl) (by kernel_rfl) (by kernel_rfl) (fun _ _ _ h => h) (Or.inl ⟨by rfl, ?_⟩) hH ?_
    rotate_left
    · intro w' hS
      go_simp
      try (with_reducible rfl)
    simp only [Act.put, List.setIfInBounds_toArray, List.set_cons_zero, List.set_cons_succ]
    refine takeTo 3 (v := ?_) rfl (some 22) rfl (by kernel_rfl) (by kernel_rfl) (by kernel_rfl) (fun _ _ _ h => h) (Or.inl ⟨by rfl, ?_⟩) hH ?_
    rotate_left
    · intro w' hS
      go_simp
      try (with_reducible rfl)
    simp only [Act.put, List.setIfInBounds_toArray, List.set_cons_zero, List.set_cons_succ]
    refine takeTo 4 (v := ?_) rfl (some 23) rfl (by kernel_rfl) (by kernel_rfl) (by kernel_rfl) (fun _ _ _ h => h) (Or.inl ⟨by rfl, ?_⟩) hH ?_
    rotate_left
    · intro w' hS
      go_simp
      try (with_reducible rfl)
    simp only [Act.put, List.setIfInBounds_toArray, List.set_cons_zero, List.set_cons_succ]
    refine takeTo 7 (v := ?_) rfl (some 26) rfl (by kernel_rfl) (by kernel_rfl) (by kernel_rfl) (fun _ _ _ h => h) (Or.inl ⟨by rfl, ?_⟩) hH ?_
    rotate_left
    · intro w' hS
      go_simp
      try (with_reducible rfl)
    simp only [Act.put, List.setIfInBounds_toArray, List.set_cons_zero, List.set_cons_succ]
    refine takeTo 8 (v := ?_) rfl (some 27) rfl (by kernel_rfl) (by kernel_rfl) (by kernel_rfl) (fun _ _ _ h => h) (Or.inl ⟨by rfl, ?_⟩) hH ?_
    rotate_left
    · intro w' hS
      have c1 := hS.x.cell 1
      simp only [insV, insA, List.getElem?_toArray, List.getElem?_cons_zero, List.getElem?_cons_succ] at c1
      go_simp
      try (with_reducible rfl)
    simp only [Act.put, List.setIfInBounds_toArray, List.set_cons_zero, List.set_cons_succ]
    refine wpAnyH_ready (rs := [5, 10]) (by kernel_rfl) (by simp) ?_
    refine consCall rfl rfl (some 24) rfl 87 #[.pointer (some ⟨g, 0, none⟩), .int .i64 2] (by first | (go_simp; done) | rfl) (C2.out _ hH.at') ?_ ?_
    · rintro e w1 ⟨rfl, rfl⟩
      have hH : Md W0 w _ g I ⟨op, sz, cd, fr, noOpd, noOpd, ln⟩ ⟨zo, 17, zg, zy, zr⟩ := hH
      refine ⟨_, rfl, hH, ?_⟩
      simp only [Act.put, List.setIfInBounds_toArray, List.set_cons_zero, List.set_cons_succ]
      refine takeTo 6 (v := ?_) rfl (some 25) rfl (by kernel_rfl) (by kernel_rfl) (by kernel_rfl) (fun _ _ _ h => h) (Or.inl ⟨by rfl, ?_⟩) hH ?_
      rotate_left
      · intro w' hS
        go_simp
        try (with_reducible rfl)
      simp only [Act.put, List.setIfInBounds_toArray, List.set_cons_zero, List.set_cons_succ]
      refine wpAnyH_ready (rs := [9, 10]) (by kernel_rfl) (by simp) ?_
      refine consCall rfl rfl (some 28) rfl 86 #[.pointer (some ⟨g, 0, none⟩), .int .i64 (y : Int), .int .i64 sz] (by first | (go_simp; done) | rfl) (CR.out _ hH.at') ?_ ?_
      · rintro e w2 ⟨rfl, hb⟩
        have hH : Md W0 w _ g I ⟨op, sz, cd, fr, noOpd, noOpd, ln⟩ ⟨zo, 17, zg, zy, zr⟩ := hH.below hb
        refine ⟨V7 r, rfl, hH, ?_⟩
        simp only [Act.put, List.setIfInBounds_toArray, List.set_cons_zero, List.set_cons_succ]
        refine wpAnyH_ready (rs := [10]) (by kernel_rfl) (by simp) ?_
        have l10 : w.heap.size + 3 ≤ w2.heap.size := Md.sz3 hH
        refine consRun rfl rfl (some 10) rfl (.pointer (some ⟨w2.heap.size, 0, none⟩)) (w2.alloc (.cells #[.int .i64 0, .int .i64 0, .int .i64 0, .int .i64 0, .int .i64 0, .int .i64 0, .int .i64 0] 25)) (by first | (go_simp; done) | rfl) (hH.alloc (.cells #[.int .i64 0, .int .i64 0, .int .i64 0, .int .i64 0, .int .i64 0, .int .i64 0, .int .i64 0] 25)) ?_ ?_
        · have hH : Md W0 w _ g I ⟨op, sz, cd, fr, noOpd, noOpd, ln⟩ ⟨zo, 17, zg, zy, zr⟩ := hH.alloc (.cells #[.int .i64 0, .int .i64 0, .int .i64 0, .int .i64 0, .int .i64 0, .int .i64 0, .int .i64 0] 25)
          simp only [Act.put, List.setIfInBounds_toArray, List.set_cons_zero, List.set_cons_succ]
          have x10 : XB (w2.alloc (.cells #[.int .i64 0, .int .i64 0, .int .i64 0, .int .i64 0, .int .i64 0, .int .i64 0, .int .i64 0] 25)) w2.heap.size noOpd := heap_alloc_new w2 _
          refine wpAnyH_ready (rs := [11]) (by kernel_rfl) (by simp) ?_
          refine consRow rfl rfl 25 (.tmp 10) (.tmp 28) rfl rfl (w2.heap.size) (opdL r).toArray ?_ ?_ 25 _ (x10) ?_ ?_ (opd_one _) (hH.row l10 (opdL r).toArray) ?_ ?_
          · rfl
          · rfl
          · kernel_rfl
          · rfl
          · have hH := hH.row l10 (opdL r).toArray
            refine wpAnyH_done (by kernel_rfl) ?_ _
            go_wp2
            go_meet
            case rel => exact ⟨_, rfl, l10, x10.newRow, hH⟩
          exact AllReadyH.nil
        exact AllReadyH.nil
      have l10 : w.heap.size + 3 ≤ W.drew.heap.size := Md.sz3 hH
      refine consRun rfl rfl (some 10) rfl (.pointer (some ⟨W.drew.heap.size, 0, none⟩)) (W.drew.alloc (.cells #[.int .i64 0, .int .i64 0, .int .i64 0, .int .i64 0, .int .i64 0, .int .i64 0, .int .i64 0] 25)) (by first | (go_simp; done) | rfl) (hH.alloc (.cells #[.int .i64 0, .int .i64 0, .int .i64 0, .int .i64 0, .int .i64 0, .int .i64 0, .int .i64 0] 25)) ?_ ?_
      · have hH : Md W0 w _ g I ⟨op, sz, cd, fr, noOpd, noOpd, ln⟩ ⟨zo, 17, zg, zy, zr⟩ := hH.alloc (.cells #[.int .i64 0, .int .i64 0, .int .i64 0, .int .i64 0, .int .i64 0, .int .i64 0, .int .i64 0] 25)
        simp only [Act.put, List.setIfInBounds_toArray, List.set_cons_zero, List.set_cons_succ]
        have x10 : XB (W.drew.alloc (.cells #[.int .i64 0, .int .i64 0, .int .i64 0, .int .i64 0, .int .i64 0, .int .i64 0, .int .i64 0] 25)) W.drew.heap.size noOpd := heap_alloc_new W.drew _
        refine wpAnyH_ready (rs := [9]) (by kernel_rfl) (by simp) ?_
        refine consCall rfl rfl (some 28) rfl 86 #[.pointer (some ⟨g, 0, none⟩), .int .i64 (y : Int), .int .i64 sz] (by first | (go_simp; done) | rfl) (CR.out _ hH.at') ?_ ?_
        · rintro e w2 ⟨rfl, hb⟩
          have hH : Md W0 w _ g I ⟨op, sz, cd, fr, noOpd, noOpd, ln⟩ ⟨zo, 17, zg, zy, zr⟩ := hH.below hb
          refine ⟨V7 r, rfl, hH, ?_⟩
          simp only [Act.put, List.setIfInBounds_toArray, List.set_cons_zero, List.set_cons_succ]
          have x10 : XB w2 _ noOpd := (hb.block _ (lt_of_blk x10)).trans x10
          refine wpAnyH_ready (rs := [11]) (by kernel_rfl) (by simp) ?_
          refine consRow rfl rfl 25 (.tmp 10) (.tmp 28) rfl rfl (W.drew.heap.size) (opdL r).toArray ?_ ?_ 25 _ (x10) ?_ ?_ (opd_one _) (hH.row l10 (opdL r).toArray) ?_ ?_
          · rfl
          · rfl
          · kernel_rfl
          · rfl
          · have hH := hH.row l10 (opdL r).toArray
            refine wpAnyH_done (by kernel_rfl) ?_ _
            go_wp2
            go_meet
            case rel => exact ⟨_, rfl, l10, x10.newRow, hH⟩
          exact AllReadyH.nil
        exact AllReadyH.nil
      exact AllReadyH.nil
    have l10 : w.heap.size + 3 ≤ W.drew.heap.size := Md.sz3 hH
    refine consRun rfl rfl (some 10) rfl (.pointer (some ⟨W.drew.heap.size, 0, none⟩)) (W.drew.alloc (.cells #[.int .i64 0, .int .i64 0, .int .i64 0, .int .i64 0, .int .i64 0, .int .i64 0, .int .i64 0] 25)) (by first | (go_simp; done) | rfl) (hH.alloc (.cells #[.int .i64 0, .int .i64 0, .int .i64 0, .int .i64 0, .int .i64 0, .int .i64 0, .int .i64 0] 25)) ?_ ?_
    · have hH : Md W0 w _ g I ⟨op, sz, cd, fr, noOpd, noOpd, ln⟩ ⟨zo, 17, zg, zy, zr⟩ := hH.alloc (.cells #[.int .i64 0, .int .i64 0, .int .i64 0, .int .i64 0, .int .i64 0, .int .i64 0, .int .i64 0] 25)
      simp only [Act.put, List.setIfInBounds_toArray, List.set_cons_zero, List.set_cons_succ]
      have x10 : XB (W.drew.alloc (.cells #[.int .i64 0, .int .i64 0, .int .i64 0, .int .i64 0, .int .i64 0, .int .i64 0, .int .i64 0] 25)) W.drew.heap.size noOpd := heap_alloc_new W.drew _
      refine wpAnyH_ready (rs := [5]) (by kernel_rfl) (by simp) ?_
      refine consCall rfl rfl (some 24) rfl 87 #[.pointer (some ⟨g, 0, none⟩), .int .i64 2] (by first | (go_simp; done) | rfl) (C2.out _ hH.at') ?_ ?_
      · rintro e w1 ⟨rfl, rfl⟩
        have hH : Md W0 w _ g I ⟨op, sz, cd, fr, noOpd, noOpd, ln⟩ ⟨zo, 17, zg, zy, zr⟩ := hH
        refine ⟨_, rfl, hH, ?_⟩
        simp only [Act.put, List.setIfInBounds_toArray, List.set_cons_zero, List.set_cons_succ]
        refine takeTo 6 (v := ?_) rfl (some 25) rfl (by kernel_rfl) (by kernel_rfl) (by kernel_rfl) (fun _ _ _ h => h) (Or.inl ⟨by rfl, ?_⟩) hH ?_
        rotate_left
        · intro w' hS
          go_simp
          try (with_reducible rfl)
        simp only [Act.put, List.setIfInBounds_toArray, List.set_cons_zero, List.set_cons_succ]
        refine wpAnyH_ready (rs := [9]) (by kernel_rfl) (by simp) ?_
        refine consCall rfl rfl (some 28) rfl 86 #[.pointer (some ⟨g, 0, none⟩), .int .i64 (y : Int), .int .i64 sz] (by first | (go_simp; done) | rfl) (CR.out _ hH.at') ?_ ?_
        · rintro e w2 ⟨rfl, hb⟩
          have hH : Md W0 w _ g I ⟨op, sz, cd, fr, noOpd, noOpd, ln⟩ ⟨zo, 17, zg, zy, zr⟩ := hH.below hb
          refine ⟨V7 r, rfl, hH, ?_⟩
          simp only [Act.put, List.setIfInBounds_toArray, List.set_cons_zero, List.set_cons_succ]
          have x10 : XB w2 _ noOpd := (hb.block _ (lt_of_blk x10)).trans x10
          refine wpAnyH_ready (rs := [11]) (by kernel_rfl) (by simp) ?_
          refine consRow rfl rfl 25 (.tmp 10) (.tmp 28) rfl rfl (W.drew.heap.size) (opdL r).toArray ?_ ?_ 25 _ (x10) ?_ ?_ (opd_one _) (hH.row l10 (opdL r).toArray) ?_ ?_
          · rfl
          · rfl
          · kernel_rfl
          · rfl
          · have hH := hH.row l10 (opdL r).toArray
            refine wpAnyH_done (by kernel_rfl) ?_ _
            go_wp2
            go_meet
            case rel => exact ⟨_, rfl, l10, x10.newRow, hH⟩
          exact AllReadyH.nil
        exact AllReadyH.nil
      exact AllReadyH.nil
    exact AllReadyH.nil
  case rest =>
    obtain ⟨b10, rfl, l10, x10, M⟩ := hcut
    have l11 : w.heap.size + 3 ≤ wc.heap.size := Md.sz3 M
    have n11 : b10 < wc.heap.size := lt_of_blk x10
    go_upto_region 5 with fail
    apply wp_region_list
    refine wpList_buildTo rfl 25 #[] rfl (some 29) rfl (opdL noOpd).toArray (by kernel_rfl) ?_
    simp only [Act.put, List.setIfInBounds_toArray, List.set_cons_zero, List.set_cons_succ]
    refine Great.wpList_runTo rfl (some 11) rfl (.pointer (some ⟨wc.heap.size, 0, none⟩)) (wc.alloc (.cells #[.int .i64 0, .int .i64 0, .int .i64 0, .int .i64 0, .int .i64 0, .int .i64 0, .int .i64 0] 25)) (by first | (go_simp; done) | rfl) ?_
    simp only [Act.put, List.setIfInBounds_toArray, List.set_cons_zero, List.set_cons_succ]
    refine wpList_store_row rfl 25 (.tmp 11) (.tmp 29) rfl (wc.heap.size) (opdL noOpd).toArray ?_ ?_ 25 _ (heap_alloc_new wc _) (by kernel_rfl) rfl (opd_one _) ?_
    · rfl
    · rfl
    go_upto_region 6 with fail
    refine abs_world (T := fun W => Md W0 w W g I ⟨op, sz, cd, fr, noOpd, noOpd, ln⟩ ⟨zo, 17, zg, zy, zr⟩ ∧ XB W b10 r ∧ XB W wc.heap.size noOpd) (G := fun W => Code.wp _ _ _ _ W) _ (⟨(M.alloc (.cells #[.int .i64 0, .int .i64 0, .int .i64 0, .int .i64 0, .int .i64 0, .int .i64 0, .int .i64 0] 25)).row l11 (opdL noOpd).toArray, XB.othRow ((XB.below' x10 (bel_alloc _ _))) (by omega) _, XB.newRow (q := noOpd) (heap_alloc_new wc _)⟩) ?_
    clear M x10
    intro W ⟨M, x10, x11⟩
    generalize wc.heap.size = b11 at *
    have M0 := Lib.hid M
    have Z10 := Lib.hid x10
    have Z11 := Lib.hid x11
    clear M x10 x11
    go_upto_if 32 with fail
    go_cut [11] from 32 to 46 (fun v W' => v = .pointer (some ⟨b11, 0, none⟩) ∧ Md W0 w W' g I2 ⟨op, sz, cd, fr, noOpd, noOpd, ln⟩ ⟨zo, 17, zg, zy, zr⟩ ∧ XB W' b10 r ∧ XB W' b11 p)
    case first =>
      by_cases h3 : m / 64 = 3
      · have d3 : ((m : Int) / 64 == 3) = true := by simp; omega
        go_upto_region 7 with fail
        apply wp_region_list
        refine Great.wpList_runTo rfl (some 33) rfl (.pointer (some ⟨g, 0, none⟩)) W (by first | (go_simp; done) | rfl) ?_
        simp only [Act.put, List.setIfInBounds_toArray, List.set_cons_zero, List.set_cons_succ]
        refine Great.wpList_runTo rfl (some 34) rfl (.int .i64 (m : Int)) W (by first | (go_simp; done) | rfl) ?_
        simp only [Act.put, List.setIfInBounds_toArray, List.set_cons_zero, List.set_cons_succ]
        refine Great.wpList_runTo rfl (some 35) rfl (.int .i64 ((m : Int) % 8)) W (by first | (go_simp; done) | rfl) ?_
        simp only [Act.put, List.setIfInBounds_toArray, List.set_cons_zero, List.set_cons_succ]
        refine Great.wpList_runTo rfl (some 36) rfl (.pointer (some ⟨g, 0, none⟩)) W (by first | (go_simp; done) | rfl) ?_
        simp only [Act.put, List.setIfInBounds_toArray, List.set_cons_zero, List.set_cons_succ]
        refine callStep rfl (some 37) rfl 87 #[.pointer (some ⟨g, 0, none⟩), .int .i64 0] (by first | (go_simp; done) | rfl) (C0.out _ M0.out.at') ?_
        rintro e w1 ⟨rfl, rfl⟩
        refine ⟨.int .i64 (E0 : Int), rfl, ?_⟩
        simp only [Act.put, List.setIfInBounds_toArray, List.set_cons_zero, List.set_cons_succ]
        refine Great.wpList_runTo rfl (some 38) rfl (.int .i64 (y0 : Int)) W (by rw [q1]; go_simp; exact IntWalk.i64_in _ (by omega)) ?_
        simp only [Act.put, List.setIfInBounds_toArray, List.set_cons_zero, List.set_cons_succ]
        refine Great.wpList_runTo rfl (some 39) rfl (.int .i64 zr) W (by first | (go_simp; done) | rfl) ?_
        simp only [Act.put, List.setIfInBounds_toArray, List.set_cons_zero, List.set_cons_succ]
        refine callStep rfl (some 40) rfl 86 #[.pointer (some ⟨g, 0, none⟩), .int .i64 (y0 : Int), .int .i64 zr] (by first | (go_simp; done) | rfl) ((CQ h3).out _ M0.out.at') ?_
        rintro e w2 ⟨rfl, hb⟩
        refine ⟨V7 p, rfl, ?_⟩
        simp only [Act.put, List.setIfInBounds_toArray, List.set_cons_zero, List.set_cons_succ]
        have hw := IWr.of_below M0.out.at' hb
        obtain rfl := CI h3
        have M := M0.out.wr hw
        have x10 := M0.out.opd hw (by omega) Z10.out
        have x11 := M0.out.opd hw (by omega) Z11.out
        refine wpList_store_row rfl 25 (.tmp 11) (.tmp 40) rfl (b11) (opdL p).toArray ?_ ?_ 25 _ (x11) (by kernel_rfl) rfl (opd_one _) ?_
        · rfl
        · rfl
        go_wp2
        go_meet
        case rel => exact ⟨rfl, M.row l11 _, x10.othRow (by omega) _, x11.newRow⟩
      · have d3 : ((m : Int) / 64 == 3) = false := beq_eq_false_iff_ne.mpr (by omega)
        go_upto_region 8 with fail
        apply wp_region_list
        refine Great.wpList_runTo rfl (some 41) rfl (.pointer (some ⟨g, 0, none⟩)) W (by first | (go_simp; done) | rfl) ?_
        simp only [Act.put, List.setIfInBounds_toArray, List.set_cons_zero, List.set_cons_succ]
        refine Great.wpList_runTo rfl (some 42) rfl (.int .i64 (m : Int)) W (by first | (go_simp; done) | rfl) ?_
        simp only [Act.put, List.setIfInBounds_toArray, List.set_cons_zero, List.set_cons_succ]
        refine Great.wpList_runTo rfl (some 43) rfl (.int .i64 ((m / 64 : Nat) : Int)) W (by rw [q2]; go_simp; exact IntWalk.i64_in _ (by omega)) ?_
        simp only [Act.put, List.setIfInBounds_toArray, List.set_cons_zero, List.set_cons_succ]
        refine Great.wpList_runTo rfl (some 44) rfl (.int .i64 (m : Int)) W (by first | (go_simp; done) | rfl) ?_
        simp only [Act.put, List.setIfInBounds_toArray, List.set_cons_zero, List.set_cons_succ]
        refine Great.wpList_runTo rfl (some 45) rfl (.int .i64 ((m % 8 : Nat) : Int)) W (by rw [q3]; first | (go_simp; done) | rfl) ?_
        simp only [Act.put, List.setIfInBounds_toArray, List.set_cons_zero, List.set_cons_succ]
        refine callStep rfl (some 46) rfl 88 #[.pointer (some ⟨g, 0, none⟩), .int .i64 ((m / 64 : Nat) : Int), .int .i64 ((m % 8 : Nat) : Int)] (by first | (go_simp; done) | rfl) ((CM h3).out _ M0.out.at') ?_
        rintro e w2 ⟨rfl, hw⟩
        refine ⟨V7 p, rfl, ?_⟩
        simp only [Act.put, List.setIfInBounds_toArray, List.set_cons_zero, List.set_cons_succ]
        have M := M0.out.wr hw
        have x10 := M0.out.opd hw (by omega) Z10.out
        have x11 := M0.out.opd hw (by omega) Z11.out
        refine wpList_store_row rfl 25 (.tmp 11) (.tmp 46) rfl (b11) (opdL p).toArray ?_ ?_ 25 _ (x11) (by kernel_rfl) rfl (opd_one _) ?_
        · rfl
        · rfl
        go_wp2
        go_meet
        case rel => exact ⟨rfl, M.row l11 _, x10.othRow (by omega) _, x11.newRow⟩
    case rest =>
      obtain ⟨rfl, M, x10, x11⟩ := hcut
      clear M0 Z10 Z11
      obtain ⟨W, rfl⟩ : ∃ W, W = wc := ⟨_, rfl⟩
      · have z1 := M.z.cell 1
        simp only [insV, insA, shpA, List.getElem?_toArray, List.getElem?_cons_zero, List.getElem?_cons_succ] at z1
        go_upto_region 18 with fail
        apply wp_region_list
        refine wpList_load_row rfl 25 (.tmp 10) rfl (b10) rfl 25 (opdL r).toArray (0, 0) _ (x10) Tryd.underlying25 rfl (by kernel_rfl) ?_
        simp only [Act.put, List.setIfInBounds_toArray, List.set_cons_zero, List.set_cons_succ]
        refine Great.wpList_runTo rfl (some 70) rfl (.pointer (some ⟨w.heap.size, 4, none⟩)) W (by first | (go_simp; done) | rfl) ?_
        simp only [Act.put, List.setIfInBounds_toArray, List.set_cons_zero, List.set_cons_succ]
        refine wpList_store_mid rfl 25 (.tmp 70) (.tmp 69) rfl (w.heap.size) 4 (opdL (r)).toArray ?_ ?_ (M.x.there 4 7 (by decide)) (by kernel_rfl) (opd_one _) ?_
        · rfl
        · rfl
        go_upto_region 19 with fail
        refine abs_world (T := fun W => Md W0 w W g I2 ⟨op, sz, cd, fr, (r), (noOpd), ln⟩ ⟨zo, 17, zg, zy, zr⟩ ∧ XB W b10 r ∧ XB W b11 p) (G := fun W => Code.wp _ _ _ _ W) _ (⟨M.dst (r), x10.setCs (by omega) _ _, x11.setCs (by omega) _ _⟩) ?_
        clear M x10 x11
        intro W ⟨M, x10, x11⟩
        go_upto_region 19 with fail
        apply wp_region_list
        refine wpList_load_row rfl 25 (.tmp 11) rfl (b11) rfl 25 (opdL p).toArray (0, 0) _ (x11) Tryd.underlying25 rfl (by kernel_rfl) ?_
        simp only [Act.put, List.setIfInBounds_toArray, List.set_cons_zero, List.set_cons_succ]
        refine Great.wpList_runTo rfl (some 72) rfl (.pointer (some ⟨w.heap.size, 11, none⟩)) W (by first | (go_simp; done) | rfl) ?_
        simp only [Act.put, List.setIfInBounds_toArray, List.set_cons_zero, List.set_cons_succ]
        refine wpList_store_mid rfl 25 (.tmp 72) (.tmp 71) rfl (w.heap.size) 11 (opdL (p)).toArray ?_ ?_ (M.x.there 11 7 (by decide)) (by kernel_rfl) (opd_one _) ?_
        · rfl
        · rfl
        go_upto_region 35 with fail
        refine abs_world (T := fun W => Md W0 w W g I2 ⟨op, sz, cd, fr, ((r)), (p), ln⟩ ⟨zo, 17, zg, zy, zr⟩ ∧ XB W b10 r ∧ XB W b11 p) (G := fun W => Code.wp _ _ _ _ W) _ (⟨M.src (p), x10.setCs (by omega) _ _, x11.setCs (by omega) _ _⟩) ?_
        clear M x10 x11
        intro W ⟨M, x10, x11⟩
        go_upto_region 35 with fail
        apply wp_region_list
        refine wpList_load_row rfl 29 (.tmp 5) rfl (w.heap.size) rfl 29 (insV ⟨op, sz, cd, fr, r, p, ln⟩) (0, 0) _ (M.x) Tryd.underlying29 rfl (by kernel_rfl) ?_
        simp only [Act.put, List.setIfInBounds_toArray, List.set_cons_zero, List.set_cons_succ]
        refine wpList_store_row rfl 29 (.tmp 8) (.tmp 109) rfl (w.heap.size + 2) (insV ⟨op, sz, cd, fr, r, p, ln⟩) ?_ ?_ 29 _ (M.r) (by kernel_rfl) rfl (insV_one _) ?_
        · rfl
        · rfl
        go_wp2_with fail
        refine bodyPost_ret (v := .agg (insV ⟨op, sz, cd, fr, r, p, ln⟩)) (by exact results_cell_row Tryd.results53 _ _ (w.heap.size + 2) 29 (insV ⟨op, sz, cd, fr, r, p, ln⟩) (0, 0) _ rfl (setRow_heap _ _ _ _ _ _ M.r) Tryd.underlying29 rfl (by kernel_rfl)) (by rfl) ⟨by simp only [mr2_17], by simp only [mr2_17]; exact M.fin _⟩
end Go.Proofs.YtinjpobepcenfaaDoor
