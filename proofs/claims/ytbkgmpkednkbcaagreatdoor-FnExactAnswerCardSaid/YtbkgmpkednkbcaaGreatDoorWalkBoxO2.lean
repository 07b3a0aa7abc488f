/-
  impl.BoxOK and spec.BoxOK as wholes; conditions: those in each head.
-/
import Derived.Test.YtbkgmpkednkbcaaGreatDoorWalkBoxO
namespace Go.Proofs.YtbkgmpkednkbcaaGreatDoor
open Go.RowKit Go.Sort
set_option linter.unusedVariables false
set_option linter.unusedSimpArgs false
set_option maxRecDepth 100000 in
set_option maxHeartbeats 4000000 in
/-- impl.BoxOK -/
theorem boxI (b : Bo) (p : Option Addr) (cap : Nat) (l : List Pg) (v : Bool) (w : World) (hv : v = true ↔ FlOK b.c.fl) (HI : ∀ w, Calls Tryz.prog 65 #[.agg (cpV b.c)] w fun e w' => e = .returned (.bool v) ∧ Below w.heap.size w w') (hp : Ad p) (hs : Small l) (hr : Rd w p l) :
    Calls Tryz.prog 39 #[.agg (boV b (.slice p l.length cap))] w fun e w' => SpB (BxOk b l) e ∧ Below w.heap.size w w' := by
  have n1 := heap_alloc_new w (.cells (boV b (.slice p l.length cap)) 36)
  have n3 : Below w.heap.size w (w.alloc (.cells (boV b (.slice p l.length cap)) 36)) := (Below.refl _ _).alloc (Nat.le_refl _) _
  have R1 := Lib.hid (box_range n1)
  have HR := Lib.hid (hr.below n3)
  have N1 := Lib.hid n1; have N3 := Lib.hid n3; have CA := Lib.hid HI; have HV := Lib.hid hv; have HS := Lib.hid hs; have HP := Lib.hid hp
  generalize hV1 : boV b (.slice p l.length cap) = V1 at *
  have HV1 := Lib.hid hV1
  clear n1 n3 hr hV1 HI hv hs hp
  go_enter Tryz.func39, Tryz.ntmps39
  go_wp2_with (first | (refine wpList_load_mid rfl 31 (.tmp 3) rfl w.heap.size 0 rfl (cpV b.c).toList _ R1.out Tryz.underlying31 rfl (by kernel_rfl) ?_))
  refine (CA.out _).mono ?_
  rintro e w1 ⟨rfl, hb⟩
  have N1' := Lib.hid ((hb.block _ (lt_of_blk' N1.out)).trans N1.out)
  have L1 := Lib.hid (N3.out.trans (hb.mono N3.out.size))
  have HR1 := Lib.hid (HR.out.below hb)
  have a18 := (cell_of_row _ _ 18 _ _ _ N1'.out).trans (show V1[18]? = some (.slice p l.length cap) by rw [← HV1.out]; rfl)
  clear hb N1 N3 HR CA R1
  cases v with
  | false =>
    go_wp2
    go_ret
    exact ⟨⟨_, rfl, Lib.hid ⟨fun h => (by simp at h), fun h => absurd (HV.out.2 h.1) (by simp)⟩⟩, L1.out⟩
  | true =>
  go_wp2_with fail
  refine (memOkC p cap l w1 HP.out HS.out HR1.out).mono ?_
  rintro e w2 ⟨rfl, hb⟩
  have n1 := (hb.block _ (lt_of_blk' N1'.out)).trans N1'.out
  have L2 := Lib.hid (L1.out.trans (hb.mono L1.out.size))
  clear hb a18 N1' HR1 L1
  have a19 := (cell_of_row _ _ 19 _ _ _ n1).trans (show V1[19]? = some (.int .i64 b.hp) by rw [← HV1.out]; rfl)
  have a20 := (cell_of_row _ _ 20 _ _ _ n1).trans (show V1[20]? = some (.int .i64 b.bk) by rw [← HV1.out]; rfl)
  have a21 := (cell_of_row _ _ 21 _ _ _ n1).trans (show V1[21]? = some (.string b.inp) by rw [← HV1.out]; rfl)
  have a22 := (cell_of_row _ _ 22 _ _ _ n1).trans (show V1[22]? = some (.int .i64 b.at_) by rw [← HV1.out]; rfl)
  have a23 := (cell_of_row _ _ 23 _ _ _ n1).trans (show V1[23]? = some (.string b.out_) by rw [← HV1.out]; rfl)
  have a24 := (cell_of_row _ _ 24 _ _ _ n1).trans (show V1[24]? = some (.int .i64 b.ck) by rw [← HV1.out]; rfl)
  have a25 := (cell_of_row _ _ 25 _ _ _ n1).trans (show V1[25]? = some (.int .i64 b.sd) by rw [← HV1.out]; rfl)
  have a26 := (cell_of_row _ _ 26 _ _ _ n1).trans (show V1[26]? = some (.int .i64 b.st) by rw [← HV1.out]; rfl)
  have a27 := (cell_of_row _ _ 27 _ _ _ n1).trans (show V1[27]? = some (.int .i64 b.co) by rw [← HV1.out]; rfl)
  have a28 := (cell_of_row _ _ 28 _ _ _ n1).trans (show V1[28]? = some (.int .i64 b.ft) by rw [← HV1.out]; rfl)
  have a29 := (cell_of_row _ _ 29 _ _ _ n1).trans (show V1[29]? = some (.int .i64 b.wh) by rw [← HV1.out]; rfl)
  clear n1
  by_cases hm : MemOk l
  rotate_left
  · have hmb := okB_no hm
    have HM := Lib.hid hm
    clear hm
    go_wp2
    go_ret
    exact ⟨⟨_, rfl, Lib.hid ⟨fun h => (by simp at h), fun h => absurd h.2.1 HM.out⟩⟩, L2.out⟩
  have hmb := okB_yes hm
  have HM := Lib.hid hm
  clear hm
  go_wp2_with fail
  refine (heapI b.hp w2).mono ?_
  rintro e wz ⟨rfl, rfl⟩
  by_cases h1 : 512 ≤ b.hp ∧ b.hp ≤ 3584
  rotate_left
  · have q1 := decide_eq_false h1
    have H1 := Lib.hid h1
    clear h1
    go_wp2
    go_ret
    exact ⟨⟨_, rfl, Lib.hid ⟨fun h => (by simp at h), fun h => absurd h.2.2.1 H1.out⟩⟩, L2.out⟩
  have q1 := decide_eq_true h1
  have H1 := Lib.hid h1
  clear h1
  have CB := Lib.hid (brkI w.heap.size b.hp b.bk _ a19)
  go_wp2_with fail
  refine (CB.out).mono ?_
  rintro e wz ⟨rfl, rfl⟩
  clear CB
  by_cases h2 : b.hp ≤ b.bk ∧ b.bk ≤ 3584
  rotate_left
  · have q2 := decide_eq_false h2
    have H2 := Lib.hid h2
    clear h2
    go_wp2
    go_ret
    exact ⟨⟨_, rfl, Lib.hid ⟨fun h => (by simp at h), fun h => absurd h.2.2.2.1 H2.out⟩⟩, L2.out⟩
  have q2 := decide_eq_true h2
  have H2 := Lib.hid h2
  clear h2
  have CB := Lib.hid (textsI w.heap.size b _ a21 a22 a23)
  go_wp2_with fail
  refine (CB.out).mono ?_
  rintro e wz ⟨⟨r, rfl, HX⟩, nx, rfl⟩
  clear CB
  have LX := Lib.hid (L2.out.trans (below_draw (w := wz) nx))
  cases r with
  | false =>
    go_wp2
    go_ret
    exact ⟨⟨_, rfl, Lib.hid ⟨fun h => (by simp at h), fun h => absurd (HX.out.2 ⟨h.2.2.2.2.1, h.2.2.2.2.2.1, h.2.2.2.2.2.2.1⟩) (by simp)⟩⟩, LX.out⟩
  | true =>
  by_cases h3 : 0 ≤ b.ck
  rotate_left
  · have q3 : decide (0 ≤ b.ck) = false := decide_eq_false h3
    have H3 := Lib.hid h3
    clear h3
    go_wp2
    go_ret
    exact ⟨⟨_, rfl, Lib.hid ⟨fun h => (by simp at h), fun h => absurd h.2.2.2.2.2.2.2.1.1 (by have := H3.out; omega)⟩⟩, LX.out⟩
  by_cases h4 : b.ck ≤ 1000000
  rotate_left
  · have q3 : decide (0 ≤ b.ck) = true := decide_eq_true h3
    have q4 : decide (b.ck ≤ 1000000) = false := decide_eq_false h4
    have H4 := Lib.hid h4
    clear h3 h4
    go_wp2
    go_ret
    exact ⟨⟨_, rfl, Lib.hid ⟨fun h => (by simp at h), fun h => absurd h.2.2.2.2.2.2.2.1.2 (by have := H4.out; omega)⟩⟩, LX.out⟩
  have q3 : decide (0 ≤ b.ck) = true := decide_eq_true h3
  have q4 : decide (b.ck ≤ 1000000) = true := decide_eq_true h4
  have H3 := Lib.hid h3
  have H4 := Lib.hid h4
  clear h3 h4
  go_wp2_with fail
  refine (seedI b.sd _).mono ?_
  rintro e wy ⟨rfl, rfl⟩
  by_cases h5 : 0 ≤ b.sd ∧ b.sd ≤ 2147483647
  rotate_left
  · have q5 := decide_eq_false h5
    have H5 := Lib.hid h5
    clear h5
    go_wp2
    go_ret
    exact ⟨⟨_, rfl, Lib.hid ⟨fun h => (by simp at h), fun h => absurd h.2.2.2.2.2.2.2.2.1 H5.out⟩⟩, LX.out⟩
  have q5 := decide_eq_true h5
  have H5 := Lib.hid h5
  clear h5
  have CB := Lib.hid (stateI w.heap.size b (wz.drewN nx) a26 a27 a28 a29)
  go_wp2_with fail
  refine (CB.out).mono ?_
  rintro e wy ⟨⟨r, rfl, HY⟩, rfl⟩
  clear CB
  go_wp2
  go_ret
  exact ⟨⟨_, rfl, Lib.hid ⟨fun h => ⟨HV.out.1 (by trivial), HM.out, H1.out, H2.out, (HX.out.1 (by trivial)).1, (HX.out.1 (by trivial)).2.1, (HX.out.1 (by trivial)).2.2, ⟨H3.out, H4.out⟩, H5.out, HY.out.1 h⟩, fun h => HY.out.2 h.2.2.2.2.2.2.2.2.2⟩⟩, LX.out⟩
theorem signB4 (v : Int) (w : World) : Calls Tryz.prog 36 #[.int .i64 v, .int .i64 4] w fun e w' => e = .returned (.int .i64 (wrap64 (wrap32 v))) ∧ w' = w := by
  obtain ⟨X, hX⟩ := natU v
  refine (specSignL v X 4 w hX (by omega) (by omega)).mono fun e w' h => ⟨?_, h.2.symm⟩
  rw [h.1, eqS4 hX]
set_option maxRecDepth 100000 in
set_option maxHeartbeats 4000000 in
/-- spec.BoxOK -/
theorem boxS (b : Bo) (p : Option Addr) (cap : Nat) (l : List Pg) (v : Bool) (w : World) (hv : v = true ↔ FlOK b.c.fl) (HI : ∀ w, Calls Tryz.prog 56 #[.agg (cpV b.c)] w fun e w' => e = .returned (.bool v) ∧ Below w.heap.size w w') (hf : Fits l) (hr : Rd w p l) :
    Calls Tryz.prog 29 #[.agg (boV b (.slice p l.length cap))] w fun e w' => SpB (BxOk b l) e ∧ Below w.heap.size w w' := by
  have hmx := mixed
  have n1 := heap_alloc_new w (.cells (boV b (.slice p l.length cap)) 36)
  have n3 : Below w.heap.size w (w.alloc (.cells (boV b (.slice p l.length cap)) 36)) := (Below.refl _ _).alloc (Nat.le_refl _) _
  have R1 := Lib.hid (box_range n1)
  have HR := Lib.hid (hr.below n3)
  have N1 := Lib.hid n1; have N3 := Lib.hid n3; have CA := Lib.hid HI; have HV := Lib.hid hv; have HF := Lib.hid hf
  generalize hV1 : boV b (.slice p l.length cap) = V1 at *
  have HV1 := Lib.hid hV1
  clear n1 n3 hr hV1 HI hv hf
  go_enter Tryz.func29, Tryz.ntmps29
  go_wp2_with (first | (refine wpList_load_mid rfl 31 (.tmp 3) rfl w.heap.size 0 rfl (cpV b.c).toList _ R1.out Tryz.underlying31 rfl (by kernel_rfl) ?_))
  refine (CA.out _).mono ?_
  rintro e w1 ⟨rfl, hb⟩
  have N1' := Lib.hid ((hb.block _ (lt_of_blk' N1.out)).trans N1.out)
  have L1 := Lib.hid (N3.out.trans (hb.mono N3.out.size))
  have HR1 := Lib.hid (HR.out.below hb)
  have a18 := (cell_of_row _ _ 18 _ _ _ N1'.out).trans (show V1[18]? = some (.slice p l.length cap) by rw [← HV1.out]; rfl)
  clear hb N1 N3 HR CA R1
  cases v with
  | false =>
    go_wp2
    go_ret
    exact ⟨⟨_, rfl, Lib.hid ⟨fun h => (by simp at h), fun h => absurd (HV.out.2 h.1) (by simp)⟩⟩, L1.out⟩
  | true =>
  go_wp2_with fail
  refine (specOk p cap l w1 HF.out HR1.out).mono ?_
  rintro e w2 ⟨rfl, hb⟩
  have n1 := (hb.block _ (lt_of_blk' N1'.out)).trans N1'.out
  have L2 := Lib.hid (L1.out.trans (hb.mono L1.out.size))
  clear hb a18 N1' HR1 L1
  have a19 := (cell_of_row _ _ 19 _ _ _ n1).trans (show V1[19]? = some (.int .i64 b.hp) by rw [← HV1.out]; rfl)
  have a20 := (cell_of_row _ _ 20 _ _ _ n1).trans (show V1[20]? = some (.int .i64 b.bk) by rw [← HV1.out]; rfl)
  have a21 := (cell_of_row _ _ 21 _ _ _ n1).trans (show V1[21]? = some (.string b.inp) by rw [← HV1.out]; rfl)
  have a22 := (cell_of_row _ _ 22 _ _ _ n1).trans (show V1[22]? = some (.int .i64 b.at_) by rw [← HV1.out]; rfl)
  have a23 := (cell_of_row _ _ 23 _ _ _ n1).trans (show V1[23]? = some (.string b.out_) by rw [← HV1.out]; rfl)
  have a24 := (cell_of_row _ _ 24 _ _ _ n1).trans (show V1[24]? = some (.int .i64 b.ck) by rw [← HV1.out]; rfl)
  have a25 := (cell_of_row _ _ 25 _ _ _ n1).trans (show V1[25]? = some (.int .i64 b.sd) by rw [← HV1.out]; rfl)
  have a26 := (cell_of_row _ _ 26 _ _ _ n1).trans (show V1[26]? = some (.int .i64 b.st) by rw [← HV1.out]; rfl)
  have a27 := (cell_of_row _ _ 27 _ _ _ n1).trans (show V1[27]? = some (.int .i64 b.co) by rw [← HV1.out]; rfl)
  have a28 := (cell_of_row _ _ 28 _ _ _ n1).trans (show V1[28]? = some (.int .i64 b.ft) by rw [← HV1.out]; rfl)
  have a29 := (cell_of_row _ _ 29 _ _ _ n1).trans (show V1[29]? = some (.int .i64 b.wh) by rw [← HV1.out]; rfl)
  clear n1
  by_cases hm : MemOk l
  rotate_left
  · have hmb := okB_no hm
    have HM := Lib.hid hm
    clear hm
    go_wp2
    go_ret
    exact ⟨⟨_, rfl, Lib.hid ⟨fun h => (by simp at h), fun h => absurd h.2.1 HM.out⟩⟩, L2.out⟩
  have hmb := okB_yes hm
  have HM := Lib.hid hm
  clear hm
  go_wp2_with fail
  by_cases h1 : 512 ≤ b.hp ∧ b.hp ≤ 3584
  rotate_left
  · refine (inNo (b.hp) (512) (3584) _ (by omega)).mono ?_
    rintro e wz ⟨rfl, rfl⟩
    have H := Lib.hid h1
    clear h1
    go_wp2
    go_ret
    exact ⟨⟨_, rfl, Lib.hid ⟨fun h => (by simp at h), fun h => absurd (h.2.2.1) H.out⟩⟩, L2.out⟩
  refine (inYes (b.hp) (512) (3584) _ h1.1 h1.2).mono ?_
  rintro e wz ⟨rfl, rfl⟩
  have H1 := Lib.hid h1
  clear h1
  go_wp2_with fail
  by_cases h2 : b.hp ≤ b.bk ∧ b.bk ≤ 3584
  rotate_left
  · refine (inNo (b.bk) (b.hp) (3584) _ (by omega)).mono ?_
    rintro e wz ⟨rfl, rfl⟩
    have H := Lib.hid h2
    clear h2
    go_wp2
    go_ret
    exact ⟨⟨_, rfl, Lib.hid ⟨fun h => (by simp at h), fun h => absurd (h.2.2.2.1) H.out⟩⟩, L2.out⟩
  refine (inYes (b.bk) (b.hp) (3584) _ h2.1 h2.2).mono ?_
  rintro e wz ⟨rfl, rfl⟩
  have H2 := Lib.hid h2
  clear h2
  by_cases h3 : b.inp.size ≤ 1024
  rotate_left
  · have q3 : decide ((1024 : Int) < (b.inp.size : Int)) = true := decide_eq_true (by omega)
    have H3 := Lib.hid h3
    clear h3
    go_wp2
    go_ret
    exact ⟨⟨_, rfl, Lib.hid ⟨fun h => (by simp at h), fun h => absurd (h.2.2.2.2.1) H3.out⟩⟩, L2.out⟩
  have q3 : decide ((1024 : Int) < (b.inp.size : Int)) = false := decide_eq_false (by omega)
  have H3 := Lib.hid h3
  clear h3
  go_wp2_with fail
  by_cases h4 : 0 ≤ b.at_ ∧ b.at_ ≤ (b.inp.size : Int)
  rotate_left
  · refine (inNo (b.at_) (0) ((b.inp.size : Int)) _ (by omega)).mono ?_
    rintro e wz ⟨rfl, rfl⟩
    have H := Lib.hid h4
    clear h4
    go_wp2
    go_ret
    exact ⟨⟨_, rfl, Lib.hid ⟨fun h => (by simp at h), fun h => absurd (h.2.2.2.2.2.1) H.out⟩⟩, L2.out⟩
  refine (inYes (b.at_) (0) ((b.inp.size : Int)) _ h4.1 h4.2).mono ?_
  rintro e wz ⟨rfl, rfl⟩
  have H4 := Lib.hid h4
  clear h4
  by_cases h5 : b.out_.size ≤ 512
  rotate_left
  · have q5 : decide ((512 : Int) < (b.out_.size : Int)) = true := decide_eq_true (by omega)
    have H5 := Lib.hid h5
    clear h5
    go_wp2
    go_ret
    exact ⟨⟨_, rfl, Lib.hid ⟨fun h => (by simp at h), fun h => absurd (h.2.2.2.2.2.2.1) H5.out⟩⟩, L2.out⟩
  have q5 : decide ((512 : Int) < (b.out_.size : Int)) = false := decide_eq_false (by omega)
  have H5 := Lib.hid h5
  clear h5
  go_wp2_with fail
  by_cases h6 : 0 ≤ b.ck ∧ b.ck ≤ 1000000
  rotate_left
  · refine (inNo (b.ck) (0) (1000000) _ (by omega)).mono ?_
    rintro e wz ⟨rfl, rfl⟩
    have H := Lib.hid h6
    clear h6
    go_wp2
    go_ret
    exact ⟨⟨_, rfl, Lib.hid ⟨fun h => (by simp at h), fun h => absurd (h.2.2.2.2.2.2.2.1) H.out⟩⟩, L2.out⟩
  refine (inYes (b.ck) (0) (1000000) _ h6.1 h6.2).mono ?_
  rintro e wz ⟨rfl, rfl⟩
  have H6 := Lib.hid h6
  clear h6
  go_wp2_with fail
  by_cases h7 : 0 ≤ b.sd ∧ b.sd ≤ 2147483647
  rotate_left
  · refine (inNo (b.sd) (0) (2147483647) _ (by omega)).mono ?_
    rintro e wz ⟨rfl, rfl⟩
    have H := Lib.hid h7
    clear h7
    go_wp2
    go_ret
    exact ⟨⟨_, rfl, Lib.hid ⟨fun h => (by simp at h), fun h => absurd (h.2.2.2.2.2.2.2.2.1) H.out⟩⟩, L2.out⟩
  refine (inYes (b.sd) (0) (2147483647) _ h7.1 h7.2).mono ?_
  rintro e wz ⟨rfl, rfl⟩
  have H7 := Lib.hid h7
  clear h7
  go_wp2_with fail
  by_cases h8 : 1 ≤ b.st ∧ b.st ≤ 3
  rotate_left
  · refine (inNo b.st 1 3 _ (by omega)).mono ?_
    rintro e wz ⟨rfl, rfl⟩
    have H := Lib.hid (show ¬ StOk b by unfold StOk; omega)
    clear h8
    go_wp2
    go_ret
    exact ⟨⟨_, rfl, Lib.hid ⟨fun h => (by simp at h), fun h => absurd h.2.2.2.2.2.2.2.2.2 H.out⟩⟩, L2.out⟩
  refine (inYes b.st 1 3 _ h8.1 h8.2).mono ?_
  rintro e wz ⟨rfl, rfl⟩
  have HA : Hid (StOk b → BxOk b l) := Lib.hid (fun h => ⟨HV.out.1 (by trivial), HM.out, H1.out, H2.out, H3.out, H4.out, H5.out, H6.out, H7.out, h⟩)
  clear HV HM H1 H2 H3 H4 H5 H6 H7
  clear a19 a20 a21 a22 a23 a24 a25 hmb q3 q5
  have CS := Lib.hid (signB4 b.co)
  by_cases s2 : b.st = 2
  · have p2 : (b.st != 2) = false := by simp [s2]
    have p3 : (b.st != 3) = true := by simp [s2]
    by_cases c : -2147483648 ≤ b.co ∧ b.co ≤ 2147483647
    rotate_left
    · have pc : (wrap64 (wrap32 b.co) != b.co) = true := bne_iff_ne.mpr (fun e => c ((cutB32_iff b.co).mp e.symm))
      have H : Hid (¬ StOk b) := Lib.hid (by unfold StOk; omega)
      clear s2 c h8
      go_wp2_with fail
      refine wp_region_quiet_lit (by kernel_rfl) (by kernel_rfl) ?_
      repeat (first | go_big_quiet_skip | quiet_step (first | (go_at_call 36; exact Calls.quiet_of_same (CS.out _))))
      refine wpQuiet_nil ?_
      intro _ hw'
      obtain ⟨nq, hw''⟩ := hw'
      subst hw''
      have LX := Lib.hid (L2.out.trans (below_draw (w := wz) nq))
      go_wp2
      go_ret
      exact ⟨⟨_, rfl, Lib.hid ⟨fun h => (by simp at h), fun h => absurd h.2.2.2.2.2.2.2.2.2 H.out⟩⟩, LX.out⟩
    have pc : (wrap64 (wrap32 b.co) != b.co) = false := by rw [bne_eq_false_iff_eq]; exact ((cutB32_iff b.co).mpr c).symm
    by_cases f0 : b.ft = 0
    rotate_left
    · have q0 : (b.ft == 0) = false := beq_eq_false_iff_ne.mpr f0
      have H : Hid (¬ StOk b) := Lib.hid (by unfold StOk; omega)
      clear s2 c h8 f0
      go_wp2_with fail
      refine wp_region_quiet_lit (by kernel_rfl) (by kernel_rfl) ?_
      repeat (first | go_big_quiet_skip | quiet_step (first | (go_at_call 36; exact Calls.quiet_of_same (CS.out _))))
      refine wpQuiet_nil ?_
      intro _ hw'
      obtain ⟨nq, hw''⟩ := hw'
      subst hw''
      have LX := Lib.hid (L2.out.trans (below_draw (w := wz) nq))
      go_wp2
      go_ret
      exact ⟨⟨_, rfl, Lib.hid ⟨fun h => (by simp at h), fun h => absurd h.2.2.2.2.2.2.2.2.2 H.out⟩⟩, LX.out⟩
    have q0 : (b.ft == 0) = true := beq_iff_eq.mpr f0
    by_cases g0 : b.wh = 0
    rotate_left
    · have q1 : (b.wh == 0) = false := beq_eq_false_iff_ne.mpr g0
      have H : Hid (¬ StOk b) := Lib.hid (by unfold StOk; omega)
      clear s2 c h8 f0 g0
      go_wp2_with fail
      refine wp_region_quiet_lit (by kernel_rfl) (by kernel_rfl) ?_
      repeat (first | go_big_quiet_skip | quiet_step (first | (go_at_call 36; exact Calls.quiet_of_same (CS.out _))))
      refine wpQuiet_nil ?_
      intro _ hw'
      obtain ⟨nq, hw''⟩ := hw'
      subst hw''
      have LX := Lib.hid (L2.out.trans (below_draw (w := wz) nq))
      go_wp2
      go_ret
      exact ⟨⟨_, rfl, Lib.hid ⟨fun h => (by simp at h), fun h => absurd h.2.2.2.2.2.2.2.2.2 H.out⟩⟩, LX.out⟩
    have q1 : (b.wh == 0) = true := beq_iff_eq.mpr g0
    have HT : Hid (StOk b) := Lib.hid (by unfold StOk; omega)
    clear s2 c h8 f0 g0
    go_wp2_with fail
    refine wp_region_quiet_lit (by kernel_rfl) (by kernel_rfl) ?_
    repeat (first | go_big_quiet_skip | quiet_step (first | (go_at_call 36; exact Calls.quiet_of_same (CS.out _))))
    refine wpQuiet_nil ?_
    intro _ hw'
    obtain ⟨nq, hw''⟩ := hw'
    subst hw''
    have LX := Lib.hid (L2.out.trans (below_draw (w := wz) nq))
    go_wp2
    go_ret
    exact ⟨⟨_, rfl, Lib.hid ⟨fun h => HA.out HT.out, fun _ => rfl⟩⟩, LX.out⟩
  have p2 : (b.st != 2) = true := bne_iff_ne.mpr s2
  by_cases c0 : b.co = 0
  rotate_left
  · have pc : (b.co != 0) = true := bne_iff_ne.mpr c0
    have H : Hid (¬ StOk b) := Lib.hid (by unfold StOk; omega)
    clear s2 c0 h8
    go_wp2_with fail
    refine wp_region_quiet_lit (by kernel_rfl) (by kernel_rfl) ?_
    repeat (first | go_big_quiet_skip | quiet_step (first | (go_at_call 36; exact Calls.quiet_of_same (CS.out _))))
    refine wpQuiet_nil ?_
    intro _ hw'
    obtain ⟨nq, hw''⟩ := hw'
    subst hw''
    have LX := Lib.hid (L2.out.trans (below_draw (w := wz) nq))
    go_wp2
    go_ret
    exact ⟨⟨_, rfl, Lib.hid ⟨fun h => (by simp at h), fun h => absurd h.2.2.2.2.2.2.2.2.2 H.out⟩⟩, LX.out⟩
  have pc : (b.co != 0) = false := by simp [c0]
  have pd : (wrap64 (wrap32 b.co) != b.co) = false := by rw [bne_eq_false_iff_eq]; exact ((cutB32_iff b.co).mpr (by omega)).symm
  by_cases s3 : b.st = 3
  rotate_left
  · have p3 : (b.st != 3) = true := bne_iff_ne.mpr s3
    by_cases f0 : b.ft = 0
    rotate_left
    · have q0 : (b.ft == 0) = false := beq_eq_false_iff_ne.mpr f0
      have H : Hid (¬ StOk b) := Lib.hid (by unfold StOk; omega)
      clear s2 s3 c0 h8 f0
      go_wp2_with fail
      refine wp_region_quiet_lit (by kernel_rfl) (by kernel_rfl) ?_
      repeat (first | go_big_quiet_skip | quiet_step (first | (go_at_call 36; exact Calls.quiet_of_same (CS.out _))))
      refine wpQuiet_nil ?_
      intro _ hw'
      obtain ⟨nq, hw''⟩ := hw'
      subst hw''
      have LX := Lib.hid (L2.out.trans (below_draw (w := wz) nq))
      go_wp2
      go_ret
      exact ⟨⟨_, rfl, Lib.hid ⟨fun h => (by simp at h), fun h => absurd h.2.2.2.2.2.2.2.2.2 H.out⟩⟩, LX.out⟩
    have q0 : (b.ft == 0) = true := beq_iff_eq.mpr f0
    by_cases g0 : b.wh = 0
    rotate_left
    · have q1 : (b.wh == 0) = false := beq_eq_false_iff_ne.mpr g0
      have H : Hid (¬ StOk b) := Lib.hid (by unfold StOk; omega)
      clear s2 s3 c0 h8 f0 g0
      go_wp2_with fail
      refine wp_region_quiet_lit (by kernel_rfl) (by kernel_rfl) ?_
      repeat (first | go_big_quiet_skip | quiet_step (first | (go_at_call 36; exact Calls.quiet_of_same (CS.out _))))
      refine wpQuiet_nil ?_
      intro _ hw'
      obtain ⟨nq, hw''⟩ := hw'
      subst hw''
      have LX := Lib.hid (L2.out.trans (below_draw (w := wz) nq))
      go_wp2
      go_ret
      exact ⟨⟨_, rfl, Lib.hid ⟨fun h => (by simp at h), fun h => absurd h.2.2.2.2.2.2.2.2.2 H.out⟩⟩, LX.out⟩
    have q1 : (b.wh == 0) = true := beq_iff_eq.mpr g0
    have HT : Hid (StOk b) := Lib.hid (by unfold StOk; omega)
    clear s2 s3 c0 h8 f0 g0
    go_wp2_with fail
    refine wp_region_quiet_lit (by kernel_rfl) (by kernel_rfl) ?_
    repeat (first | go_big_quiet_skip | quiet_step (first | (go_at_call 36; exact Calls.quiet_of_same (CS.out _))))
    refine wpQuiet_nil ?_
    intro _ hw'
    obtain ⟨nq, hw''⟩ := hw'
    subst hw''
    have LX := Lib.hid (L2.out.trans (below_draw (w := wz) nq))
    go_wp2
    go_ret
    exact ⟨⟨_, rfl, Lib.hid ⟨fun h => HA.out HT.out, fun _ => rfl⟩⟩, LX.out⟩
  have p3 : (b.st != 3) = false := by simp [s3]
  by_cases f0 : 1 ≤ b.ft ∧ b.ft ≤ 35
  rotate_left
  · have H : Hid (¬ StOk b) := Lib.hid (by unfold StOk; omega)
    have CN := Lib.hid (fun w => inNo b.ft 1 35 w (by omega))
    clear s2 s3 c0 h8 f0
    go_wp2_with fail
    refine wp_region_quiet_lit (by kernel_rfl) (by kernel_rfl) ?_
    repeat (first | go_big_quiet_skip | quiet_step (first | (go_at_call 36; exact Calls.quiet_of_same (CS.out _))))
    refine wpQuiet_nil ?_
    intro _ hw'
    obtain ⟨nq, hw''⟩ := hw'
    subst hw''
    have LX := Lib.hid (L2.out.trans (below_draw (w := wz) nq))
    go_wp2_with fail
    refine (CN.out _).mono ?_
    rintro e wy ⟨rfl, rfl⟩
    go_wp2
    go_ret
    exact ⟨⟨_, rfl, Lib.hid ⟨fun h => (by simp at h), fun h => absurd h.2.2.2.2.2.2.2.2.2 H.out⟩⟩, LX.out⟩
  have HT : Hid (StOk b) := Lib.hid (by unfold StOk; omega)
  have CN := Lib.hid (fun w => inYes b.ft 1 35 w f0.1 f0.2)
  clear s2 s3 c0 h8 f0
  go_wp2_with fail
  refine wp_region_quiet_lit (by kernel_rfl) (by kernel_rfl) ?_
  repeat (first | go_big_quiet_skip | quiet_step (first | (go_at_call 36; exact Calls.quiet_of_same (CS.out _))))
  refine wpQuiet_nil ?_
  intro _ hw'
  obtain ⟨nq, hw''⟩ := hw'
  subst hw''
  have LX := Lib.hid (L2.out.trans (below_draw (w := wz) nq))
  go_wp2_with fail
  refine (CN.out _).mono ?_
  rintro e wy ⟨rfl, rfl⟩
  go_wp2
  go_ret
  exact ⟨⟨_, rfl, Lib.hid ⟨fun h => HA.out HT.out, fun _ => rfl⟩⟩, LX.out⟩
end Go.Proofs.YtbkgmpkednkbcaaGreatDoor
