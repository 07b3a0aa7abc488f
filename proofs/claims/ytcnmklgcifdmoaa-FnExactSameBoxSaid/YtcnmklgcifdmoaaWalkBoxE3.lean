/-
  What spec.SameBox answers: whether two boxes are right and alike; conditions: those in each head.
-/
import Derived.Test.YtcnmklgcifdmoaaWalkBoxE
namespace Go.Proofs.Ytcnmklgcifdmoaa
open Go.RowKit Go.Sort
set_option linter.unusedVariables false
set_option linter.unusedSimpArgs false
set_option maxRecDepth 100000 in
set_option maxHeartbeats 40000000 in
/-- spec.l12Same -/
theorem l12SameC (a b : Bo) (p q : Option Addr) (c1 c2 : Nat) (la lb : List Pg) (w : World) (hn : la.length ≤ 9223372036854775807) (hr : Rd w p la) (hq : Rd w q lb) :
    Calls Try.prog 58 #[.agg (boV a (.slice p la.length c1)), .agg (boV b (.slice q lb.length c2))] w fun e w' => SpB (BoEq a b ∧ la = lb) e ∧ Below w.heap.size w w' := by
  obtain ⟨n1, n2, n3⟩ := two_new w (boV a (.slice p la.length c1)) (boV b (.slice q lb.length c2)) 38
  have hE := eqlCpu a.c b.c
  have R1 := Lib.hid (box_range n1); have R2 := Lib.hid (box_range n2)
  have HR := Lib.hid (hr.below n3); have HQ := Lib.hid (hq.below n3)
  have N1 := Lib.hid n1; have N2 := Lib.hid n2; have N3 := Lib.hid n3
  generalize hV1 : boV a (.slice p la.length c1) = V1 at *
  generalize hV2 : boV b (.slice q lb.length c2) = V2 at *
  have HV1 := Lib.hid hV1; have HV2 := Lib.hid hV2
  have a18 := (cell_of_row _ _ 18 _ _ _ n1).trans (show V1[18]? = some (.slice p la.length c1) by rw [← HV1.out]; rfl)
  have b18 := (cell_of_row _ _ 18 _ _ _ n2).trans (show V2[18]? = some (.slice q lb.length c2) by rw [← HV2.out]; rfl)
  clear n1 n2 n3 hr hq hV1 hV2
  have hn' := Lib.hid hn
  clear hn
  by_cases hc : cpEq a.c b.c = true
  rotate_left
  · have hc' : cpEq a.c b.c = false := by simpa using hc
    have H : Hid (¬ BoEq a b) := Lib.hid (fun h => hc h.c)
    clear hc
    rw [hc'] at hE
    go_enter Try.func58, Try.ntmps58
    simp only [List.append]
    go_wp2_with (first | (refine wpList_load_mid rfl 33 (.tmp 5) rfl w.heap.size 0 rfl (cpV a.c).toList _ R1.out Try.underlying33 rfl (by kernel_rfl) ?_) | (refine wpList_load_mid rfl 33 (.tmp 7) rfl (w.heap.size + 1) 0 rfl (cpV b.c).toList _ R2.out Try.underlying33 rfl (by kernel_rfl) ?_))
    go_ret
    exact ⟨⟨_, rfl, Lib.hid ⟨fun h => (by simp at h), fun h => absurd h.1 H.out⟩⟩, N3.out⟩
  rw [hc] at hE
  go_enter Try.func58, Try.ntmps58
  simp only [List.append]
  go_wp2_with (first | (refine wpList_load_mid rfl 33 (.tmp 5) rfl w.heap.size 0 rfl (cpV a.c).toList _ R1.out Try.underlying33 rfl (by kernel_rfl) ?_) | (refine wpList_load_mid rfl 33 (.tmp 7) rfl (w.heap.size + 1) 0 rfl (cpV b.c).toList _ R2.out Try.underlying33 rfl (by kernel_rfl) ?_))
  refine (l02SameC p q c1 c2 la lb _ hn'.out HR.out HQ.out).mono ?_
  rintro e w1 ⟨rfl, hb⟩
  have n1 := (hb.block _ (lt_of_blk' N1.out)).trans N1.out
  have n2 := (hb.block _ (lt_of_blk' N2.out)).trans N2.out
  have L2 := Lib.hid (N3.out.trans (hb.mono N3.out.size))
  clear hb N1 N2 R1 R2 HR HQ N3 a18 b18 hE
  have a19 := (cell_of_row _ _ 19 _ _ _ n1).trans (show V1[19]? = some (.int .i64 a.hp) by rw [← HV1.out]; rfl)
  have a20 := (cell_of_row _ _ 20 _ _ _ n1).trans (show V1[20]? = some (.int .i64 a.bk) by rw [← HV1.out]; rfl)
  have a21 := (cell_of_row _ _ 21 _ _ _ n1).trans (show V1[21]? = some (.string a.inp) by rw [← HV1.out]; rfl)
  have a22 := (cell_of_row _ _ 22 _ _ _ n1).trans (show V1[22]? = some (.int .i64 a.at_) by rw [← HV1.out]; rfl)
  have a23 := (cell_of_row _ _ 23 _ _ _ n1).trans (show V1[23]? = some (.string a.out_) by rw [← HV1.out]; rfl)
  have a24 := (cell_of_row _ _ 24 _ _ _ n1).trans (show V1[24]? = some (.int .i64 a.ck) by rw [← HV1.out]; rfl)
  have a25 := (cell_of_row _ _ 25 _ _ _ n1).trans (show V1[25]? = some (.int .i64 a.sd) by rw [← HV1.out]; rfl)
  have a26 := (cell_of_row _ _ 26 _ _ _ n1).trans (show V1[26]? = some (.int .i64 a.st) by rw [← HV1.out]; rfl)
  have a27 := (cell_of_row _ _ 27 _ _ _ n1).trans (show V1[27]? = some (.int .i64 a.co) by rw [← HV1.out]; rfl)
  have a28 := (cell_of_row _ _ 28 _ _ _ n1).trans (show V1[28]? = some (.int .i64 a.ft) by rw [← HV1.out]; rfl)
  have a29 := (cell_of_row _ _ 29 _ _ _ n1).trans (show V1[29]? = some (.int .i64 a.wh) by rw [← HV1.out]; rfl)
  have b19 := (cell_of_row _ _ 19 _ _ _ n2).trans (show V2[19]? = some (.int .i64 b.hp) by rw [← HV2.out]; rfl)
  have b20 := (cell_of_row _ _ 20 _ _ _ n2).trans (show V2[20]? = some (.int .i64 b.bk) by rw [← HV2.out]; rfl)
  have b21 := (cell_of_row _ _ 21 _ _ _ n2).trans (show V2[21]? = some (.string b.inp) by rw [← HV2.out]; rfl)
  have b22 := (cell_of_row _ _ 22 _ _ _ n2).trans (show V2[22]? = some (.int .i64 b.at_) by rw [← HV2.out]; rfl)
  have b23 := (cell_of_row _ _ 23 _ _ _ n2).trans (show V2[23]? = some (.string b.out_) by rw [← HV2.out]; rfl)
  have b24 := (cell_of_row _ _ 24 _ _ _ n2).trans (show V2[24]? = some (.int .i64 b.ck) by rw [← HV2.out]; rfl)
  have b25 := (cell_of_row _ _ 25 _ _ _ n2).trans (show V2[25]? = some (.int .i64 b.sd) by rw [← HV2.out]; rfl)
  have b26 := (cell_of_row _ _ 26 _ _ _ n2).trans (show V2[26]? = some (.int .i64 b.st) by rw [← HV2.out]; rfl)
  have b27 := (cell_of_row _ _ 27 _ _ _ n2).trans (show V2[27]? = some (.int .i64 b.co) by rw [← HV2.out]; rfl)
  have b28 := (cell_of_row _ _ 28 _ _ _ n2).trans (show V2[28]? = some (.int .i64 b.ft) by rw [← HV2.out]; rfl)
  have b29 := (cell_of_row _ _ 29 _ _ _ n2).trans (show V2[29]? = some (.int .i64 b.wh) by rw [← HV2.out]; rfl)
  clear n1 n2
  by_cases hl : la = lb
  rotate_left
  · have hs := sameB_no hl
    have H := Lib.hid hl
    clear hl hc
    go_wp2
    go_ret
    exact ⟨⟨_, rfl, Lib.hid ⟨fun h => (by simp at h), fun h => absurd h.2 H.out⟩⟩, L2.out⟩
  have hs := sameB_yes hl
  have HL := Lib.hid hl
  clear hl
  by_cases e_hp : a.hp = b.hp
  rotate_left
  · have t_hp : (a.hp == b.hp) = false := beq_eq_false_iff_ne.mpr e_hp
    have H : Hid (¬ BoEq a b) := Lib.hid (fun h => e_hp h.hp)
    clear hc e_hp
    go_wp2
    go_ret
    exact ⟨⟨_, rfl, Lib.hid ⟨fun h => (by simp at h), fun h => absurd h.1 H.out⟩⟩, L2.out⟩
  have t_hp : (a.hp == b.hp) = true := beq_iff_eq.mpr e_hp
  by_cases e_bk : a.bk = b.bk
  rotate_left
  · have t_bk : (a.bk == b.bk) = false := beq_eq_false_iff_ne.mpr e_bk
    have H : Hid (¬ BoEq a b) := Lib.hid (fun h => e_bk h.bk)
    clear hc e_hp e_bk
    go_wp2
    go_ret
    exact ⟨⟨_, rfl, Lib.hid ⟨fun h => (by simp at h), fun h => absurd h.1 H.out⟩⟩, L2.out⟩
  have t_bk : (a.bk == b.bk) = true := beq_iff_eq.mpr e_bk
  by_cases e_inp : a.inp.toList = b.inp.toList
  rotate_left
  · have t_inp : (a.inp.toList == b.inp.toList) = false := beq_eq_false_iff_ne.mpr e_inp
    have H : Hid (¬ BoEq a b) := Lib.hid (fun h => e_inp h.inp)
    clear hc e_hp e_bk e_inp
    go_wp2
    go_ret
    exact ⟨⟨_, rfl, Lib.hid ⟨fun h => (by simp at h), fun h => absurd h.1 H.out⟩⟩, L2.out⟩
  have t_inp : (a.inp.toList == b.inp.toList) = true := beq_iff_eq.mpr e_inp
  by_cases e_at_ : a.at_ = b.at_
  rotate_left
  · have t_at_ : (a.at_ == b.at_) = false := beq_eq_false_iff_ne.mpr e_at_
    have H : Hid (¬ BoEq a b) := Lib.hid (fun h => e_at_ h.at_)
    clear hc e_hp e_bk e_inp e_at_
    go_wp2
    go_ret
    exact ⟨⟨_, rfl, Lib.hid ⟨fun h => (by simp at h), fun h => absurd h.1 H.out⟩⟩, L2.out⟩
  have t_at_ : (a.at_ == b.at_) = true := beq_iff_eq.mpr e_at_
  by_cases e_out_ : a.out_.toList = b.out_.toList
  rotate_left
  · have t_out_ : (a.out_.toList == b.out_.toList) = false := beq_eq_false_iff_ne.mpr e_out_
    have H : Hid (¬ BoEq a b) := Lib.hid (fun h => e_out_ h.out_)
    clear hc e_hp e_bk e_inp e_at_ e_out_
    go_wp2
    go_ret
    exact ⟨⟨_, rfl, Lib.hid ⟨fun h => (by simp at h), fun h => absurd h.1 H.out⟩⟩, L2.out⟩
  have t_out_ : (a.out_.toList == b.out_.toList) = true := beq_iff_eq.mpr e_out_
  by_cases e_ck : a.ck = b.ck
  rotate_left
  · have t_ck : (a.ck == b.ck) = false := beq_eq_false_iff_ne.mpr e_ck
    have H : Hid (¬ BoEq a b) := Lib.hid (fun h => e_ck h.ck)
    clear hc e_hp e_bk e_inp e_at_ e_out_ e_ck
    go_wp2
    go_ret
    exact ⟨⟨_, rfl, Lib.hid ⟨fun h => (by simp at h), fun h => absurd h.1 H.out⟩⟩, L2.out⟩
  have t_ck : (a.ck == b.ck) = true := beq_iff_eq.mpr e_ck
  by_cases e_sd : a.sd = b.sd
  rotate_left
  · have t_sd : (a.sd == b.sd) = false := beq_eq_false_iff_ne.mpr e_sd
    have H : Hid (¬ BoEq a b) := Lib.hid (fun h => e_sd h.sd)
    clear hc e_hp e_bk e_inp e_at_ e_out_ e_ck e_sd
    go_wp2
    go_ret
    exact ⟨⟨_, rfl, Lib.hid ⟨fun h => (by simp at h), fun h => absurd h.1 H.out⟩⟩, L2.out⟩
  have t_sd : (a.sd == b.sd) = true := beq_iff_eq.mpr e_sd
  by_cases e_st : a.st = b.st
  rotate_left
  · have t_st : (a.st == b.st) = false := beq_eq_false_iff_ne.mpr e_st
    have H : Hid (¬ BoEq a b) := Lib.hid (fun h => e_st h.st)
    clear hc e_hp e_bk e_inp e_at_ e_out_ e_ck e_sd e_st
    go_wp2
    go_ret
    exact ⟨⟨_, rfl, Lib.hid ⟨fun h => (by simp at h), fun h => absurd h.1 H.out⟩⟩, L2.out⟩
  have t_st : (a.st == b.st) = true := beq_iff_eq.mpr e_st
  by_cases e_co : a.co = b.co
  rotate_left
  · have t_co : (a.co == b.co) = false := beq_eq_false_iff_ne.mpr e_co
    have H : Hid (¬ BoEq a b) := Lib.hid (fun h => e_co h.co)
    clear hc e_hp e_bk e_inp e_at_ e_out_ e_ck e_sd e_st e_co
    go_wp2
    go_ret
    exact ⟨⟨_, rfl, Lib.hid ⟨fun h => (by simp at h), fun h => absurd h.1 H.out⟩⟩, L2.out⟩
  have t_co : (a.co == b.co) = true := beq_iff_eq.mpr e_co
  by_cases e_ft : a.ft = b.ft
  rotate_left
  · have t_ft : (a.ft == b.ft) = false := beq_eq_false_iff_ne.mpr e_ft
    have H : Hid (¬ BoEq a b) := Lib.hid (fun h => e_ft h.ft)
    clear hc e_hp e_bk e_inp e_at_ e_out_ e_ck e_sd e_st e_co e_ft
    go_wp2
    go_ret
    exact ⟨⟨_, rfl, Lib.hid ⟨fun h => (by simp at h), fun h => absurd h.1 H.out⟩⟩, L2.out⟩
  have t_ft : (a.ft == b.ft) = true := beq_iff_eq.mpr e_ft
  by_cases e_wh : a.wh = b.wh
  rotate_left
  · have t_wh : (a.wh == b.wh) = false := beq_eq_false_iff_ne.mpr e_wh
    have H : Hid (¬ BoEq a b) := Lib.hid (fun h => e_wh h.wh)
    clear hc e_hp e_bk e_inp e_at_ e_out_ e_ck e_sd e_st e_co e_ft e_wh
    go_wp2
    go_ret
    exact ⟨⟨_, rfl, Lib.hid ⟨fun h => (by simp at h), fun h => absurd h.1 H.out⟩⟩, L2.out⟩
  have t_wh : (a.wh == b.wh) = true := beq_iff_eq.mpr e_wh
  have HT : Hid (BoEq a b) := Lib.hid ⟨hc, e_hp, e_bk, e_inp, e_at_, e_out_, e_ck, e_sd, e_st, e_co, e_ft, e_wh⟩
  clear hc e_hp e_bk e_inp e_at_ e_out_ e_ck e_sd e_st e_co e_ft e_wh
  go_wp2
  go_ret
  exact ⟨⟨_, rfl, Lib.hid ⟨fun _ => ⟨HT.out, HL.out⟩, fun _ => rfl⟩⟩, L2.out⟩
set_option maxRecDepth 100000 in
set_option maxHeartbeats 40000000 in
/-- spec.SameBox -/
theorem sameBoxS (a b : Bo) (p q : Option Addr) (c1 c2 : Nat) (la lb : List Pg) (v u : Bool) (w : World) (hv : v = true ↔ FlOK a.c.fl) (hu : u = true ↔ FlOK b.c.fl) (HI : ∀ w, Calls Try.prog 42 #[.agg (cpV a.c)] w fun e w' => e = .returned (.bool v) ∧ Below w.heap.size w w') (HU : ∀ w, Calls Try.prog 42 #[.agg (cpV b.c)] w fun e w' => e = .returned (.bool u) ∧ Below w.heap.size w w') (hf : Fits la) (hf' : Fits lb) (hr : Rd w p la) (hq : Rd w q lb) :
    Calls Try.prog 25 #[.agg (boV a (.slice p la.length c1)), .agg (boV b (.slice q lb.length c2))] w fun e w' => SpB (BxOk a la ∧ BoEq a b ∧ la = lb) e ∧ Below w.heap.size w w' := by
  obtain ⟨n1, n2, n3⟩ := two_new w (boV a (.slice p la.length c1)) (boV b (.slice q lb.length c2)) 38
  have HR := Lib.hid (hr.below n3); have HQ := Lib.hid (hq.below n3)
  have N1 := Lib.hid n1; have N2 := Lib.hid n2; have N3 := Lib.hid n3
  have CA := Lib.hid (fun W hR => boxS a p c1 la v W hv HI hf hR)
  have CB := Lib.hid (fun W hR => boxS b q c2 lb u W hu HU hf' hR)
  have CS := Lib.hid (fun W hR hR' => l12SameC a b p q c1 c2 la lb W hf.1 hR hR')
  have sz : (boV a (.slice p la.length c1)).size = 30 := rfl
  have sy : (boV b (.slice q lb.length c2)).size = 30 := rfl
  generalize hV1 : boV a (.slice p la.length c1) = V1 at *
  generalize hV2 : boV b (.slice q lb.length c2) = V2 at *
  have SZ := Lib.hid sz; have SY := Lib.hid sy
  have J30 := Lib.hid (show (Try.prog.info? 38).map (·.size) = some 30 by kernel_rfl)
  clear n1 n2 n3 hr hq hV1 hV2 sz sy hf hf' hv hu HI HU
  go_enter Try.func25, Try.ntmps25
  go_wp2_with (first | (refine wpList_load_row rfl 38 (.tmp 2) rfl w.heap.size rfl 38 V1 (0, 0) _ N1.out Try.underlying38 rfl (by rw [SZ.out]; exact J30.out) ?_))
  refine (CA.out _ HR.out).mono ?_
  rintro e w1 ⟨⟨r, rfl, HB⟩, hb⟩
  have N1' := Lib.hid ((hb.block _ (lt_of_blk' N1.out)).trans N1.out)
  have N2' := Lib.hid ((hb.block _ (lt_of_blk' N2.out)).trans N2.out)
  have L1 := Lib.hid (N3.out.trans (hb.mono N3.out.size))
  have HR1 := Lib.hid (HR.out.below hb); have HQ1 := Lib.hid (HQ.out.below hb)
  clear hb N1 N2 N3 HR HQ CA
  cases r with
  | false =>
    go_wp2
    go_ret
    exact ⟨⟨_, rfl, Lib.hid ⟨fun h => (by simp at h), fun h => absurd (HB.out.2 h.1) (by simp)⟩⟩, L1.out⟩
  | true =>
  go_wp2_with (first | (refine load_rowB rfl 38 (.tmp 3) rfl (w.heap.size + 1) rfl 38 V2 (0, 0) _ N2'.out Try.underlying38 rfl (by rw [SY.out]; exact J30.out) ?_))
  refine (CB.out _ HQ1.out).mono ?_
  rintro e w2 ⟨⟨r2, rfl, HB2⟩, hb⟩
  have M1 := Lib.hid ((hb.block _ (lt_of_blk' N1'.out)).trans N1'.out)
  have M2 := Lib.hid ((hb.block _ (lt_of_blk' N2'.out)).trans N2'.out)
  have L2 := Lib.hid (L1.out.trans (hb.mono L1.out.size))
  have HR2 := Lib.hid (HR1.out.below hb); have HQ2 := Lib.hid (HQ1.out.below hb)
  clear hb N1' N2' L1 HR1 HQ1 CB
  have HO : Hid (BxOk a la) := Lib.hid (HB.out.1 (by trivial))
  cases r2 with
  | false =>
    go_wp2
    go_ret
    exact ⟨⟨_, rfl, Lib.hid ⟨fun h => (by simp at h), fun h => absurd (HB2.out.2 (h.2.2 ▸ BxOk.same h.2.1 h.1)) (by simp)⟩⟩, L2.out⟩
  | true =>
  go_wp2_with (first | (refine load_rowB rfl 38 (.tmp 2) rfl w.heap.size rfl 38 V1 (0, 0) _ M1.out Try.underlying38 rfl (by rw [SZ.out]; exact J30.out) ?_) | (refine load_rowB rfl 38 (.tmp 3) rfl (w.heap.size + 1) rfl 38 V2 (0, 0) _ M2.out Try.underlying38 rfl (by rw [SY.out]; exact J30.out) ?_))
  refine (CS.out _ HR2.out HQ2.out).mono ?_
  rintro e w3 ⟨⟨r3, rfl, HE⟩, hb⟩
  have L3 := Lib.hid (L2.out.trans (hb.mono L2.out.size))
  clear hb L2
  go_wp2
  go_ret
  exact ⟨⟨_, rfl, Lib.hid ⟨fun h => ⟨HO.out, HE.out.1 h⟩, fun h => HE.out.2 h.2⟩⟩, L3.out⟩
end Go.Proofs.Ytcnmklgcifdmoaa
