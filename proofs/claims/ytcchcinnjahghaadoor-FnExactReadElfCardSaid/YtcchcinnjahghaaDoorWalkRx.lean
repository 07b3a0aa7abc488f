/-
  What impl.readImage answers of a text; condition: that it is no longer than MaxText.
-/
import Derived.Test.YtcchcinnjahghaaDoorWalkRh
namespace Go.Proofs.YtcchcinnjahghaaDoor
open Go.RowKit
set_option linter.unusedVariables false
set_option linter.unusedSimpArgs false
theorem imE_ne {c : Int} (h : c ≠ 0) : imE c = .iface 83 (.int .i64 c) := if_neg h
/-- the segments that a text's first m heads tell -/
def lstT (t : ByteArray) (m : Nat) : List Sg := (List.range m).map fun i => sgAt t (64 + 56 * i)
theorem lstT_len (t : ByteArray) (m : Nat) : (lstT t m).length = m := by simp [lstT]
theorem lstT_at (t : ByteArray) {m k : Nat} (h : k < m) : (lstT t m)[k]? = some (sgAt t (64 + 56 * k)) := by simp [lstT, h]
theorem lstT_small (t : ByteArray) (m : Nat) (hm : m ≤ 4) (ht : t.size ≤ 65536) : SmallS (lstT t m) := by
  refine ⟨by rw [lstT_len]; omega, fun k x hk => ?_⟩
  have hkm : k < m := by have := (List.getElem?_eq_some_iff.1 hk).1; rwa [lstT_len] at this
  rw [lstT_at t hkm] at hk
  cases hk
  show (subT t _ _).size ≤ 1048576
  unfold subT
  rw [ByteArray.size_extract]
  omega
/-- all heads ahead of k are right -/
def RsTo (t : ByteArray) (k : Nat) : Prop := ∀ j, j < k → rsAt t (64 + 56 * j) = 0
/-- what readImage answers -/
def RxOut (w w' : World) (t : ByteArray) (e : Ending) : Prop :=
  (∃ E, e = .returned (.tuple #[.agg #[.int .i64 0, .slice none 0 0], E]) ∧ ((hdC t ≠ 0 ∧ E = imE (hdC t)) ∨ (hdC t = 0 ∧ ∃ m : Nat, (m : Int) = tkN t 56 2 ∧ ((∃ k, k < m ∧ RsTo t k ∧ rsAt t (64 + 56 * k) ≠ 0 ∧ E = sgE k (rsAt t (64 + 56 * k))) ∨ (RsTo t m ∧ ∃ k c, Chk (tkN t 24 8) (lstT t m) k c ∧ c ≠ 0 ∧ ErrIs k c E)))))
  ∨ (hdC t = 0 ∧ ∃ m : Nat, (m : Int) = tkN t 56 2 ∧ RsTo t m ∧ (∃ k, Chk (tkN t 24 8) (lstT t m) k 0) ∧ ∃ g cap, e = .returned (.tuple #[.agg #[.int .i64 (tkN t 24 8), .slice (some ⟨g, 0, none⟩) m cap], .nilIface]) ∧ w'.ownsRow w.heap.size 61 4 (.slice (some ⟨g, 0, none⟩) m cap) m (SV (lstT t m)))
theorem hd_zero {t : ByteArray} (h : hdC t = 0) : 64 ≤ t.size ∧ tkN t 56 2 ≤ 4 ∧ (64 : Int) + 56 * tkN t 56 2 ≤ t.size := by
  unfold hdC at h
  generalize tkN t 56 2 = y at h ⊢
  generalize magicB t = b at h
  by_cases h1 : t.size < 64
  · rw [if_pos h1] at h; cases h
  · rw [if_neg h1] at h
    cases b
    · simp at h
    · simp only [Bool.true_eq_false, if_false] at h
      by_cases h2 : 4 < y
      · rw [if_pos h2] at h; cases h
      · rw [if_neg h2] at h
        by_cases h3 : (t.size : Int) < 64 + 56 * y
        · rw [if_pos h3] at h; cases h
        · omega
theorem oth4 (w : World) (g k b o : Nat) (p q r s : Value) (h : g ≠ b) : ((((w.setCell ⟨g, k * 4, none⟩ p).setCell ⟨g, k * 4 + 1, none⟩ q).setCell ⟨g, k * 4 + 2, none⟩ r).setCell ⟨g, k * 4 + 3, none⟩ s).cell? ⟨b, o, none⟩ = w.cell? ⟨b, o, none⟩ := by
  rw [cellOther (by simp [h]), cellOther (by simp [h]), cellOther (by simp [h]), cellOther (by simp [h])]
/-- behind the answer's two stores -/
theorem two_res {W : World} {b : Nat} {u0 u1 v0 v1 : Value} (h0 : W.cell? ⟨b, 0, none⟩ = some u0) (h1 : W.cell? ⟨b, 1, none⟩ = some u1) : ((W.setCell ⟨b, 0, none⟩ v0).setCell ⟨b, 1, none⟩ v1).cell? ⟨b, 0, none⟩ = some v0 ∧ ((W.setCell ⟨b, 0, none⟩ v0).setCell ⟨b, 1, none⟩ v1).cell? ⟨b, 1, none⟩ = some v1 :=
  ⟨(cellOther (by simp) _).trans (cellSame h0 _), cellSame ((cellOther (by simp) _).trans h1) _⟩
theorem infoSgR : (Tryd.prog.info? 61).map (fun i => (i.zero, i.size, i.bytes)) = some (some (.agg #[.int .i64 0, .int .i64 0, .int .i64 0, .string ⟨#[]⟩]), 4, 40) := by kernel_rfl
set_option maxRecDepth 20000 in
set_option maxHeartbeats 4000000 in
theorem readImageC (t : ByteArray) (w : World) (hm : t.size ≤ 65536) : Calls Tryd.prog 18 #[.string t] w fun e w' => RxOut w w' t e ∧ Below w.heap.size w w' := by
  obtain ⟨W, hW⟩ : ∃ W, W = w.alloc (.cells #[.int .i64 0, .slice none 0 0] 24) := ⟨_, rfl⟩
  have LW : Hid (Below w.heap.size w W) := Lib.hid (by rw [hW]; exact belowA _ _)
  have IW : Hid (ImAt W w.heap.size 0 none 0 0) := Lib.hid (by rw [hW]; exact ImAt.new _ _ _ _ _ _)
  have FW : Hid (∀ k, W.frozen? ⟨w.heap.size, k, none⟩ = false) := Lib.hid (by rw [hW]; intro k; simp [go_sem])
  have HWW := Lib.hid hW
  clear hW
  by_cases h0 : hdC t = 0
  · have C := Lib.hid (fun W => readHeadC t W hm (tkN t 24 8) (tkN t 56 2) 0 h0.symm (if_pos rfl).symm (if_pos rfl).symm)
    obtain ⟨z1, z2, z3⟩ := hd_zero h0
    have z0 := (tk2 t 56).1
    obtain ⟨m, hmY⟩ : ∃ m : Nat, (m : Int) = tkN t 56 2 := ⟨(tkN t 56 2).toNat, by omega⟩
    rw [← hmY] at C z2 z3
    rw [show imE 0 = .nilIface from rfl] at C
    have H0 := Lib.hid h0; have HY := Lib.hid hmY
    obtain ⟨X, hX⟩ : ∃ X, X = tkN t 24 8 := ⟨_, rfl⟩
    rw [← hX] at C
    have HX := Lib.hid hX
    clear h0 hmY hX z0
    have m4 : m ≤ 4 := by omega
    have hsz : 64 + 56 * m ≤ t.size := by omega
    clear z2 z3
    obtain ⟨i0, hi, hz0, hz1, hz2⟩ := info_parts infoSgR
    have hb40 : i0.bytes * m ≤ 281474976710656 := by rw [hz2]; omega
    have hml : m ≤ maxLen := by unfold maxLen; omega
    go_enter Tryd.func18, Tryd.ntmps18
    go_wp2_with fail
    rw [← HWW.out]
    refine (C.out _).mono ?_
    rintro e w1 ⟨rfl, b1⟩
    have L1 := Lib.hid (LW.out.trans (b1.mono LW.out.size))
    have I1 := Lib.hid (IW.out.next b1)
    have F1 : Hid (∀ k, w1.frozen? ⟨w.heap.size, k, none⟩ = false) := Lib.hid (fun k => (b1.frozen (p := ⟨w.heap.size, k, none⟩) IW.out.1).trans (FW.out k))
    clear b1 C LW IW FW HWW
    go_wp2_with (at_make; refine wpList_make_full _ rfl _ _ 22 rfl w1.heap.size 61 i0 _ 4 Tryd.underlying22 hi hz0 hz1 .i64 .i64 _ _ m rfl rfl rfl rfl hb40 hml (Nat.le_refl _) ?_; intro w2 hown0 hgrow0)
    have hb0 : Below w1.heap.size w1 w2 := (Below.refl _ _).grown hgrow0 (Nat.le_refl _) (fun _ h => by cases h)
    clear hgrow0
    go_loopw [25] (fun i wr => ∃ k : Nat, k ≤ m ∧ i = .int .i64 k ∧ Hid (RsTo t k) ∧ wr.ownsRow w1.heap.size 61 4 (.slice (some ⟨w1.heap.size, 0, none⟩) m m) m (SV ((lstT t m).take k ++ List.replicate (m - k) zs)) ∧ Below w1.heap.size w1 wr) (fun i _ => m - (intOf i).toNat)
    case atStart => exact ⟨0, Nat.zero_le _, rfl, Lib.hid (fun j h => by omega), by rw [made_zs] at hown0; simpa using hown0, hb0⟩
    case round =>
      obtain ⟨k, hk, rfl, HR, hown, hb⟩ := hrel
      by_cases hlt : k < m
      · have D := Lib.hid (fun W => rsI t (64 + 56 * k) W hm (by omega))
        have eA : ((64 + 56 * k : Nat) : Int) = 64 + (k : Int) * 56 := by omega
        rw [eA] at D
        obtain ⟨rc, hrc⟩ : ∃ c, c = rsAt t (64 + 56 * k) := ⟨_, rfl⟩
        obtain ⟨sg, hsg⟩ : ∃ s, s = sgAt t (64 + 56 * k) := ⟨_, rfl⟩
        rw [← hrc, ← hsg] at D
        have HRC := Lib.hid hrc; have HSG := Lib.hid hsg
        have hrz : rc = 0 ∨ rc ≠ 0 := by omega
        clear hrc hsg eA
        go_wp2_with fail
        with_reducible refine Calls.mono (D.out _) ?_
        rintro e w3 ⟨⟨x, rfl, hx⟩, b3⟩
        have hown3 := own_below hown b3
        have B3 := Lib.hid (bthenS hb b3)
        have HXZ := Lib.hid hx
        clear hown hb b3 hx D
        obtain ⟨u0, d0⟩ := own_cell hown3 (k * 4) (by omega); obtain ⟨u1, d1⟩ := own_cell hown3 (k * 4 + 1) (by omega); obtain ⟨u2, d2⟩ := own_cell hown3 (k * 4 + 2) (by omega); obtain ⟨u3', d3⟩ := own_cell hown3 (k * 4 + 3) (by omega)
        have f0 := hown3.frozenAt (k * 4); have f1 := hown3.frozenAt (k * 4 + 1); have f2 := hown3.frozenAt (k * 4 + 2); have f3 := hown3.frozenAt (k * 4 + 3)
        rcases hrz with rfl | hrz
        · obtain rfl : x = sg := HXZ.out rfl
          rw [show imE 0 = .nilIface from rfl]
          go_wp2
          go_roundw
          case rel =>
            have hkx : (lstT t m)[k]? = some x := by rw [lstT_at t hlt, ← HSG.out]
            refine ⟨k + 1, by omega, by go_num, Lib.hid (fun j hj => ?_), ?_, (((B3.out.setCell (Nat.le_refl _) _).setCell (Nat.le_refl _) _).setCell (Nat.le_refl _) _).setCell (Nat.le_refl _) _⟩
            · by_cases e : j = k
              · rw [e]; exact HRC.out.symm
              · exact HR.out j (by omega)
            · have := own_setSg (k := k) hown3 x
              have e := fill_nextS hkx
              rw [lstT_len] at e
              rw [e] at this
              exact this
          case measure => simp [intOf]; omega
        · rw [imE_ne hrz]
          obtain ⟨j0, j1, j2⟩ := I1.out.next B3.out
          have hne : w1.heap.size ≠ w.heap.size := by have := I1.out.1; omega
          have p0 : w3.frozen? ⟨w.heap.size, 0, none⟩ = false := (B3.out.frozen (p := ⟨w.heap.size, 0, none⟩) I1.out.1).trans (F1.out 0)
          have p1 : w3.frozen? ⟨w.heap.size, 1, none⟩ = false := (B3.out.frozen (p := ⟨w.heap.size, 1, none⟩) I1.out.1).trans (F1.out 1)
          have R := Lib.hid (two_res (v0 := .int .i64 0) (v1 := .slice none 0 0) ((oth4 w3 w1.heap.size k w.heap.size 0 (.int .i64 x.f) (.int .i64 x.v) (.int .i64 x.m) (.string x.d) hne).trans j1) ((oth4 w3 w1.heap.size k w.heap.size 1 (.int .i64 x.f) (.int .i64 x.v) (.int .i64 x.m) (.string x.d) hne).trans j2))
          have HZ := Lib.hid hrz
          clear hrz
          go_wp2
          obtain ⟨r0, r1⟩ := R.out
          refine bodyPost_ret (v := .tuple #[.agg #[.int .i64 0, .slice none 0 0], sgE k rc]) (by simp [results, Tryd.results18, go_sem, r0, r1, sgE]) rfl ?_
          have Lq : Below w.heap.size w w3 := L1.out.trans (B3.out.mono L1.out.size)
          have hle : w.heap.size ≤ w1.heap.size := L1.out.size
          refine ⟨.inl ⟨_, rfl, .inr ⟨H0.out, m, HY.out, .inl ⟨k, hlt, HR.out, by rw [← HRC.out]; exact HZ.out, by rw [← HRC.out]⟩⟩⟩, ?_⟩
          exact (((((Lq.setCell hle _).setCell hle _).setCell hle _).setCell hle _).setCell (Nat.le_refl _) _).setCell (Nat.le_refl _) _
      · obtain rfl : k = m := by omega
        have e1 : (lstT t k).take k ++ List.replicate (k - k) zs = lstT t k := by
          rw [Nat.sub_self, List.replicate_zero, List.append_nil, List.take_of_length_le (by rw [lstT_len]; exact Nat.le_refl _)]
        rw [e1] at hown
        obtain ⟨kk, c, hc⟩ := chk_all X (lstT t k)
        have HC := Lib.hid hc
        obtain ⟨g0, g1, g2⟩ := I1.out.next hb
        have p0 : wr.frozen? ⟨w.heap.size, 0, none⟩ = false := (hb.frozen (p := ⟨w.heap.size, 0, none⟩) I1.out.1).trans (F1.out 0)
        have p1 : wr.frozen? ⟨w.heap.size, 1, none⟩ = false := (hb.frozen (p := ⟨w.heap.size, 1, none⟩) I1.out.1).trans (F1.out 1)
        have OW := Lib.hid hown; have HBB := Lib.hid hb
        clear e1 hc hown hb
        go_wp2_with fail
        have RD : RdS wr (some ⟨w1.heap.size, 0, none⟩) (lstT t k) := RdS.of_own OW.out
        obtain ⟨W4, hW4⟩ : ∃ W4, W4 = wr.alloc (.cells #[.int .i64 X, .slice (some ⟨w1.heap.size, 0, none⟩) k k] 24) := ⟨_, rfl⟩
        have A4 : Hid (Below wr.heap.size wr W4) := Lib.hid (by rw [hW4]; exact belowA _ _)
        have I4 : Hid (ImAt W4 wr.heap.size X (some ⟨w1.heap.size, 0, none⟩) k k) := Lib.hid (by rw [hW4]; exact ImAt.new _ _ _ _ _ _)
        have D := Lib.hid (chkI X (some ⟨w1.heap.size, 0, none⟩) k (lstT t k) W4 (by rw [lstT_len]; exact Nat.le_refl _) (RD.below A4.out) (lstT_small t k m4 hm) kk c HC.out)
        rw [lstT_len] at D
        rw [← hW4]
        clear RD hW4 g0 g1 g2 p0 p1
        with_reducible refine Calls.mono (D.out) ?_
        rintro e w5 ⟨⟨V, rfl, hV⟩, b5⟩
        have B5 := Lib.hid (bthenS A4.out b5)
        obtain ⟨y0, y1, y2⟩ := I4.out.next b5
        have B6 := Lib.hid (bthenS HBB.out B5.out)
        obtain ⟨j0, j1, j2⟩ := I1.out.next B6.out
        have p0 : w5.frozen? ⟨w.heap.size, 0, none⟩ = false := (B6.out.frozen (p := ⟨w.heap.size, 0, none⟩) I1.out.1).trans (F1.out 0)
        have p1 : w5.frozen? ⟨w.heap.size, 1, none⟩ = false := (B6.out.frozen (p := ⟨w.heap.size, 1, none⟩) I1.out.1).trans (F1.out 1)
        have Lq := Lib.hid (show Below w.heap.size w w5 from L1.out.trans (B6.out.mono L1.out.size))
        have OV := Lib.hid (own_below OW.out B5.out)
        have hwle := Lib.hid L1.out.size
        have hwlt := Lib.hid I1.out.1
        clear b5 D A4 I4 OW
        by_cases hc0 : c = 0
        · subst hc0
          have HVV := Lib.hid hV
          obtain rfl : V = .nilIface := by
            rcases HVV.out with ⟨_, h⟩ | ⟨h, _⟩
            · exact h
            · exact absurd rfl h
          have R := Lib.hid (two_res (v0 := .int .i64 X) (v1 := .slice (some ⟨w1.heap.size, 0, none⟩) k k) j1 j2)
          clear hV
          go_wp2
          obtain ⟨r0, r1⟩ := R.out
          refine bodyPost_ret (v := .tuple #[.agg #[.int .i64 X, .slice (some ⟨w1.heap.size, 0, none⟩) k k], .nilIface]) (by simp [results, Tryd.results18, go_sem, r0, r1]) rfl ?_
          refine ⟨.inr ⟨H0.out, k, HY.out, HR.out, ⟨kk, by rw [← HX.out]; exact HC.out⟩, w1.heap.size, k, by rw [← HX.out], ?_⟩, (Lq.out.setCell (Nat.le_refl _) _).setCell (Nat.le_refl _) _⟩
          exact ownsRow_setCell_other (ownsRow_setCell_other (Joins.ownsRow_le OV.out hwle.out) (by simp [Value.ownBlock]; have := hwlt.out; omega) _) (by simp [Value.ownBlock]; have := hwlt.out; omega) _
        · have R := Lib.hid (two_res (v0 := .int .i64 0) (v1 := .slice none 0 0) j1 j2)
          have HV := Lib.hid hV
          have HZ := Lib.hid hc0
          have hV2 : (V = .iface 83 (.int .i64 c)) ∨ V = sgE kk c := by
            rcases hV with ⟨_, h⟩ | ⟨_, h⟩
            · exact .inl (h.trans (imE_ne hc0))
            · exact .inr h
          clear hV hc0
          rcases hV2 with rfl | rfl
          · go_wp2
            obtain ⟨r0, r1⟩ := R.out
            refine bodyPost_ret (v := .tuple #[.agg #[.int .i64 0, .slice none 0 0], .iface 83 (.int .i64 c)]) (by simp [results, Tryd.results18, go_sem, r0, r1]) rfl ?_
            exact ⟨.inl ⟨_, rfl, .inr ⟨H0.out, k, HY.out, .inr ⟨HR.out, kk, c, by rw [← HX.out]; exact HC.out, HZ.out, HV.out⟩⟩⟩, (Lq.out.setCell (Nat.le_refl _) _).setCell (Nat.le_refl _) _⟩
          · unfold sgE
            go_wp2
            obtain ⟨r0, r1⟩ := R.out
            refine bodyPost_ret (v := .tuple #[.agg #[.int .i64 0, .slice none 0 0], sgE kk c]) (by simp [results, Tryd.results18, go_sem, r0, r1, sgE]) rfl ?_
            exact ⟨.inl ⟨_, rfl, .inr ⟨H0.out, k, HY.out, .inr ⟨HR.out, kk, c, by rw [← HX.out]; exact HC.out, HZ.out, HV.out⟩⟩⟩, (Lq.out.setCell (Nat.le_refl _) _).setCell (Nat.le_refl _) _⟩
  · have C := Lib.hid (fun W => readHeadC t W hm 0 0 (hdC t) rfl (if_neg h0).symm (if_neg h0).symm)
    have HN := Lib.hid h0
    obtain ⟨c, hc⟩ : ∃ c, c = hdC t := ⟨_, rfl⟩
    rw [← hc] at C h0
    have HC := Lib.hid hc
    rw [imE_ne h0] at C
    clear hc
    clear h0
    go_enter Tryd.func18, Tryd.ntmps18
    go_wp2_with fail
    rw [← HWW.out]
    refine (C.out _).mono ?_
    rintro e w1 ⟨rfl, b1⟩
    have L1 := Lib.hid (LW.out.trans (b1.mono LW.out.size))
    obtain ⟨i0, i1, i2⟩ := IW.out.next b1
    have f0 : w1.frozen? ⟨w.heap.size, 0, none⟩ = false := (b1.frozen (p := ⟨w.heap.size, 0, none⟩) IW.out.1).trans (FW.out 0)
    have f1 : w1.frozen? ⟨w.heap.size, 1, none⟩ = false := (b1.frozen (p := ⟨w.heap.size, 1, none⟩) IW.out.1).trans (FW.out 1)
    have r0 : ((w1.setCell ⟨w.heap.size, 0, none⟩ (.int .i64 0)).setCell ⟨w.heap.size, 1, none⟩ (.slice none 0 0)).cell? ⟨w.heap.size, 0, none⟩ = some (.int .i64 0) := (cellOther (by simp) _).trans (cellSame i1 _)
    have r1 : ((w1.setCell ⟨w.heap.size, 0, none⟩ (.int .i64 0)).setCell ⟨w.heap.size, 1, none⟩ (.slice none 0 0)).cell? ⟨w.heap.size, 1, none⟩ = some (.slice none 0 0) := cellSame ((cellOther (by simp) _).trans i2) _
    have R0 := Lib.hid r0; have R1 := Lib.hid r1
    clear b1 C LW IW FW HWW r0 r1
    go_wp2
    have r0 := R0.out; have r1 := R1.out
    refine bodyPost_ret (v := .tuple #[.agg #[.int .i64 0, .slice none 0 0], .iface 83 (.int .i64 c)]) (by simp [results, Tryd.results18, go_sem, r0, r1]) rfl ?_
    refine ⟨?_, (L1.out.setCell (Nat.le_refl _) _).setCell (Nat.le_refl _) _⟩
    exact .inl ⟨_, rfl, .inl ⟨HN.out, by rw [← HC.out, imE_ne (by rw [HC.out]; exact HN.out)]⟩⟩
end Go.Proofs.YtcchcinnjahghaaDoor
