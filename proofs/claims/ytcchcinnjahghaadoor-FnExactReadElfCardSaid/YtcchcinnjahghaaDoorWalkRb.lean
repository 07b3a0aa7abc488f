/-
  What spec.l10Read and spec.ReadElf answer of a text that is not too long; no condition but those in each head.
-/
import Derived.Test.YtcchcinnjahghaaDoorMathRc
import Derived.Deep.AppendLies
namespace Go.Proofs.YtcchcinnjahghaaDoor
open Go.RowKit
set_option linter.unusedVariables false
set_option linter.unusedSimpArgs false
theorem hd_ways (t : ByteArray) : (t.size < 64 ∧ hdC t = 9) ∨ (64 ≤ t.size ∧ magicB t = false ∧ hdC t = 30) ∨ (64 ≤ t.size ∧ magicB t = true ∧ 4 < tkN t 56 2 ∧ hdC t = 6) ∨ (64 ≤ t.size ∧ magicB t = true ∧ tkN t 56 2 ≤ 4 ∧ (t.size : Int) < 64 + 56 * tkN t 56 2 ∧ hdC t = 9) ∨ (64 ≤ t.size ∧ magicB t = true ∧ tkN t 56 2 ≤ 4 ∧ (64 : Int) + 56 * tkN t 56 2 ≤ t.size ∧ hdC t = 0) := by
  unfold hdC
  generalize tkN t 56 2 = y
  generalize magicB t = b
  by_cases h1 : t.size < 64
  · exact .inl ⟨h1, if_pos h1⟩
  · rw [if_neg h1]
    cases b
    · exact .inr (.inl ⟨by omega, rfl, by simp⟩)
    · simp only [Bool.true_eq_false, if_false]
      by_cases h2 : 4 < y
      · exact .inr (.inr (.inl ⟨by omega, trivial, h2, if_pos h2⟩))
      · rw [if_neg h2]
        by_cases h3 : (t.size : Int) < 64 + 56 * y
        · exact .inr (.inr (.inr (.inl ⟨by omega, trivial, by omega, h3, if_pos h3⟩)))
        · exact .inr (.inr (.inr (.inr ⟨by omega, trivial, by omega, by omega, if_neg h3⟩)))
theorem tkN_wf (t : ByteArray) (a n : Nat) : (Lit.int .i64 (tkN t a n)).wf = true := by
  have h : IntKind.i64.min ≤ tkN t a n ∧ tkN t a n ≤ 9223372036854775807 := by
    rw [i64min]; unfold tkN wrap64; omega
  simpa [Lit.wf] using h
theorem lstT_wf (t : ByteArray) (m : Nat) : WfS (lstT t m) := by
  intro k x hk
  have hkm : k < m := by have := (List.getElem?_eq_some_iff.1 hk).1; rwa [lstT_len] at this
  rw [lstT_at t hkm] at hk
  cases hk
  exact ⟨tkN_wf t _ _, tkN_wf t _ _, tkN_wf t _ _⟩
theorem lstT_snoc (t : ByteArray) (k : Nat) : SV (lstT t k) ++ sv (sgAt t (64 + 56 * k)) = SV (lstT t (k + 1)) := by
  simp [lstT, List.range_succ, SV]
theorem sv_one (x : Sg) : ∀ u ∈ sv x, u.oneCell' = true := by
  intro u hu; simp only [sv, List.mem_cons, List.not_mem_nil, or_false] at hu
  rcases hu with rfl | rfl | rfl | rfl <;> rfl
theorem newsSg (w : World) (x : Sg) (t : TypeId) (j : Nat) (u : Value) (h : (sv x)[j]? = some u) :
    (w.alloc (.cells #[.int .i64 x.f, .int .i64 x.v, .int .i64 x.m, .string x.d] t)).cell? ((⟨w.heap.size, 0, none⟩ : Addr).add j) = some u :=
  World.news_of_block (w := w.alloc (.cells #[.int .i64 x.f, .int .i64 x.v, .int .i64 x.m, .string x.d] t)) (heap_alloc_new w _) j u (by simpa [sv] using h)
theorem sg_of_agg {x y : Sg} (h : Value.agg #[.int .i64 x.f, .int .i64 x.v, .int .i64 x.m, .string x.d] = Value.agg #[.int .i64 y.f, .int .i64 y.v, .int .i64 y.m, .string y.d]) : x = y := by
  cases x; cases y
  simp at h
  obtain ⟨rfl, rfl, rfl, rfl⟩ := h
  rfl
/-- an image's box that the call may write -/
def BxI (W : World) (g : Nat) (n : Int) (p : Option Addr) (len cap : Nat) : Prop := ImAt W g n p len cap ∧ ∀ k, W.frozen? ⟨g, k, none⟩ = false
theorem BxI.next {W W' : World} {g : Nat} {n : Int} {p : Option Addr} {len cap : Nat} (h : BxI W g n p len cap) (hb : Below W.heap.size W W') : BxI W' g n p len cap :=
  ⟨h.1.next hb, fun k => (hb.frozen (p := ⟨g, k, none⟩) h.1.1).trans (h.2 k)⟩
theorem BxI.new (w : World) (n : Int) (p : Option Addr) (len cap : Nat) (t : TypeId) : BxI (w.alloc (.cells #[.int .i64 n, .slice p len cap] t)) w.heap.size n p len cap := ⟨ImAt.new _ _ _ _ _ _, by intro k; simp [go_sem]⟩
theorem BxI.far {W W' : World} {g : Nat} {n : Int} {p : Option Addr} {len cap : Nat} {row : Option Nat} (h : BxI W g n p len cap) (hg : W.grownBy W' row) (hne : some g ≠ row) : BxI W' g n p len cap :=
  ⟨⟨by have := h.1.1; have := hg.size; omega, (hg.cell_far ⟨g, 0, none⟩ h.1.1 hne).trans h.1.2.1, (hg.cell_far ⟨g, 1, none⟩ h.1.1 hne).trans h.1.2.2⟩, fun k => (hg.frozen_far ⟨g, k, none⟩ h.1.1 hne).trans (h.2 k)⟩
theorem BxI.other {W : World} {g b : Nat} {n : Int} {p : Option Addr} {len cap : Nat} (h : BxI W g n p len cap) (hb : b ≠ g) (o : Nat) (v : Value) : BxI (W.setCell ⟨b, o, none⟩ v) g n p len cap :=
  ⟨⟨by simpa using h.1.1, (cellOther (by simp [hb]) _).trans h.1.2.1, (cellOther (by simp [hb]) _).trans h.1.2.2⟩, fun k => by rw [World.frozen?_setCell]; exact h.2 k⟩
theorem BxI.set {W : World} {g : Nat} {n : Int} {p q : Option Addr} {len cap l2 c2 : Nat} (h : BxI W g n p len cap) : BxI (W.setCell ⟨g, 1, none⟩ (.slice q l2 c2)) g n q l2 c2 :=
  ⟨⟨by simpa using h.1.1, (cellOther (by simp) _).trans h.1.2.1, cellSame h.1.2.2 _⟩, fun k => by rw [World.frozen?_setCell]; exact h.2 k⟩
/-- while the segments are read: the result's box, the image's box, its list -/
def RJ (w wr : World) (b1 : Nat) (X : Int) (t : ByteArray) (k : Nat) (q : Option Addr) (c : Nat) : Prop :=
  w.heap.size < b1 ∧ BxI wr w.heap.size 0 none 0 0 ∧ BxI wr b1 X q k c ∧ wr.ownsRow (b1 + 1) 61 4 (.slice q k c) k (SV (lstT t k)) ∧ Below w.heap.size w wr ∧ RsTo t k
theorem RJ.next {w wr W : World} {b1 : Nat} {X : Int} {t : ByteArray} {k : Nat} {q : Option Addr} {c : Nat} (h : RJ w wr b1 X t k q c) (hb : Below wr.heap.size wr W) : RJ w W b1 X t k q c :=
  ⟨h.1, h.2.1.next hb, h.2.2.1.next hb, own_below h.2.2.2.1 hb, bthenS h.2.2.2.2.1 hb, h.2.2.2.2.2⟩
theorem RJ.step {w wr w1 : World} {b1 : Nat} {X : Int} {t : ByteArray} {k : Nat} {q : Option Addr} {c : Nat} {o : Obj} {g' cap' : Nat} (h : RJ w wr b1 X t k q c) (hz : rsAt t (64 + 56 * k) = 0)
    (hown1 : w1.ownsRow (b1 + 1) 61 4 (.slice (some ⟨g', 0, none⟩) (k + 1) cap') (k + 1) (SV (lstT t k) ++ sv (sgAt t (64 + 56 * k)))) (hgrow : (wr.alloc o).grownBy w1 (Value.slice q k c).ownBlock) :
    RJ w (w1.setCell ⟨b1, 1, none⟩ (.slice (some ⟨g', 0, none⟩) (k + 1) cap')) b1 X t (k + 1) (some ⟨g', 0, none⟩) cap' := by
  obtain ⟨h0, h1, h2, h3, h4, h5⟩ := h
  have hb : Below wr.heap.size wr (wr.alloc o) := belowA _ _
  have hq : ∀ j, (Value.slice q k c).ownBlock = some j → b1 + 1 ≤ j := fun j hj => (h3.lt j hj).1
  have n1 : some w.heap.size ≠ (Value.slice q k c).ownBlock := fun e => by have := hq _ e.symm; omega
  have n2 : some b1 ≠ (Value.slice q k c).ownBlock := fun e => by have := hq _ e.symm; omega
  have g1 : (Value.slice (some ⟨g', 0, none⟩) (k + 1) cap').ownBlock ≠ some b1 := by
    intro e; have := (hown1.lt _ e).1; omega
  refine ⟨h0, ((h1.next hb).far hgrow n1).other (by omega) _ _, ((h2.next hb).far hgrow n2).set, ?_, ?_, ?_⟩
  · rw [← lstT_snoc]; exact ownsRow_setCell_other hown1 g1 _
  · have l1 := h1.1.1
    have hs := h4.size
    exact (h4.trans ⟨hgrow.os, hgrow.tape, hgrow.output, by have := hgrow.size; simp at this; omega, fun b hb' => (hgrow.block b (by simp; omega) (fun e => by have := hq _ e.symm; omega)).trans (Below.heap_alloc wr o b (by omega))⟩).setCell (by simp; omega) _
  · intro j hj
    by_cases e : j = k
    · rw [e]; exact hz
    · exact h5 j (by omega)
theorem res_alloc {W : World} {b : Nat} {u0 u1 v0 v1 : Value} (hb : b < W.heap.size) (h0 : W.cell? ⟨b, 0, none⟩ = some u0) (h1 : W.cell? ⟨b, 1, none⟩ = some u1) (o : Obj) : (((W.setCell ⟨b, 0, none⟩ v0).setCell ⟨b, 1, none⟩ v1).alloc o).cell? ⟨b, 0, none⟩ = some v0 ∧ (((W.setCell ⟨b, 0, none⟩ v0).setCell ⟨b, 1, none⟩ v1).alloc o).cell? ⟨b, 1, none⟩ = some v1 := by
  obtain ⟨r0, r1⟩ := two_res (v0 := v0) (v1 := v1) h0 h1
  exact ⟨((belowA _ o).cell (p := ⟨b, 0, none⟩) (by simpa using hb)).trans r0, ((belowA _ o).cell (p := ⟨b, 1, none⟩) (by simpa using hb)).trans r1⟩
theorem chk_pos {e : Int} {l : List Sg} {k : Nat} {c : Int} (h : Chk e l k c) (hc : c = 0) : 0 < l.length := by
  cases h with
  | none h0 => cases hc
  | many h0 => omega
  | seg k x h4 ho hx hb => exact absurd hc hb
  | norun h0 => exact h0
  | entry k x h4 ho hf he => cases hc
  | ok k x h4 ho hf he => have := (List.getElem?_eq_some_iff.1 hf.1).1; omega
set_option maxRecDepth 20000 in
set_option maxHeartbeats 4000000 in
theorem readS (t : ByteArray) (w : World) (hm : t.size ≤ 65536) : Calls Tryd.prog 17 #[.string t] w fun e w' => ReOut w w' t e ∧ Below w.heap.size w w' := by
  obtain ⟨W, hW⟩ : ∃ W, W = w.alloc (.cells #[.int .i64 0, .slice none 0 0] 24) := ⟨_, rfl⟩
  have LW : Hid (Below w.heap.size w W) := Lib.hid (by rw [hW]; exact belowA _ _)
  have IW : Hid (BxI W w.heap.size 0 none 0 0) := Lib.hid (by rw [hW]; exact BxI.new _ _ _ _ _ _)
  have HWW := Lib.hid hW
  clear hW
  rcases hd_ways t with ⟨h1, hc⟩ | ⟨h1, h2, hc⟩ | ⟨h1, h2, h3, hc⟩ | ⟨h1, h2, h3, h4, hc⟩ | ⟨h1, h2, h3, h4, hc⟩
  · have hl : (t.size : Int) < 64 := by omega
    have HR : Hid (RcIs t 9) := Lib.hid ⟨by decide, .inl ⟨by rw [hc]; decide, hc.symm⟩⟩
    clear hc h1
    go_enter Tryd.func17, Tryd.ntmps17
    go_wp2_with fail
    rw [← HWW.out]
    obtain ⟨j0, j1, j2⟩ := IW.out.1
    refine bodyPost_ret (v := .tuple #[.agg #[.int .i64 0, .slice none 0 0], .int .i64 9]) (by simp [results, Tryd.results17, go_sem, j1, j2]) rfl ?_
    exact ⟨.inl ⟨9, HR.out, rfl⟩, LW.out⟩
  · skip
    have hl : (64 : Int) ≤ t.size := by omega
    have CM := Lib.hid (magicC t W h1 hm)
    rw [h2] at CM
    have HR : Hid (RcIs t 30) := Lib.hid ⟨by decide, .inl ⟨by rw [hc]; decide, hc.symm⟩⟩
    clear hc h1 h2
    go_enter Tryd.func17, Tryd.ntmps17
    go_wp2_with fail
    rw [← HWW.out]
    refine (CM.out).mono ?_
    rintro e w1 ⟨rfl, b1⟩
    have LX := Lib.hid (bthenS LW.out b1)
    have IX := Lib.hid (IW.out.next b1)
    clear b1 CM LW IW
    obtain ⟨j0, j1, j2⟩ := IX.out.1
    have p0 := IX.out.2 0
    have p1 := IX.out.2 1
    have R := Lib.hid (two_res (v0 := .int .i64 0) (v1 := .slice none 0 0) j1 j2)
    go_wp2
    obtain ⟨r0, r1⟩ := R.out
    refine bodyPost_ret (v := .tuple #[.agg #[.int .i64 0, .slice none 0 0], .int .i64 30]) (by simp [results, Tryd.results17, go_sem, r0, r1]) rfl ?_
    exact ⟨.inl ⟨30, HR.out, rfl⟩, (LX.out.setCell (Nat.le_refl _) _).setCell (Nat.le_refl _) _⟩
  · skip
    have hl : (64 : Int) ≤ t.size := by omega
    have CM := Lib.hid (magicC t W h1 hm)
    rw [h2] at CM
    obtain ⟨X, hX⟩ : ∃ X, X = tkN t 24 8 := ⟨_, rfl⟩
    obtain ⟨Y, hY⟩ : ∃ Y, Y = tkN t 56 2 := ⟨_, rfl⟩
    have y0 := tk2 t 56
    have C24 := Lib.hid (fun w => tkS t 24 8 w hm (by omega) (by decide))
    have C56 := Lib.hid (fun w => tkS t 56 2 w hm (by omega) (by decide))
    rw [← hX] at C24
    rw [← hY] at C56 y0
    rw [← hY] at h3
    clear hX hY
    have HR : Hid (RcIs t 6) := Lib.hid ⟨by decide, .inl ⟨by rw [hc]; decide, hc.symm⟩⟩
    clear hc h1 h2
    go_enter Tryd.func17, Tryd.ntmps17
    go_wp2_with fail
    rw [← HWW.out]
    refine (CM.out).mono ?_
    rintro e w1 ⟨rfl, b1⟩
    have LX := Lib.hid (bthenS LW.out b1)
    have IX := Lib.hid (IW.out.next b1)
    clear b1 CM LW IW
    go_wp2_with fail
    refine (C24.out _).mono ?_
    rintro e w2 ⟨rfl, rfl⟩
    go_wp2_with fail
    obtain ⟨V, hV⟩ : ∃ V, V = w2.alloc (.cells #[.int .i64 X, .slice none 0 0] 24) := ⟨_, rfl⟩
    have LV : Hid (Below w.heap.size w V) := Lib.hid (by rw [hV]; exact bthenS LX.out (belowA _ _))
    have IV : Hid (BxI V w.heap.size 0 none 0 0) := Lib.hid (by rw [hV]; exact IX.out.next (belowA _ _))
    have JV : Hid (BxI V w2.heap.size X none 0 0) := Lib.hid (by rw [hV]; exact BxI.new _ _ _ _ _ _)
    have SV2 : Hid (w.heap.size < w2.heap.size ∧ V.heap.size = w2.heap.size + 1) := Lib.hid ⟨IX.out.1.1, by rw [hV]; simp⟩
    rw [← hV]
    clear hV
    refine (C56.out _).mono ?_
    rintro e w3 ⟨rfl, rfl⟩
    obtain ⟨j0, j1, j2⟩ := IV.out.1
    have p0 := IV.out.2 0
    have p1 := IV.out.2 1
    have R := Lib.hid (two_res (v0 := .int .i64 0) (v1 := .slice none 0 0) j1 j2)
    go_wp2
    obtain ⟨r0, r1⟩ := R.out
    refine bodyPost_ret (v := .tuple #[.agg #[.int .i64 0, .slice none 0 0], .int .i64 6]) (by simp [results, Tryd.results17, go_sem, r0, r1]) rfl ?_
    exact ⟨.inl ⟨6, HR.out, rfl⟩, (LV.out.setCell (Nat.le_refl _) _).setCell (Nat.le_refl _) _⟩
  · skip
    have hl : (64 : Int) ≤ t.size := by omega
    have CM := Lib.hid (magicC t W h1 hm)
    rw [h2] at CM
    obtain ⟨X, hX⟩ : ∃ X, X = tkN t 24 8 := ⟨_, rfl⟩
    obtain ⟨Y, hY⟩ : ∃ Y, Y = tkN t 56 2 := ⟨_, rfl⟩
    have y0 := tk2 t 56
    have C24 := Lib.hid (fun w => tkS t 24 8 w hm (by omega) (by decide))
    have C56 := Lib.hid (fun w => tkS t 56 2 w hm (by omega) (by decide))
    rw [← hX] at C24
    rw [← hY] at C56 y0
    rw [← hY] at h3 h4
    have q1 : IntKind.i64.wrap (56 * Y) = 56 * Y := IntWalk.i64_in _ (by omega)
    have q2 : IntKind.i64.wrap (64 + 56 * Y) = 64 + 56 * Y := IntWalk.i64_in _ (by omega)
    clear hX hY
    have HR : Hid (RcIs t 9) := Lib.hid ⟨by decide, .inl ⟨by rw [hc]; decide, hc.symm⟩⟩
    clear hc h1 h2
    go_enter Tryd.func17, Tryd.ntmps17
    go_wp2_with fail
    rw [← HWW.out]
    refine (CM.out).mono ?_
    rintro e w1 ⟨rfl, b1⟩
    have LX := Lib.hid (bthenS LW.out b1)
    have IX := Lib.hid (IW.out.next b1)
    clear b1 CM LW IW
    go_wp2_with fail
    refine (C24.out _).mono ?_
    rintro e w2 ⟨rfl, rfl⟩
    go_wp2_with fail
    obtain ⟨V, hV⟩ : ∃ V, V = w2.alloc (.cells #[.int .i64 X, .slice none 0 0] 24) := ⟨_, rfl⟩
    have LV : Hid (Below w.heap.size w V) := Lib.hid (by rw [hV]; exact bthenS LX.out (belowA _ _))
    have IV : Hid (BxI V w.heap.size 0 none 0 0) := Lib.hid (by rw [hV]; exact IX.out.next (belowA _ _))
    have JV : Hid (BxI V w2.heap.size X none 0 0) := Lib.hid (by rw [hV]; exact BxI.new _ _ _ _ _ _)
    have SV2 : Hid (w.heap.size < w2.heap.size ∧ V.heap.size = w2.heap.size + 1) := Lib.hid ⟨IX.out.1.1, by rw [hV]; simp⟩
    rw [← hV]
    clear hV
    refine (C56.out _).mono ?_
    rintro e w3 ⟨rfl, rfl⟩
    obtain ⟨j0, j1, j2⟩ := IV.out.1
    have p0 := IV.out.2 0
    have p1 := IV.out.2 1
    have R := Lib.hid (two_res (v0 := .int .i64 0) (v1 := .slice none 0 0) j1 j2)
    go_wp2
    obtain ⟨r0, r1⟩ := R.out
    refine bodyPost_ret (v := .tuple #[.agg #[.int .i64 0, .slice none 0 0], .int .i64 9]) (by simp [results, Tryd.results17, go_sem, r0, r1]) rfl ?_
    exact ⟨.inl ⟨9, HR.out, rfl⟩, (LV.out.setCell (Nat.le_refl _) _).setCell (Nat.le_refl _) _⟩
  · skip
    have hl : (64 : Int) ≤ t.size := by omega
    have CM := Lib.hid (magicC t W h1 hm)
    rw [h2] at CM
    obtain ⟨X, hX⟩ : ∃ X, X = tkN t 24 8 := ⟨_, rfl⟩
    obtain ⟨Y, hY⟩ : ∃ Y, Y = tkN t 56 2 := ⟨_, rfl⟩
    have y0 := tk2 t 56
    have C24 := Lib.hid (fun w => tkS t 24 8 w hm (by omega) (by decide))
    have C56 := Lib.hid (fun w => tkS t 56 2 w hm (by omega) (by decide))
    rw [← hX] at C24
    rw [← hY] at C56 y0
    rw [← hY] at h3 h4
    obtain ⟨m, hmY⟩ : ∃ m : Nat, (m : Int) = Y := ⟨Y.toNat, by omega⟩
    have HYM := Lib.hid hmY
    rw [← hmY] at h3 h4 y0
    have HC := Lib.hid hc; have HX := Lib.hid hX; have HY := Lib.hid hY
    clear hc h2 hmY hX hY
    obtain ⟨i0, hi, hz0, hz1, hz2⟩ := info_parts infoSgR
    go_enter Tryd.func17, Tryd.ntmps17
    go_wp2_with fail
    rw [← HWW.out]
    refine (CM.out).mono ?_
    rintro e w1 ⟨rfl, b1⟩
    have LX := Lib.hid (bthenS LW.out b1)
    have IX := Lib.hid (IW.out.next b1)
    clear b1 CM LW IW
    go_wp2_with fail
    refine (C24.out _).mono ?_
    rintro e w2 ⟨rfl, rfl⟩
    go_wp2_with fail
    obtain ⟨V, hV⟩ : ∃ V, V = w2.alloc (.cells #[.int .i64 X, .slice none 0 0] 24) := ⟨_, rfl⟩
    have LV : Hid (Below w.heap.size w V) := Lib.hid (by rw [hV]; exact bthenS LX.out (belowA _ _))
    have IV : Hid (BxI V w.heap.size 0 none 0 0) := Lib.hid (by rw [hV]; exact IX.out.next (belowA _ _))
    have JV : Hid (BxI V w2.heap.size X none 0 0) := Lib.hid (by rw [hV]; exact BxI.new _ _ _ _ _ _)
    have SV2 : Hid (w.heap.size < w2.heap.size ∧ V.heap.size = w2.heap.size + 1) := Lib.hid ⟨IX.out.1.1, by rw [hV]; simp⟩
    rw [← hV]
    clear hV
    refine (C56.out _).mono ?_
    rintro e w3 ⟨rfl, rfl⟩
    rw [← HYM.out]
    go_wp2
    go_loopw [6] (fun i wr => ∃ k : Nat, k ≤ m ∧ i = .int .i64 k ∧ ∃ q c, Hid (RJ w wr w2.heap.size X t k q c)) (fun i _ => m - (intOf i).toNat)
    case atStart => exact ⟨0, Nat.zero_le _, rfl, none, 0, Lib.hid ⟨SV2.out.1, IV.out, JV.out, World.ownsRow_nil _ _ _ _, LV.out, fun j h => by omega⟩⟩
    case round =>
      obtain ⟨k, hk, rfl, q, c, HI⟩ := hrel
      by_cases hlt : k < m
      · have hlt2 : (k : Int) < (m : Int) := by omega
        have D := Lib.hid (fun W => rsS t (64 + 56 * k) W hm (by omega))
        have eA : ((64 + 56 * k : Nat) : Int) = 64 + 56 * (k : Int) := by omega
        rw [eA] at D
        clear eA
        go_wp2_with fail
        with_reducible refine Calls.mono (D.out _) ?_
        rintro e w4 ⟨⟨V0, rc, rfl, hrc, ⟨x, rfl⟩, hx⟩, b4⟩
        have J4 := Lib.hid (HI.out.next b4)
        have HRC := Lib.hid hrc
        obtain ⟨W5, hW5⟩ : ∃ W5, W5 = w4.alloc (.cells #[.int .i64 x.f, .int .i64 x.v, .int .i64 x.m, .string x.d] 61) := ⟨_, rfl⟩
        have J5 : Hid (RJ w W5 w2.heap.size X t k q c) := Lib.hid (by rw [hW5]; exact J4.out.next (belowA _ _))
        have S5 : Hid (SgAt W5 w4.heap.size x) := Lib.hid (by rw [hW5]; exact ⟨by simp, by go_cell, by go_cell, by go_cell, by go_cell⟩)
        have HW5 := Lib.hid hW5
        clear b4 hrc hW5 D
        by_cases hz : rc = 0
        · obtain rfl := sg_of_agg (hx hz)
          have HZ : Hid (rsAt t (64 + 56 * k) = 0) := Lib.hid (by rw [← HRC.out]; exact hz)
          subst hz
          clear hx
          generalize hsg : sgAt t (64 + 56 * k) = x at HW5 S5 ⊢
          have HSG := Lib.hid hsg
          clear hsg
          obtain ⟨s5, a0, a1, a2, a3⟩ := S5.out
          have cT := J4.out.2.2.1.1.2.2
          have fT := J4.out.2.2.1.2 1
          have hq : Hid (∀ j, (Value.slice q k c).ownBlock = some j → w2.heap.size + 1 ≤ j) := Lib.hid (fun j hj => (J5.out.2.2.2.1.lt j hj).1)
          have l2 := J4.out.2.2.1.1.1
          have hm1 : k + 1 ≤ maxLen := by unfold maxLen; omega
          have hb1 : (k + 1) * 40 ≤ 140737488355328 := by omega
          have O5 : Hid ((w4.alloc (.cells #[.int .i64 x.f, .int .i64 x.v, .int .i64 x.m, .string x.d] 61)).ownsRow (w2.heap.size + 1) 61 4 (.slice q k c) k (SV (lstT t k))) := Lib.hid (by rw [← HW5.out]; exact J5.out.2.2.2.1)
          have B5 : Hid (BxI (w4.alloc (.cells #[.int .i64 x.f, .int .i64 x.v, .int .i64 x.m, .string x.d] 61)) w2.heap.size X q k c) := Lib.hid (by rw [← HW5.out]; exact J5.out.2.2.1)
          go_wp2_with (at_builtin; refine wpList_append_lies _ rfl _ _ _ rfl (w2.heap.size + 1) 61 i0 _ 4 40 Tryd.underlying22 hi hz0 hz1 hz2 rfl (by omega) _ k (SV (lstT t k)) rfl (O5.out.alloc _) ⟨w4.heap.size + 1, 0, none⟩ 1 1 (sv x) rfl rfl (by have := newsSg (w4.alloc (.cells #[.int .i64 x.f, .int .i64 x.v, .int .i64 x.m, .string x.d] 61)) x 61; simpa using this) (sv_one x) (by omega) hm1 hb1 (by simp; omega) (w4.heap.size + 1 + 1) (by simp) ?_; intro g' cap' w6 hown1 hgrow hat hlt1; have B6 := (B5.out.next (belowA _ _)).far hgrow (fun e => by have := hq.out _ e.symm; omega); have cT6 := B6.1.2.2; have fT6 := B6.2 1; have HO6 := Lib.hid hown1; have HG6 := Lib.hid hgrow; clear hown1 hgrow hat hlt1 B6)
          go_roundw
          case rel => exact ⟨k + 1, by omega, by go_num, _, _, Lib.hid (RJ.step (wr := W5) J5.out HZ.out (by rw [HSG.out]; exact HO6.out) (by rw [HW5.out]; exact HG6.out))⟩
          case measure => simp [intOf]; omega
        · have HZ := Lib.hid hz
          have hbz : (rc != 0) = true := bne_iff_ne.2 hz
          clear hx hz
          have LX : Hid (Below w.heap.size w W5) := Lib.hid J5.out.2.2.2.2.1
          have IX : Hid (BxI W5 w.heap.size 0 none 0 0) := Lib.hid J5.out.2.1
          have HR : Hid (RcIs t rc) := Lib.hid ⟨HZ.out, .inr ⟨HC.out, m, by rw [HYM.out, HY.out], .inl ⟨k, hlt, J5.out.2.2.2.2.2, by rw [← HRC.out]; exact HZ.out, HRC.out⟩⟩⟩
          obtain ⟨j0, j1, j2⟩ := J4.out.2.1.1
          have p0 := J4.out.2.1.2 0
          have p1 := J4.out.2.1.2 1
          have R := Lib.hid (res_alloc (v0 := .int .i64 0) (v1 := .slice none 0 0) j0 j1 j2)
          have LX := Lib.hid J4.out.2.2.2.2.1
          go_wp2
          obtain ⟨r0, r1⟩ := R.out (.cells #[.int .i64 x.f, .int .i64 x.v, .int .i64 x.m, .string x.d] 61)
          refine bodyPost_ret (v := .tuple #[.agg #[.int .i64 0, .slice none 0 0], .int .i64 rc]) (by simp [results, Tryd.results17, go_sem, r0, r1]) rfl ?_
          exact ⟨.inl ⟨rc, HR.out, rfl⟩, bthenS ((LX.out.setCell (Nat.le_refl _) _).setCell (Nat.le_refl _) _) (belowA _ _)⟩
      · obtain rfl : k = m := by omega
        obtain ⟨kk, cc, hcc⟩ := chk_all X (lstT t k)
        have HCC := Lib.hid hcc
        have RD : RdS wr q (lstT t k) := RdS.of_own HI.out.2.2.2.1
        have D := Lib.hid (chkS X q c (lstT t k) wr RD (lstT_small t k (by omega) hm) (lstT_wf t k) kk cc hcc)
        rw [lstT_len] at D
        have c0 := HI.out.2.2.1.1.2.1
        have c1 := HI.out.2.2.1.1.2.2
        clear hcc RD
        go_wp2_with fail
        with_reducible refine Calls.mono (D.out) ?_
        rintro e w4 ⟨rfl, b4⟩
        have J4 := Lib.hid (HI.out.next b4)
        have c0 := J4.out.2.2.1.1.2.1
        have c1 := J4.out.2.2.1.1.2.2
        obtain ⟨j0, j1, j2⟩ := J4.out.2.1.1
        have p0 := J4.out.2.1.2 0
        have p1 := J4.out.2.1.2 1
        clear b4 D
        by_cases hz : cc = 0
        · subst hz
          have R := Lib.hid (two_res (v0 := .int .i64 X) (v1 := .slice q k c) j1 j2)
          go_wp2
          obtain ⟨r0, r1⟩ := R.out
          refine bodyPost_ret (v := .tuple #[.agg #[.int .i64 X, .slice q k c], .int .i64 0]) (by simp [results, Tryd.results17, go_sem, r0, r1]) rfl ?_
          have hk0 : 0 < k := by have := chk_pos HCC.out rfl; rwa [lstT_len] at this
          have own := J4.out.2.2.2.1
          obtain ⟨g, cap', e1⟩ := Joins.ownsRow_form own hk0
          cases e1
          have hne : (Value.slice (some ⟨g, 0, none⟩) k c).ownBlock ≠ some w.heap.size := by
            intro e
            have := (own.lt _ e).1
            have := SV2.out.1
            omega
          refine ⟨.inr ⟨HC.out, k, by rw [HYM.out, HY.out], J4.out.2.2.2.2.2, ⟨kk, by rw [← HX.out]; exact HCC.out⟩, g, c, by rw [← HX.out], ?_⟩, (J4.out.2.2.2.2.1.setCell (Nat.le_refl _) _).setCell (Nat.le_refl _) _⟩
          exact ownsRow_setCell_other (ownsRow_setCell_other (Joins.ownsRow_le own (by have := SV2.out.1; omega)) hne _) hne _
        · have HZ := Lib.hid hz
          have hbz : (cc != 0) = true := bne_iff_ne.2 hz
          have HR : Hid (RcIs t cc) := Lib.hid ⟨hz, .inr ⟨HC.out, k, by rw [HYM.out, HY.out], .inr ⟨J4.out.2.2.2.2.2, kk, by rw [← HX.out]; exact HCC.out⟩⟩⟩
          clear hz
          have R := Lib.hid (two_res (v0 := .int .i64 0) (v1 := .slice none 0 0) j1 j2)
          go_wp2
          obtain ⟨r0, r1⟩ := R.out
          refine bodyPost_ret (v := .tuple #[.agg #[.int .i64 0, .slice none 0 0], .int .i64 cc]) (by simp [results, Tryd.results17, go_sem, r0, r1]) rfl ?_
          exact ⟨.inl ⟨cc, HR.out, rfl⟩, (J4.out.2.2.2.2.1.setCell (Nat.le_refl _) _).setCell (Nat.le_refl _) _⟩
end Go.Proofs.YtcchcinnjahghaaDoor
