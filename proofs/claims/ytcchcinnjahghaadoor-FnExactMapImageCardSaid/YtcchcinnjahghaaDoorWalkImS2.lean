/-
  What spec.l10Run, spec.l10Check, spec.ImageOK, spec.CheckImage and spec.TextOf answer of an image: what Chk tells, changing nothing that was there; conditions: those in each head.
-/
import Derived.Test.YtcchcinnjahghaaDoorWalkImS
import Derived.Deep.RegionHeld3
import Derived.Deep.Cut
import Derived.Deep.CutRange
import Derived.BigQuiet
namespace Go.Proofs.YtcchcinnjahghaaDoor
open Go.RowKit
set_option linter.unusedVariables false
set_option linter.unusedSimpArgs false
/-- the bounds of ints of segments -/
def WfS (l : List Sg) : Prop := ∀ (k : Nat) x, l[k]? = some x → (Lit.int .i64 x.f).wf = true ∧ (Lit.int .i64 x.v).wf = true ∧ (Lit.int .i64 x.m).wf = true
theorem bad_one {l : List Sg} {k j : Nat} {x y : Sg} (h : OkTo l k) (hx : l[k]? = some x) (hc : segC (freeOf (l.take k)) (runOf (l.take k)) x ≠ 0) (g : OkTo l j) (hy : l[j]? = some y) (hd : segC (freeOf (l.take j)) (runOf (l.take j)) y ≠ 0) : k = j := by
  rcases Nat.lt_trichotomy k j with e | e | e
  · exact absurd (g k x e hx) hc
  · exact e
  · exact absurd (h j y e hy) hd
theorem segsBad (n : Int) (p : Option Addr) (cap : Nat) (l : List Sg) (w : World) (h4 : l.length ≤ 4) (hr : RdS w p l) (hd : ∀ (k : Nat) x, l[k]? = some x → x.d.size ≤ 9223372036854775807) (hwf : WfS l) (k : Nat) (x : Sg) (ho : OkTo l k) (hx : l[k]? = some x) (hc : segC (freeOf (l.take k)) (runOf (l.take k)) x ≠ 0) :
    Calls Tryd.prog 48 #[.agg #[.int .i64 n, .slice p l.length cap]] w fun e w' => e = .returned (.tuple #[.int .i64 (k : Int), .int .i64 (segC (freeOf (l.take k)) (runOf (l.take k)) x)]) ∧ Below w.heap.size w w' := by
  refine (segsS n p cap l w h4 hr hd hwf).mono fun e w' ⟨h, hb⟩ => ⟨?_, hb⟩
  rcases h with ⟨j, y, gj, hy, hc2, rfl⟩ | ⟨h, _⟩
  · obtain rfl := bad_one ho hx hc gj hy hc2
    rw [hx] at hy; cases hy; rfl
  · exact absurd (h k x (List.getElem?_eq_some_iff.1 hx).1 hx) hc
theorem segsAll (n : Int) (p : Option Addr) (cap : Nat) (l : List Sg) (w : World) (h4 : l.length ≤ 4) (hr : RdS w p l) (hd : ∀ (k : Nat) x, l[k]? = some x → x.d.size ≤ 9223372036854775807) (hwf : WfS l) (ho : OkTo l l.length) :
    Calls Tryd.prog 48 #[.agg #[.int .i64 n, .slice p l.length cap]] w fun e w' => e = .returned (.tuple #[.int .i64 0, .int .i64 (if runOf l then 0 else 28)]) ∧ Below w.heap.size w w' := by
  refine (segsS n p cap l w h4 hr hd hwf).mono fun e w' ⟨h, hb⟩ => ⟨?_, hb⟩
  rcases h with ⟨j, y, gj, hy, hc2, rfl⟩ | ⟨_, h⟩
  · exact absurd (ho j y (List.getElem?_eq_some_iff.1 hy).1 hy) hc2
  · exact h
theorem run_first {l : List Sg} {k : Nat} {x : Sg} (h : FirstRun l k x) : runOf l = true := by
  have := run_some (List.getElem?_eq_some_iff.1 h.1).1 h.1 h.2.1
  rwa [List.take_length] at this
/-- block g holds the segment x -/
def SgAt (W : World) (g : Nat) (x : Sg) : Prop := g < W.heap.size ∧ W.cell? ⟨g, 0, none⟩ = some (.int .i64 x.f) ∧ W.cell? ⟨g, 1, none⟩ = some (.int .i64 x.v) ∧ W.cell? ⟨g, 2, none⟩ = some (.int .i64 x.m) ∧ W.cell? ⟨g, 3, none⟩ = some (.string x.d)
/-- block g holds an image -/
def ImAt (W : World) (g : Nat) (n : Int) (p : Option Addr) (len cap : Nat) : Prop := g < W.heap.size ∧ W.cell? ⟨g, 0, none⟩ = some (.int .i64 n) ∧ W.cell? ⟨g, 1, none⟩ = some (.slice p len cap)
theorem ImAt.next {W W' : World} {g : Nat} {n : Int} {p : Option Addr} {len cap : Nat} (h : ImAt W g n p len cap) (hb : Below W.heap.size W W') : ImAt W' g n p len cap :=
  ⟨by have := hb.size; have := h.1; omega, (hb.cell (p := ⟨g, 0, none⟩) h.1).trans h.2.1, (hb.cell (p := ⟨g, 1, none⟩) h.1).trans h.2.2⟩
theorem ImAt.new (w : World) (n : Int) (p : Option Addr) (len cap : Nat) (t : TypeId) : ImAt (w.alloc (.cells #[.int .i64 n, .slice p len cap] t)) w.heap.size n p len cap := ⟨by simp, by go_cell, by go_cell⟩
theorem run_nil {l : List Sg} (h : ∀ (j : Nat) (y : Sg), l[j]? = some y → y.f ≠ 5) : runOf l = false := by
  unfold runOf
  simp only [List.any_eq_false, decide_eq_true_eq]
  intro x hx
  obtain ⟨j, hj⟩ := List.mem_iff_getElem?.1 hx
  exact h j x hj
set_option maxHeartbeats 1000000 in
theorem runS (n : Int) (p : Option Addr) (cap : Nat) (l : List Sg) (w : World) (h4 : l.length ≤ 4) (hr : RdS w p l) (k : Nat) (x : Sg) (hx : FirstRun l k x) :
    Calls Tryd.prog 49 #[.agg #[.int .i64 n, .slice p l.length cap]] w fun e w' => e = .returned (.int .i64 (k : Int)) ∧ Below w.heap.size w w' := by
  have HR := Lib.hid hr; have HX := Lib.hid hx
  have hk : k < l.length := (List.getElem?_eq_some_iff.1 hx.1).1
  have b0 : Below w.heap.size w (w.alloc (.cells #[.int .i64 n, .slice p l.length cap] 24)) := (Below.refl _ _).alloc (Nat.le_refl _) _
  have c0 : (w.alloc (.cells #[.int .i64 n, .slice p l.length cap] 24)).cell? ⟨w.heap.size, 1, none⟩ = some (.slice p l.length cap) := by go_cell
  clear hr hx
  go_enter Tryd.func49, Tryd.ntmps49
  go_wp2
  go_loopw [3] (fun i wr => ∃ (j : Nat), j ≤ k ∧ i = .int .i64 j ∧ wr.cell? ⟨w.heap.size, 1, none⟩ = some (.slice p l.length cap) ∧ Below w.heap.size w wr) (fun i _ => l.length - (intOf i).toNat)
  case atStart => exact ⟨0, Nat.zero_le _, rfl, c0, b0⟩
  case round =>
    obtain ⟨j, hj, rfl, hc, hb⟩ := hrel
    obtain ⟨y, hy⟩ : ∃ y, l[j]? = some y := ⟨_, List.getElem?_eq_getElem (by omega)⟩
    obtain ⟨b, off, rfl, h0, q0, q1, q2, q3⟩ := HR.out j y hy
    have g0 := (hb.cell (p := ⟨b, off + j * 4, none⟩) h0).trans q0
    by_cases e : j = k
    · subst e
      have hf : y.f = 5 := by have := HX.out.1; rw [hy] at this; cases this; exact HX.out.2.1
      clear hy q0 q1 q2 q3 h0
      go_wp2
      go_ret
      exact ⟨rfl, hb⟩
    · have hf : (y.f == 5) = false := beq_eq_false_iff_ne.2 (HX.out.2.2 j y (by omega) hy)
      clear hy q0 q1 q2 q3 h0
      go_wp2
      go_roundw
      case rel => exact ⟨j + 1, by omega, by go_num, hc, hb⟩
      case measure => simp [intOf]; omega
theorem sgAlloc (w : World) (x : Sg) (t : TypeId) : SgAt (w.alloc (.cells #[.int .i64 x.f, .int .i64 x.v, .int .i64 x.m, .string x.d] t)) w.heap.size x := ⟨by simp, by go_cell, by go_cell, by go_cell, by go_cell⟩
theorem sgSet (w : World) (g : Nat) (x : Sg) (h : g < w.heap.size) {a b c d : Value} (ha : w.cell? ⟨g, 0, none⟩ = some a) (hb : w.cell? ⟨g, 1, none⟩ = some b) (hc : w.cell? ⟨g, 2, none⟩ = some c) (hd : w.cell? ⟨g, 3, none⟩ = some d) : SgAt ((((w.setCell ⟨g, 0, none⟩ (.int .i64 x.f)).setCell ⟨g, 1, none⟩ (.int .i64 x.v)).setCell ⟨g, 2, none⟩ (.int .i64 x.m)).setCell ⟨g, 3, none⟩ (.string x.d)) g x := by
  refine ⟨by simp; exact h, ?_, ?_, ?_, ?_⟩
  · rw [cellOther (by simp), cellOther (by simp), cellOther (by simp)]; exact cellSame ha _
  · rw [cellOther (by simp), cellOther (by simp)]; exact cellSame ((cellOther (by simp) _).trans hb) _
  · rw [cellOther (by simp)]; exact cellSame ((cellOther (by simp) _).trans ((cellOther (by simp) _).trans hc)) _
  · exact cellSame ((cellOther (by simp) _).trans ((cellOther (by simp) _).trans ((cellOther (by simp) _).trans hd))) _
theorem below4 {w w2 : World} {g : Nat} (b : Below w.heap.size w w2) (hg : w.heap.size ≤ g) (p q r s : Value) : Below w.heap.size w ((((w2.setCell ⟨g, 0, none⟩ p).setCell ⟨g, 1, none⟩ q).setCell ⟨g, 2, none⟩ r).setCell ⟨g, 3, none⟩ s) := (((b.setCell hg _).setCell hg _).setCell hg _).setCell hg _
theorem entYes {e : Int} {x : Sg} (h : entB e x = true) : decide (x.v ≤ e ∧ e ≤ x.v + x.m - 1) = true ∧ e.tmod 32 = 0 := by
  unfold entB at h; simp at h; exact ⟨decide_eq_true (by omega), h.2⟩
theorem entNo {e : Int} {x : Sg} (h : entB e x = false) : decide (x.v ≤ e ∧ e ≤ x.v + x.m - 1) = false ∨ (decide (x.v ≤ e ∧ e ≤ x.v + x.m - 1) = true ∧ (e.tmod 32 != 0) = true) := by
  by_cases h1 : x.v ≤ e ∧ e ≤ x.v + x.m - 1
  · refine .inr ⟨decide_eq_true h1, bne_iff_ne.2 fun h2 => ?_⟩
    have : entB e x = true := by unfold entB; simp [h2]; omega
    rw [this] at h; cases h
  · exact .inl (decide_eq_false h1)
set_option maxHeartbeats 4000000 in
theorem chkRunS (n : Int) (p : Option Addr) (cap : Nat) (l : List Sg) (w : World) (h4 : l.length ≤ 4) (hr : RdS (w.alloc (.cells #[.int .i64 n, .slice p l.length cap] 24)) p l) (hd : ∀ (k : Nat) x, l[k]? = some x → x.d.size ≤ 9223372036854775807) (hwf : WfS l) (b0 : Below w.heap.size w (w.alloc (.cells #[.int .i64 n, .slice p l.length cap] 24))) (ho : OkTo l l.length) (j : Nat) (x : Sg) (hf : FirstRun l j x) (c : Int) (hc : (entB n x = true ∧ c = 0) ∨ (entB n x = false ∧ c = 32)) :
    Calls Tryd.prog 24 #[.agg #[.int .i64 n, .slice p l.length cap]] w fun e w' => e = .returned (.tuple #[.int .i64 0, .int .i64 c]) ∧ Below w.heap.size w w' := by
  have C := Lib.hid (segsAll n p cap l _ h4 hr hd hwf ho)
  have HC := Lib.hid hc
  clear hc
  rw [run_first hf] at C
  have hj := (List.getElem?_eq_some_iff.1 hf.1).1
  have B0 := Lib.hid b0; have HR := Lib.hid hr
  have HA := Lib.hid (okTo_at ho (Nat.le_refl _) hj hf.1)
  clear hd hwf b0 hr
  go_enter Tryd.func24, Tryd.ntmps24
  go_wp2_with fail
  refine (C.out).mono ?_
  rintro e w1 ⟨rfl, b1⟩
  simp only [if_true]
  have B1 : Below w.heap.size w w1 := B0.out.trans (b1.mono B0.out.size)
  obtain ⟨i0, i1, i2⟩ := (ImAt.new w n p l.length cap 24).next b1
  have R1 := HR.out.below b1
  obtain ⟨b, off, rfl, h0, q0, q1, q2, q3⟩ := R1 j x hf.1
  have CR := Lib.hid (fun W (hr : RdS W (some ⟨b, off, none⟩) l) => runS n (some ⟨b, off, none⟩) cap l W h4 hr j x hf)
  have H1 := Lib.hid R1; have BB := Lib.hid B1
  clear R1 C b1 B0 HR B1 hf ho
  go_upto_region 8 with fail
  go_cut [6] from 24 to 29 (fun v W' => ∃ g, v = .pointer (some ⟨g, 0, none⟩) ∧ SgAt W' g x ∧ ImAt W' w.heap.size n (some ⟨b, off, none⟩) l.length cap ∧ Below w.heap.size w W')
  case first =>
    go_region_with (first | (go_at_call 49; refine (CR.out _ (H1.out.below (by go_grown))).mono ?_; rintro e w2 ⟨rfl, b2⟩; have b3 : Below w1.heap.size w1 w2 := (show Below w1.heap.size w1 _ by go_grown).trans (b2.mono (by simp)); have i0' := Nat.lt_of_lt_of_le i0 b3.size; have i1' := (b3.cell (p := ⟨w.heap.size, 0, none⟩) i0).trans i1; have i2' := (b3.cell (p := ⟨w.heap.size, 1, none⟩) i0).trans i2; have h0' := Nat.lt_of_lt_of_le h0 b3.size; have q0' := (b3.cell (p := ⟨b, off + j * 4, none⟩) h0).trans q0; have q1' := (b3.cell (p := ⟨b, off + j * 4 + 1, none⟩) h0).trans q1; have q2' := (b3.cell (p := ⟨b, off + j * 4 + 2, none⟩) h0).trans q2; have q3' := (b3.cell (p := ⟨b, off + j * 4 + 3, none⟩) h0).trans q3; first | (have zz : Below w1.drew.heap.size w1.drew w2 := b2; clear zz) | (have d0 := (b2.cell (p := ⟨w1.heap.size, 0, none⟩) (by simp; done)).trans (show _ = some (.int .i64 0) by go_cell; done); have d1 := (b2.cell (p := ⟨w1.heap.size, 1, none⟩) (by simp; done)).trans (show _ = some (.int .i64 0) by go_cell; done); have d2 := (b2.cell (p := ⟨w1.heap.size, 2, none⟩) (by simp; done)).trans (show _ = some (.int .i64 0) by go_cell; done); have d3 := (b2.cell (p := ⟨w1.heap.size, 3, none⟩) (by simp; done)).trans (show _ = some (.string ⟨#[]⟩) by go_cell; done); have f0 := (b2.frozen (p := ⟨w1.heap.size, 0, none⟩) (by simp; done)).trans (show _ = false by simp [go_sem]; done); have f1 := (b2.frozen (p := ⟨w1.heap.size, 1, none⟩) (by simp; done)).trans (show _ = false by simp [go_sem]; done); have f2 := (b2.frozen (p := ⟨w1.heap.size, 2, none⟩) (by simp; done)).trans (show _ = false by simp [go_sem]; done); have f3 := (b2.frozen (p := ⟨w1.heap.size, 3, none⟩) (by simp; done)).trans (show _ = false by simp [go_sem]; done); have d4 : w1.heap.size < w2.heap.size := Nat.lt_of_lt_of_le (by simp; done) b2.size)))
    all_goals (go_step; refine ‹∀ (a1 : Act) (w1 : World), Met _ a1 w1 → _› _ _ ?_; go_meet; case rel => first | (have zz : Below w1.drew.heap.size w1.drew w2 := b2; clear zz; exact ⟨_, rfl, sgAlloc _ _ _, ImAt.next ⟨i0, i1, i2⟩ (b3.alloc b3.size _), BB.out.trans ((b3.alloc b3.size _).mono BB.out.size)⟩) | exact ⟨_, rfl, sgSet _ _ _ d4 d0 d1 d2 d3, ImAt.next ⟨i0, i1, i2⟩ (below4 b3 (Nat.le_refl _) _ _ _ _), BB.out.trans ((below4 b3 (Nat.le_refl _) _ _ _ _).mono BB.out.size)⟩)
  case rest =>
    obtain ⟨g, rfl, ⟨s0, s1, s2, s3, s4⟩, ⟨j0, j1, j2⟩, bb⟩ := hcut
    obtain ⟨a0, a1, a2, a3, _⟩ := HA.out
    clear q0 q1 q2 q3 i0 i1 i2 H1 CR BB
    rcases HC.out with ⟨he, rfl⟩ | ⟨he, rfl⟩
    · obtain ⟨t1, t2⟩ := entYes he
      have T1 := Lib.hid t1
      clear he t1
      go_wp2_with fail
      refine (zin true n x.v (x.v + x.m - 1) _ T1.out).mono ?_
      rintro e wq ⟨rfl, rfl⟩
      go_wp2
      go_returns
      exact ⟨rfl, bb⟩
    · rcases entNo he with t1 | ⟨t1, t2⟩
      · have T1 := Lib.hid t1
        clear he t1
        go_wp2_with fail
        refine (zin false n x.v (x.v + x.m - 1) _ T1.out).mono ?_
        rintro e wq ⟨rfl, rfl⟩
        go_wp2
        go_returns
        exact ⟨rfl, bb⟩
      · have T1 := Lib.hid t1
        have t3 : (n % 32 != 0) = true := by
          have h := of_decide_eq_true t1
          rw [Int.tmod_eq_emod_of_nonneg (by omega)] at t2; exact t2
        clear he t1
        go_wp2_with fail
        refine (zin true n x.v (x.v + x.m - 1) _ T1.out).mono ?_
        rintro e wq ⟨rfl, rfl⟩
        go_wp2
        go_returns
        exact ⟨rfl, bb⟩
set_option maxHeartbeats 1000000 in
theorem chkS (n : Int) (p : Option Addr) (cap : Nat) (l : List Sg) (w : World) (hr : RdS w p l) (hs : SmallS l) (hwf : WfS l) (k : Nat) (c : Int) (hc : Chk n l k c) :
    Calls Tryd.prog 24 #[.agg #[.int .i64 n, .slice p l.length cap]] w fun e w' => e = .returned (.tuple #[.int .i64 (k : Int), .int .i64 c]) ∧ Below w.heap.size w w' := by
  have hds : ∀ (k : Nat) x, l[k]? = some x → x.d.size ≤ 9223372036854775807 := fun k x hx => by have := hs.2 k x hx; omega
  have hn := hs.1
  have b0 : Below w.heap.size w (w.alloc (.cells #[.int .i64 n, .slice p l.length cap] 24)) := (Below.refl _ _).alloc (Nat.le_refl _) _
  have HR := Lib.hid (hr.below b0); have HD := Lib.hid hds; have HW := Lib.hid hwf; have B0 := Lib.hid b0
  clear hr hs hwf hds b0
  cases hc with
  | none h =>
    rw [h]
    go_enter Tryd.func24, Tryd.ntmps24
    go_wp2
    go_returns
    exact ⟨rfl, by go_grown⟩
  | many h =>
    go_enter Tryd.func24, Tryd.ntmps24
    go_wp2
    go_returns
    exact ⟨rfl, B0.out⟩
  | seg _ x h4 ho hx hbad =>
    have h1 : 0 < l.length := by have := (List.getElem?_eq_some_iff.1 hx).1; omega
    have C := Lib.hid (segsBad n p cap l _ h4 HR.out HD.out HW.out k x ho hx hbad)
    have HB : ((segC (freeOf (l.take k)) (runOf (l.take k)) x) != 0) = true := bne_iff_ne.2 hbad
    clear ho hx hbad
    generalize segC (freeOf (l.take k)) (runOf (l.take k)) x = sc at C HB ⊢
    go_enter Tryd.func24, Tryd.ntmps24
    go_wp2_with fail
    refine (C.out).mono ?_
    rintro e w1 ⟨rfl, b1⟩
    go_wp2
    go_returns
    exact ⟨rfl, B0.out.trans (b1.mono B0.out.size)⟩
  | norun h1 h4 ho hno =>
    have C := Lib.hid (segsAll n p cap l _ h4 HR.out HD.out HW.out ho)
    rw [run_nil hno] at C
    clear ho hno
    go_enter Tryd.func24, Tryd.ntmps24
    go_wp2_with fail
    refine (C.out).mono ?_
    rintro e w1 ⟨rfl, b1⟩
    simp only [Bool.false_eq_true, if_false]
    go_wp2
    go_returns
    exact ⟨rfl, B0.out.trans (b1.mono B0.out.size)⟩
  | entry j x h4 ho hf he =>
    exact (chkRunS n p cap l w h4 HR.out HD.out HW.out B0.out ho j x hf 32 (.inr ⟨he, rfl⟩)).mono fun e w' h => h
  | ok j x h4 ho hf he =>
    exact (chkRunS n p cap l w h4 HR.out HD.out HW.out B0.out ho j x hf 0 (.inl ⟨he, rfl⟩)).mono fun e w' h => h
end Go.Proofs.YtcchcinnjahghaaDoor
