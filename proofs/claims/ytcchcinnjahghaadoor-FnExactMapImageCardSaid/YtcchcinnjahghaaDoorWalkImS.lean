/-
  What spec.l10Segments, spec.l10Run, spec.l10Check and spec.ImageOK, spec.CheckImage answer of an image: what Chk tells, changing nothing that was there; conditions: those in each head.
-/
import Derived.Test.YtcchcinnjahghaaDoorMathChk
import Derived.Test.YtcchcinnjahghaaDoorWalkSg
import Derived.Test.YtcchcinnjahghaaDoorWalkZone
namespace Go.Proofs.YtcchcinnjahghaaDoor
open Go.RowKit
set_option linter.unusedVariables false
set_option linter.unusedSimpArgs false
theorem fitYes {free : Int} {x : Sg} (h : fitB free x = true) : x.v.tmod 256 = 0 ∧ decide (free ≤ x.v ∧ x.v ≤ 3583) = true ∧ decide (1 ≤ x.m ∧ x.m ≤ 3584 - x.v) = true ∧ (x.d.size : Int) ≤ x.m := by
  unfold fitB at h; simp at h; simp; omega
theorem fitNo {free : Int} {x : Sg} (h : fitB free x = false) : x.v.tmod 256 ≠ 0 ∨ (x.v.tmod 256 = 0 ∧ decide (free ≤ x.v ∧ x.v ≤ 3583) = false) ∨ (x.v.tmod 256 = 0 ∧ decide (free ≤ x.v ∧ x.v ≤ 3583) = true ∧ decide (1 ≤ x.m ∧ x.m ≤ 3584 - x.v) = false) ∨ (x.v.tmod 256 = 0 ∧ decide (free ≤ x.v ∧ x.v ≤ 3583) = true ∧ decide (1 ≤ x.m ∧ x.m ≤ 3584 - x.v) = true ∧ ¬ (x.d.size : Int) ≤ x.m) := by
  unfold fitB at h
  by_cases h1 : x.v.tmod 256 = 0
  · cases h2 : decide (free ≤ x.v ∧ x.v ≤ 3583)
    · exact .inr (.inl ⟨h1, rfl⟩)
    · cases h3 : decide (1 ≤ x.m ∧ x.m ≤ 3584 - x.v)
      · exact .inr (.inr (.inl ⟨h1, rfl, rfl⟩))
      · refine .inr (.inr (.inr ⟨h1, rfl, rfl, fun h4 => ?_⟩))
        simp at h2 h3
        simp [h1, h2, h3, h4] at h
  · exact .inl h1
theorem segC_ways {free : Int} {run : Bool} {x : Sg} (h : segC free run x ≠ 0) : (fOk x = false ∧ segC free run x = 14) ∨ (fOk x = true ∧ fitB free x = false ∧ segC free run x = 31) ∨ (fitB free x = true ∧ x.f = 5 ∧ (run = true ∨ codeB x = false) ∧ segC free run x = 28) := by
  unfold segC at h ⊢
  cases h1 : fOk x with
  | false => simp
  | true =>
    cases h2 : fitB free x with
    | false => simp
    | true =>
      rw [h1, h2] at h
      simp at h
      refine .inr (.inr ⟨rfl, h.1, ?_, by simp; exact h⟩)
      cases run <;> simp_all
theorem seg_zero {free : Int} {run : Bool} {x : Sg} (h : segC free run x = 0) : fOk x = true ∧ fitB free x = true ∧ (x.f = 5 → run = false ∧ codeB x = true) := by
  unfold segC at h
  cases h1 : fOk x with
  | false => rw [h1] at h; simp at h
  | true =>
    rw [h1] at h
    cases h2 : fitB free x with
    | false => rw [h2] at h; simp at h
    | true =>
      rw [h2] at h
      simp at h
      refine ⟨rfl, rfl, fun h5 => ?_⟩
      have := h h5
      cases hc : codeB x <;> simp_all
theorem f_no {x : Sg} (h : fOk x = false) : x.f ≠ 4 ∧ x.f ≠ 5 ∧ x.f ≠ 6 := by unfold fOk at h; simp at h; omega
theorem f_yes {x : Sg} (h : fOk x = true) : x.f = 4 ∨ x.f = 5 ∨ x.f = 6 := by unfold fOk at h; simp at h; omega
theorem wp_here {e e0 : Int} (h0 : 0 ≤ e0) (h1 : e0 ≤ e) (h2 : e ≤ wpN e0) (h : e % 256 = 0) : e = wpN e0 := by unfold wpN at *; omega
theorem wp_next {e e0 : Int} (h0 : 0 ≤ e0) (h1 : e0 ≤ e) (h2 : e ≤ wpN e0) (h : e % 256 ≠ 0) : e + 1 ≤ wpN e0 := by unfold wpN at *; omega
theorem wp_le (e0 : Int) : e0 ≤ wpN e0 := by unfold wpN; omega
theorem wp_hi {e0 : Int} (h0 : e0 ≤ 3584) : wpN e0 ≤ 3584 := by unfold wpN; omega
theorem tm {e : Int} (h : 0 ≤ e) : e.tmod 256 = e % 256 := Int.tmod_eq_emod_of_nonneg h
theorem okTo_step {l : List Sg} {k : Nat} {x : Sg} (h : OkTo l k) (hx : l[k]? = some x) (hc : segC (freeOf (l.take k)) (runOf (l.take k)) x = 0) : OkTo l (k + 1) := by
  intro j y hj hy
  by_cases e : j = k
  · subst e; rw [hx] at hy; cases hy; exact hc
  · exact h j y (by omega) hy
/-- what spec.l10Segments answers -/
def SegsOut (l : List Sg) (e : Ending) : Prop :=
  (∃ k x, OkTo l k ∧ l[k]? = some x ∧ segC (freeOf (l.take k)) (runOf (l.take k)) x ≠ 0 ∧ e = .returned (.tuple #[.int .i64 (k : Int), .int .i64 (segC (freeOf (l.take k)) (runOf (l.take k)) x)]))
  ∨ (OkTo l l.length ∧ e = .returned (.tuple #[.int .i64 0, .int .i64 (if runOf l then 0 else 28)]))
def runI (b : Bool) : Int := if b then 1 else 0
set_option maxRecDepth 20000 in
set_option maxHeartbeats 4000000 in
theorem segsS (n : Int) (p : Option Addr) (cap : Nat) (l : List Sg) (w : World) (h4 : l.length ≤ 4) (hr : RdS w p l) (hd : ∀ (k : Nat) x, l[k]? = some x → x.d.size ≤ 9223372036854775807) (hwf : ∀ (k : Nat) x, l[k]? = some x → (Lit.int .i64 x.f).wf = true ∧ (Lit.int .i64 x.v).wf = true ∧ (Lit.int .i64 x.m).wf = true) :
    Calls Tryd.prog 48 #[.agg #[.int .i64 n, .slice p l.length cap]] w fun e w' => SegsOut l e ∧ Below w.heap.size w w' := by
  have HR := Lib.hid hr; have HD := Lib.hid hd; have HWF := Lib.hid hwf
  have b0 : Below w.heap.size w (w.alloc (.cells #[.int .i64 n, .slice p l.length cap] 24)) := (Below.refl _ _).alloc (Nat.le_refl _) _
  have c0 : (w.alloc (.cells #[.int .i64 n, .slice p l.length cap] 24)).cell? ⟨w.heap.size, 1, none⟩ = some (.slice p l.length cap) := by go_cell
  clear hr hd hwf
  go_enter Tryd.func48, Tryd.ntmps48
  go_wp2
  go_loopw [4, 5, 6] (fun en ru i wr => ∃ (k : Nat), k ≤ l.length ∧ i = .int .i64 k ∧ en = .int .i64 (freeOf (l.take k)) ∧ ru = .int .i64 (runI (runOf (l.take k))) ∧ Hid (OkTo l k) ∧ wr.cell? ⟨w.heap.size, 1, none⟩ = some (.slice p l.length cap) ∧ Below w.heap.size w wr ∧ w.heap.size < wr.heap.size) (fun _ _ i _ => l.length - (intOf i).toNat)
  case atStart => exact ⟨0, Nat.zero_le _, rfl, by simp [freeOf], by simp [runOf, runI], Lib.hid (fun j x h => by omega), c0, b0, by simp⟩
  case round =>
    obtain ⟨k, hk, rfl, rfl, rfl, HO, hc, hb, hsz⟩ := hrel
    by_cases hlt : k < l.length
    · obtain ⟨x, hx⟩ : ∃ x, l[k]? = some x := ⟨_, List.getElem?_eq_getElem hlt⟩
      obtain ⟨b, off, rfl, h0, q0, q1, q2, q3⟩ := HR.out k x hx
      have g0 := (hb.cell (p := ⟨b, off + k * 4, none⟩) h0).trans q0
      have g1 := (hb.cell (p := ⟨b, off + k * 4 + 1, none⟩) h0).trans q1
      have g2 := (hb.cell (p := ⟨b, off + k * 4 + 2, none⟩) h0).trans q2
      have g3 := (hb.cell (p := ⟨b, off + k * 4 + 3, none⟩) h0).trans q3
      have HX := Lib.hid hx
      have hfr := okTo_free HO.out hk
      have hds := HD.out k x hx
      have hwf := HWF.out k x hx
      clear hx q0 q1 q2 q3 h0
      generalize hfe : freeOf (l.take k) = fr at *
      generalize hre : runOf (l.take k) = ru at *
      have HE := Lib.hid hfe; have HE2 := Lib.hid hre
      clear hfe hre
      by_cases hcc : segC fr ru x = 0
      · obtain ⟨z1, z2, z3⟩ := seg_zero hcc
        obtain ⟨t0, t1, t2, t3⟩ := fitYes z2
        obtain ⟨_, _, _, s1, s2, s3, s4, s5⟩ := seg_ok hfr.1 hcc
        have HC := Lib.hid hcc
        have T1 := Lib.hid t1; have T2 := Lib.hid t2
        have e46 : x.f = 5 ∨ (x.f ≠ 5 ∧ (x.f = 4 ∨ x.f = 6)) := by have := f_yes z1; omega
        clear hcc z1 z2 t1 t2
        rcases e46 with h5 | ⟨h5, h46⟩
        · obtain ⟨rfl, hcb⟩ := z3 h5
          have hcb1 : (x.d.size : Int) = x.m := by unfold codeB at hcb; simp at hcb; exact hcb.1
          have hcb2 : x.m.tmod 32 = 0 := by unfold codeB at hcb; simp at hcb; exact hcb.2
          clear z3 hcb
          simp only [runI, Bool.false_eq_true, if_false]
          go_wp2_with fail
          refine (zin true x.v fr 3583 _ T1.out).mono ?_
          rintro e wq ⟨rfl, rfl⟩
          go_wp2_with fail
          refine (zin true x.m 1 (3584 - x.v) _ T2.out).mono ?_
          rintro e wq ⟨rfl, rfl⟩
          go_wp2
          go_loopw [4] (fun en wr2 => ∃ e : Int, en = .int .i64 e ∧ x.v + x.m ≤ e ∧ e ≤ wpN (x.v + x.m) ∧ wr2.cell? ⟨w.heap.size, 1, none⟩ = some (.slice (some ⟨b, off, none⟩) l.length cap) ∧ Below w.heap.size w wr2 ∧ w.heap.size < wr2.heap.size) (fun en _ => (wpN (x.v + x.m) - intOf en).toNat)
          case atStart => exact ⟨_, rfl, Int.le_refl _, wp_le _, Lib.cell?_alloc_some _ hc, hb.alloc hb.size _, by simp; omega⟩
          case round =>
            obtain ⟨e, rfl, e1, e2, hc2, hb2, hs2⟩ := hrel
            have he0 : 0 ≤ e := by omega
            have hw := wp_hi (e0 := x.v + x.m) (by omega)
            by_cases hm : e % 256 = 0
            · have tm0 : e.tmod 256 = 0 := by rw [tm he0]; exact hm
              obtain rfl := wp_here (by omega) e1 e2 hm
              go_wp2
              go_roundw
              case rel => exact ⟨k + 1, by omega, by go_num, by rw [free_snoc HX.out], by rw [run_snoc HX.out, HE2.out]; simp [h5, runI], Lib.hid (okTo_step HO.out HX.out (by rw [HE.out, HE2.out]; exact HC.out)), hc2, hb2, hs2⟩
              case measure => simp [intOf]; omega
            · have tm0 : ¬ e.tmod 256 = 0 := by rw [tm he0]; exact hm
              have en := wp_next (by omega) e1 e2 hm
              go_wp2
              go_roundw
              case rel => exact ⟨e + 1, rfl, by omega, en, hc2, hb2, hs2⟩
              case measure => simp [intOf]; omega
        · clear z3
          rcases h46 with h6 | h6
          all_goals
            go_wp2_with fail
            refine (zin true x.v fr 3583 _ T1.out).mono ?_
            rintro e wq ⟨rfl, rfl⟩
            go_wp2_with fail
            refine (zin true x.m 1 (3584 - x.v) _ T2.out).mono ?_
            rintro e wq ⟨rfl, rfl⟩
            go_wp2
            go_loopw [4] (fun en wr2 => ∃ e : Int, en = .int .i64 e ∧ x.v + x.m ≤ e ∧ e ≤ wpN (x.v + x.m) ∧ wr2.cell? ⟨w.heap.size, 1, none⟩ = some (.slice (some ⟨b, off, none⟩) l.length cap) ∧ Below w.heap.size w wr2 ∧ w.heap.size < wr2.heap.size) (fun en _ => (wpN (x.v + x.m) - intOf en).toNat)
            case atStart => exact ⟨_, rfl, Int.le_refl _, wp_le _, Lib.cell?_alloc_some _ hc, hb.alloc hb.size _, by simp; omega⟩
            case round =>
              obtain ⟨e, rfl, e1, e2, hc2, hb2, hs2⟩ := hrel
              have he0 : 0 ≤ e := by omega
              have hw := wp_hi (e0 := x.v + x.m) (by omega)
              by_cases hm : e % 256 = 0
              · have tm0 : e.tmod 256 = 0 := by rw [tm he0]; exact hm
                obtain rfl := wp_here (by omega) e1 e2 hm
                go_wp2
                go_roundw
                case rel => exact ⟨k + 1, by omega, by go_num, by rw [free_snoc HX.out], by rw [run_snoc HX.out, HE2.out, decide_eq_false h5, Bool.or_false], Lib.hid (okTo_step HO.out HX.out (by rw [HE.out, HE2.out]; exact HC.out)), hc2, hb2, hs2⟩
                case measure => simp [intOf]; omega
              · have tm0 : ¬ e.tmod 256 = 0 := by rw [tm he0]; exact hm
                have en := wp_next (by omega) e1 e2 hm
                go_wp2
                go_roundw
                case rel => exact ⟨e + 1, rfl, by omega, en, hc2, hb2, hs2⟩
                case measure => simp [intOf]; omega
      · have HC := Lib.hid hcc
        rcases segC_ways hcc with ⟨y1, y2⟩ | ⟨y1, y3, y2⟩ | ⟨y1, y3, y4, y2⟩
        · have HY := Lib.hid y2
          obtain ⟨n4, n5, n6⟩ := f_no y1
          have m4 : (x.f != 4) = true := bne_iff_ne.2 n4
          have m5 : (x.f != 5) = true := bne_iff_ne.2 n5
          have m6 : (x.f != 6) = true := bne_iff_ne.2 n6
          clear hcc y2 y1 n4 n5 n6
          go_wp2
          go_returns
          exact ⟨.inl ⟨k, x, HO.out, HX.out, by rw [HE.out, HE2.out]; exact HC.out, by rw [HE.out, HE2.out, HY.out]; rfl⟩, hb.alloc hb.size _⟩
        · have HY := Lib.hid y2
          have F := f_yes y1
          have W := fitNo y3
          clear hcc y2 y1 y3
          rcases F with F | F | F
          all_goals
            rcases W with n1 | ⟨n1, n2⟩ | ⟨n1, n2, n3⟩ | ⟨n1, n2, n3, n4⟩
            · have m1 : (x.v.tmod 256 != 0) = true := bne_iff_ne.2 n1
              go_wp2
              go_returns
              exact ⟨.inl ⟨k, x, HO.out, HX.out, by rw [HE.out, HE2.out]; exact HC.out, by rw [HE.out, HE2.out, HY.out]; rfl⟩, hb.alloc hb.size _⟩
            · have T1 := Lib.hid n2
              clear n2
              go_wp2_with fail
              refine (zin false x.v fr 3583 _ T1.out).mono ?_
              rintro e wq ⟨rfl, rfl⟩
              go_wp2
              go_returns
              exact ⟨.inl ⟨k, x, HO.out, HX.out, by rw [HE.out, HE2.out]; exact HC.out, by rw [HE.out, HE2.out, HY.out]; rfl⟩, hb.alloc hb.size _⟩
            · have b1 : fr ≤ x.v ∧ x.v ≤ 3583 := of_decide_eq_true n2
              have T1 := Lib.hid n2; have T2 := Lib.hid n3
              clear n2 n3
              go_wp2_with fail
              refine (zin true x.v fr 3583 _ T1.out).mono ?_
              rintro e wq ⟨rfl, rfl⟩
              go_wp2_with fail
              refine (zin false x.m 1 (3584 - x.v) _ T2.out).mono ?_
              rintro e wq ⟨rfl, rfl⟩
              go_wp2
              go_returns
              exact ⟨.inl ⟨k, x, HO.out, HX.out, by rw [HE.out, HE2.out]; exact HC.out, by rw [HE.out, HE2.out, HY.out]; rfl⟩, hb.alloc hb.size _⟩
            · have b1 : fr ≤ x.v ∧ x.v ≤ 3583 := of_decide_eq_true n2
              have b2 : 1 ≤ x.m ∧ x.m ≤ 3584 - x.v := of_decide_eq_true n3
              have T1 := Lib.hid n2; have T2 := Lib.hid n3
              clear n2 n3
              go_wp2_with fail
              refine (zin true x.v fr 3583 _ T1.out).mono ?_
              rintro e wq ⟨rfl, rfl⟩
              go_wp2_with fail
              refine (zin true x.m 1 (3584 - x.v) _ T2.out).mono ?_
              rintro e wq ⟨rfl, rfl⟩
              go_wp2
              go_returns
              exact ⟨.inl ⟨k, x, HO.out, HX.out, by rw [HE.out, HE2.out]; exact HC.out, by rw [HE.out, HE2.out, HY.out]; rfl⟩, hb.alloc hb.size _⟩
        · have HY := Lib.hid y2
          obtain ⟨n1, n2, n3, n4⟩ := fitYes y1
          have b1 : fr ≤ x.v ∧ x.v ≤ 3583 := of_decide_eq_true n2
          have b2 : 1 ≤ x.m ∧ x.m ≤ 3584 - x.v := of_decide_eq_true n3
          have T1 := Lib.hid n2; have T2 := Lib.hid n3
          have y5 : ru = true ∨ (ru = false ∧ ¬ (x.d.size : Int) = x.m) ∨ (ru = false ∧ (x.d.size : Int) = x.m ∧ ¬ x.m.tmod 32 = 0) := by
            cases ru with
            | true => exact .inl rfl
            | false =>
              simp [codeB] at y4
              by_cases q : (x.d.size : Int) = x.m
              · exact .inr (.inr ⟨rfl, q, y4 q⟩)
              · exact .inr (.inl ⟨rfl, q⟩)
          clear hcc y2 y1 n2 n3 y4
          rcases y5 with rfl | ⟨rfl, q1⟩ | ⟨rfl, q1, q2⟩
          rotate_left
          · have m1 : ((x.d.size : Int) != x.m) = true := bne_iff_ne.2 q1
            simp only [runI, Bool.false_eq_true, if_false, if_true]
            go_wp2_with fail
            refine (zin true x.v fr 3583 _ T1.out).mono ?_
            rintro e wq ⟨rfl, rfl⟩
            go_wp2_with fail
            refine (zin true x.m 1 (3584 - x.v) _ T2.out).mono ?_
            rintro e wq ⟨rfl, rfl⟩
            go_wp2
            go_returns
            exact ⟨.inl ⟨k, x, HO.out, HX.out, by rw [HE.out, HE2.out]; exact HC.out, by rw [HE.out, HE2.out, HY.out]; rfl⟩, hb.alloc hb.size _⟩
          · have m2 : (x.m % 32 != 0) = true := by rw [Int.tmod_eq_emod_of_nonneg (by omega)] at q2; exact bne_iff_ne.2 q2
            simp only [runI, Bool.false_eq_true, if_false, if_true]
            go_wp2_with fail
            refine (zin true x.v fr 3583 _ T1.out).mono ?_
            rintro e wq ⟨rfl, rfl⟩
            go_wp2_with fail
            refine (zin true x.m 1 (3584 - x.v) _ T2.out).mono ?_
            rintro e wq ⟨rfl, rfl⟩
            go_wp2
            go_returns
            exact ⟨.inl ⟨k, x, HO.out, HX.out, by rw [HE.out, HE2.out]; exact HC.out, by rw [HE.out, HE2.out, HY.out]; rfl⟩, hb.alloc hb.size _⟩
          · simp only [runI, Bool.false_eq_true, if_false, if_true]
            go_wp2_with fail
            refine (zin true x.v fr 3583 _ T1.out).mono ?_
            rintro e wq ⟨rfl, rfl⟩
            go_wp2_with fail
            refine (zin true x.m 1 (3584 - x.v) _ T2.out).mono ?_
            rintro e wq ⟨rfl, rfl⟩
            go_wp2
            go_returns
            exact ⟨.inl ⟨k, x, HO.out, HX.out, by rw [HE.out, HE2.out]; exact HC.out, by rw [HE.out, HE2.out, HY.out]; rfl⟩, hb.alloc hb.size _⟩
    · obtain rfl : k = l.length := by omega
      rw [List.take_length]
      cases hru : runOf l with
      | true =>
        go_wp2
        go_returns
        exact ⟨.inr ⟨HO.out, by rw [hru]; rfl⟩, hb⟩
      | false =>
        go_wp2
        go_returns
        exact ⟨.inr ⟨HO.out, by rw [hru]; rfl⟩, hb⟩
end Go.Proofs.YtcchcinnjahghaaDoor
