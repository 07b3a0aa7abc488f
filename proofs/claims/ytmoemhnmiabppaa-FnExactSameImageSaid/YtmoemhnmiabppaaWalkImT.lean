/-
  What impl.TextOf and spec.TextOf answer of an image, and what spec.CheckImage answers; conditions: those in each head.
-/
import Derived.Test.YtmoemhnmiabppaaWalkImJ
namespace Go.Proofs.Ytmoemhnmiabppaa
open Go.RowKit
set_option linter.unusedVariables false
set_option linter.unusedSimpArgs false
theorem belowN {n : Nat} {w W : World} (h : Below n w W) (k : Nat) : Below n w (W.drewN k) := ⟨h.os, h.tape, h.output, h.size, h.block⟩
theorem chk_zero {n : Int} {l : List Sg} {k : Nat} (h : Chk n l k 0) : ∃ j x, l.length ≤ 4 ∧ OkTo l l.length ∧ FirstRun l j x := by
  generalize hc : (0 : Int) = c at h
  cases h with
  | none h => cases hc
  | many h => cases hc
  | seg _ y _ hk hy hb => exact absurd hc.symm hb
  | norun _ _ _ h => cases hc
  | entry j x _ _ hf he => cases hc
  | ok j x h4 ho hf he => exact ⟨j, x, h4, ho, hf⟩
/-- what TextOf answers -/
def TextIs (n : Int) (l : List Sg) (c : Int) (e : Ending) : Prop := (c ≠ 0 ∧ e = .returned (.tuple #[.string ⟨#[]⟩, .int .i64 0, .int .i64 1])) ∨ (c = 0 ∧ ∃ j x, FirstRun l j x ∧ e = .returned (.tuple #[.string x.d, .int .i64 (16384 + x.v), .int .i64 0]))
theorem TextIs.one {n : Int} {l : List Sg} {c : Int} {e e' : Ending} (h : TextIs n l c e) (h' : TextIs n l c e') : e = e' := by
  rcases h with ⟨h1, rfl⟩ | ⟨h1, j, x, hf, rfl⟩
  · rcases h' with ⟨h2, rfl⟩ | ⟨h2, _⟩
    · rfl
    · exact absurd h2 h1
  · rcases h' with ⟨h2, rfl⟩ | ⟨h2, i, y, hg, rfl⟩
    · exact absurd h1 h2
    · have e : j = i := by
        rcases Nat.lt_trichotomy j i with h | h | h
        · exact absurd hf.2.1 (hg.2.2 j x h hf.1)
        · exact h
        · exact absurd hg.2.1 (hf.2.2 i y h hg.1)
      subst e
      have := hf.1.symm.trans hg.1
      cases this
      rfl
set_option maxRecDepth 20000 in
set_option maxHeartbeats 4000000 in
theorem textI (n : Int) (p : Option Addr) (cap : Nat) (l : List Sg) (w : World) (hcap : l.length ≤ cap) (hr : RdS w p l) (hs : SmallS l) (k : Nat) (c : Int) (hc : Chk n l k c) :
    Calls Try.prog 15 #[.agg #[.int .i64 n, .slice p l.length cap]] w fun e w' => TextIs n l c e ∧ Below w.heap.size w w' := by
  have b0 := Lib.hid (belowA w (.cells #[.int .i64 n, .slice p l.length cap] 32))
  have I0 := Lib.hid (ImAt.new w n p l.length cap 32)
  have C := Lib.hid (fun b => okI n p cap l _ hcap (hr.below b0.out) hs k c hc b)
  have HR := Lib.hid (hr.below b0.out)
  have HC := Lib.hid hc
  clear hr hs hc
  by_cases h0 : c = 0
  · subst h0
    obtain ⟨j, x, h4, ho, hf⟩ := chk_zero HC.out
    have A := Lib.hid (okTo_at ho (Nat.le_refl _) (List.getElem?_eq_some_iff.1 hf.1).1 hf.1)
    have HF := Lib.hid hf
    clear ho hf
    go_enter Try.func15, Try.ntmps15
    go_wp2_with fail
    refine (C.out true rfl).mono ?_
    rintro e w1 ⟨rfl, b1⟩
    obtain ⟨i0, i1, i2⟩ := I0.out.next b1
    have L := Lib.hid (b0.out.trans (b1.mono b0.out.size))
    have D := Lib.hid (firstC p cap l _ h4 (HR.out.below b1) j x HF.out)
    clear b1 C
    go_wp2_with fail
    refine (D.out).mono ?_
    rintro e w2 ⟨rfl, b2⟩
    have L2 := Lib.hid (L.out.trans (b2.mono L.out.size))
    clear i0 i1 i2 D b2
    obtain ⟨a0, a1, _, _, _⟩ := A.out
    obtain ⟨W, hW⟩ : ∃ W, W = w2.alloc (.cells #[.int .i64 x.f, .int .i64 x.v, .int .i64 x.m, .string x.d] 51) := ⟨_, rfl⟩
    have L3 : Hid (Below w.heap.size w W) := Lib.hid (by rw [hW]; exact L2.out.alloc L2.out.size _)
    have S3 : SgAt W w2.heap.size x := by rw [hW]; exact sgAlloc _ _ _
    obtain ⟨z0, z1, z2, z3, z4⟩ := S3
    go_upto_region 4 with fail
    rw [← hW]
    clear hW
    go_quiet (fail)
    go_wp2
    go_returns
    exact ⟨.inr ⟨rfl, j, x, HF.out, rfl⟩, belowN L3.out _⟩
  · have hb : (c == 0) = false := beq_eq_false_iff_ne.2 h0
    have HN := Lib.hid h0
    clear h0
    go_enter Try.func15, Try.ntmps15
    go_wp2_with fail
    refine (C.out false hb).mono ?_
    rintro e w1 ⟨rfl, b1⟩
    have L := b0.out.trans (b1.mono b0.out.size)
    clear hb
    go_wp2
    go_returns
    exact ⟨.inl ⟨HN.out, rfl⟩, L⟩
set_option maxRecDepth 20000 in
set_option maxHeartbeats 4000000 in
theorem textS (n : Int) (p : Option Addr) (cap : Nat) (l : List Sg) (w : World) (hr : RdS w p l) (hs : SmallS l) (hwf : WfS l) (k : Nat) (c : Int) (hc : Chk n l k c) :
    Calls Try.prog 14 #[.agg #[.int .i64 n, .slice p l.length cap]] w fun e w' => TextIs n l c e ∧ Below w.heap.size w w' := by
  have b0 := Lib.hid (belowA w (.cells #[.int .i64 n, .slice p l.length cap] 32))
  have I0 := Lib.hid (ImAt.new w n p l.length cap 32)
  have C := Lib.hid (okS n p cap l _ (hr.below b0.out) hs hwf k c hc)
  have HR := Lib.hid (hr.below b0.out)
  have HC := Lib.hid hc
  clear hr hs hc
  by_cases h0 : c = 0
  · subst h0
    obtain ⟨j, x, h4, ho, hf⟩ := chk_zero HC.out
    have A := Lib.hid (okTo_at ho (Nat.le_refl _) (List.getElem?_eq_some_iff.1 hf.1).1 hf.1)
    have HF := Lib.hid hf
    have hj := (List.getElem?_eq_some_iff.1 hf.1).1
    clear ho
    rw [show ((0 : Int) == 0) = true from rfl] at C
    go_enter Try.func14, Try.ntmps14
    go_wp2_with fail
    refine (C.out).mono ?_
    rintro e w1 ⟨rfl, b1⟩
    have B1 : Below w.heap.size w w1 := b0.out.trans (b1.mono b0.out.size)
    obtain ⟨i0, i1, i2⟩ := I0.out.next b1
    have R1 := HR.out.below b1
    obtain ⟨b, off, rfl, h0, q0, q1, q2, q3⟩ := R1 j x hf.1
    have CR := Lib.hid (fun W (hr : RdS W (some ⟨b, off, none⟩) l) => runS n (some ⟨b, off, none⟩) cap l W h4 hr j x hf)
    have H1 := Lib.hid R1; have BB := Lib.hid B1
    clear R1 C b1 b0 HR B1 hf HC I0
    go_upto_region 3 with fail
    go_cut [5] from 9 to 14 (fun v W' => ∃ g, v = .pointer (some ⟨g, 0, none⟩) ∧ SgAt W' g x ∧ ImAt W' w.heap.size n (some ⟨b, off, none⟩) l.length cap ∧ Below w.heap.size w W')
    case first =>
      go_region_with (first | (go_at_call 25; refine (CR.out _ (H1.out.below (by go_grown))).mono ?_; rintro e w2 ⟨rfl, b2⟩; have b3 : Below w1.heap.size w1 w2 := (show Below w1.heap.size w1 _ by go_grown).trans (b2.mono (by simp)); have i0' := Nat.lt_of_lt_of_le i0 b3.size; have i1' := (b3.cell (p := ⟨w.heap.size, 0, none⟩) i0).trans i1; have i2' := (b3.cell (p := ⟨w.heap.size, 1, none⟩) i0).trans i2; have h0' := Nat.lt_of_lt_of_le h0 b3.size; have q0' := (b3.cell (p := ⟨b, off + j * 4, none⟩) h0).trans q0; have q1' := (b3.cell (p := ⟨b, off + j * 4 + 1, none⟩) h0).trans q1; have q2' := (b3.cell (p := ⟨b, off + j * 4 + 2, none⟩) h0).trans q2; have q3' := (b3.cell (p := ⟨b, off + j * 4 + 3, none⟩) h0).trans q3; first | (have zz : Below w1.drew.heap.size w1.drew w2 := b2; clear zz) | (have d0 := (b2.cell (p := ⟨w1.heap.size, 0, none⟩) (by simp; done)).trans (show _ = some (.int .i64 0) by go_cell; done); have d1 := (b2.cell (p := ⟨w1.heap.size, 1, none⟩) (by simp; done)).trans (show _ = some (.int .i64 0) by go_cell; done); have d2 := (b2.cell (p := ⟨w1.heap.size, 2, none⟩) (by simp; done)).trans (show _ = some (.int .i64 0) by go_cell; done); have d3 := (b2.cell (p := ⟨w1.heap.size, 3, none⟩) (by simp; done)).trans (show _ = some (.string ⟨#[]⟩) by go_cell; done); have f0 := (b2.frozen (p := ⟨w1.heap.size, 0, none⟩) (by simp; done)).trans (show _ = false by simp [go_sem]; done); have f1 := (b2.frozen (p := ⟨w1.heap.size, 1, none⟩) (by simp; done)).trans (show _ = false by simp [go_sem]; done); have f2 := (b2.frozen (p := ⟨w1.heap.size, 2, none⟩) (by simp; done)).trans (show _ = false by simp [go_sem]; done); have f3 := (b2.frozen (p := ⟨w1.heap.size, 3, none⟩) (by simp; done)).trans (show _ = false by simp [go_sem]; done); have d4 : w1.heap.size < w2.heap.size := Nat.lt_of_lt_of_le (by simp; done) b2.size)))
      all_goals (go_step; refine ‹∀ (a1 : Act) (w1 : World), Met _ a1 w1 → _› _ _ ?_; go_meet; case rel => first | (have zz : Below w1.drew.heap.size w1.drew w2 := b2; clear zz; exact ⟨_, rfl, sgAlloc _ _ _, ImAt.next ⟨i0, i1, i2⟩ (b3.alloc b3.size _), BB.out.trans ((b3.alloc b3.size _).mono BB.out.size)⟩) | exact ⟨_, rfl, sgSet _ _ _ d4 d0 d1 d2 d3, ImAt.next ⟨i0, i1, i2⟩ (below4 b3 (Nat.le_refl _) _ _ _ _), BB.out.trans ((below4 b3 (Nat.le_refl _) _ _ _ _).mono BB.out.size)⟩)
    case rest =>
      obtain ⟨g, rfl, ⟨s0, s1, s2, s3, s4⟩, _, bb⟩ := hcut
      obtain ⟨a0, a1, _, _, _⟩ := A.out
      clear q0 q1 q2 q3 i0 i1 i2 H1 CR BB
      go_upto_region 4 with fail
      go_quiet (fail)
      go_wp2
      go_returns
      exact ⟨.inr ⟨rfl, j, x, HF.out, rfl⟩, belowN bb _⟩
  · rw [show (c == 0) = false from beq_eq_false_iff_ne.2 h0] at C
    have HN := Lib.hid h0
    clear h0
    go_enter Try.func14, Try.ntmps14
    go_wp2_with fail
    refine (C.out).mono ?_
    rintro e w1 ⟨rfl, b1⟩
    have L := b0.out.trans (b1.mono b0.out.size)
    go_wp2
    go_returns
    exact ⟨.inl ⟨HN.out, rfl⟩, L⟩
/-- block b holds an image whose segments are l -/
def BI (W : World) (b : Nat) (n : Int) (p : Option Addr) (c : Nat) (l : List Sg) : Prop := ImAt W b n p l.length c ∧ RdS W p l
theorem BI.next {W W' : World} {b : Nat} {n : Int} {p : Option Addr} {c : Nat} {l : List Sg} (h : BI W b n p c l) (hb : Below W.heap.size W W') : BI W' b n p c l := ⟨h.1.next hb, h.2.below hb⟩
theorem BI.new {w : World} {n : Int} {p : Option Addr} {c : Nat} {l : List Sg} (t : TypeId) (hr : RdS w p l) : BI (w.alloc (.cells #[.int .i64 n, .slice p l.length c] t)) w.heap.size n p c l := ⟨ImAt.new _ _ _ _ _ _, hr.below (belowA _ _)⟩
theorem bthenS {w W W' : World} (h : Below w.heap.size w W) (hb : Below W.heap.size W W') : Below w.heap.size w W' := h.trans (hb.mono h.size)
theorem sz_smallS {l : List Sg} {r left : Int} (h : -1 ≤ r ∧ r ≤ left ∧ (0 ≤ r → SmallS l)) (hr : ¬ r < 0) : SmallS l := h.2.2 (by omega)
theorem keep4S {w : World} {a b : Nat} {u v x y : Option Value} (h : (w.cell? ⟨a, 0, none⟩ = u ∧ w.cell? ⟨a, 1, none⟩ = v) ∧ w.cell? ⟨b, 0, none⟩ = x ∧ w.cell? ⟨b, 1, none⟩ = y) : (w.drew.cell? ⟨a, 0, none⟩ = u ∧ w.drew.cell? ⟨a, 1, none⟩ = v) ∧ w.drew.cell? ⟨b, 0, none⟩ = x ∧ w.drew.cell? ⟨b, 1, none⟩ = y := h
end Go.Proofs.Ytmoemhnmiabppaa
