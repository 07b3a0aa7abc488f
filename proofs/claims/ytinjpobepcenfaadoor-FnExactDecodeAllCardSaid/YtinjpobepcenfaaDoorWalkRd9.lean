/-
  What the steps of impl's reader do ahead of the operands: prefixes, operation, modRM, size, addressed: each answers a code, or panics at the text's end, changing nothing but the reader; conditions: those in each head.
-/
import Derived.Test.YtinjpobepcenfaaDoorWalkRd6
import Derived.Test.YtinjpobepcenfaaDoorWalkGroup
namespace Go.Proofs.YtinjpobepcenfaaDoor
open Go.RowKit Go.Sort
set_option linter.unusedVariables false
/-- what a step leaves: another reader, or a code (9 is the text's end) -/
def StOut (W0 w : World) (g : Nat) (r : Except Int Rd) (e : Ending) (w' : World) : Prop :=
  match r with
  | .ok R' => e = .returned (.int .i64 0) ∧ Wr W0 w w' g R'
  | .error c => Ch w w' g ∧ if c = 9 then e = endP else e = .returned (.int .i64 c)
theorem neq {b : Nat} (k : Nat) (h : b ≠ k) : ((b : Int) == (k : Int)) = false := beq_eq_false_iff_ne.mpr (by omega)
/-! prefixes -/
def stP (R : Rd) : Except Int Rd := match prefD R.t R.n with | .ok (w, x, n) => .ok { R with w := w, rex := x, n := n } | .error c => .error c
set_option maxRecDepth 100000 in
set_option maxHeartbeats 4000000 in
theorem pref_1end (g : Nat) (R : Rd) (W0 w : World) (aE aR : Addr) (hsn : Sent W0 aE aR) (h : At W0 w g R) (hrx : R.rex = 0) (hw : R.w = false) (hn : R.n < R.t.size) (b0 : Nat) (hb0 : nb R.t R.n = b0) (h0 : b0 = 102) (hk : R.t.size ≤ R.n + 1) :
    Calls Tryd.prog 55 #[.pointer (some ⟨g, 0, none⟩)] w fun e w' => e = endP ∧ Ch w w' g := by
  have CP0 := fun (W : World) (hA : At W0 W g R) => peekYes g R W0 W hA hn
  rw [hb0] at CP0
  have CP := Lib.hid CP0
  have CQ := Lib.hid (fun (W : World) (hA : At W0 W g { R with w := true, n := R.n + 1 }) => peekNo g _ W0 W aE aR hsn hA hk)
  unfold endP at *
  have hle := h.sz
  have hbd : (R.n : Int) + 2 ≤ 65537 := by omega
  have HN : Hid (R.n + 1 ≤ R.t.size) := Lib.hid (by omega)
  have H := Lib.hid h
  have HW := Lib.hid hw; have HX := Lib.hid hrx
  subst h0
  clear h hrx hw hn hb0 CP0 hk hsn
  go_enter Tryd.func55, Tryd.ntmps55
  go_wp2_with fail
  refine Calls.mono (CP.out _ H.out) ?_
  rintro e w1 ⟨rfl, h1⟩
  have y1 := h1.1.rb.cell 1; have y2 := h1.1.rb.cell 2
  simp only [rdA, List.getElem?_toArray, List.getElem?_cons_zero, List.getElem?_cons_succ] at y1 y2
  have f1 := h1.1.rb.free 1; have f2 := h1.1.rb.free 2
  have M1 : Hid (Wr W0 w ((w1.setCell ⟨g, 2, none⟩ (.bool true)).setCell ⟨g, 1, none⟩ (.int .i64 ((R.n : Int) + 1))) g { R with w := true, n := R.n + 1 }) := Lib.hid ⟨(h1.1.set1 (R' := { R with w := true }) 2 (.bool true) rfl rfl rfl).next ((Ch.refl _ _).set 1 _) ((h1.1.set1 (R' := { R with w := true }) 2 (.bool true) rfl rfl rfl).rb.set 1 _ rfl) rfl HN.out, (Ch.set (Ch.set h1.2 2 _) 1 _)⟩
  clear h1
  go_wp2_with fail
  refine Calls.mono (CQ.out _ M1.out.1) ?_
  rintro e w2 ⟨rfl, hc⟩
  go_wp2
  exact ⟨rfl, rfl, M1.out.2.trans hc⟩
set_option maxRecDepth 100000 in
set_option maxHeartbeats 4000000 in
theorem pref_1bad (g : Nat) (R : Rd) (W0 w : World) (h : At W0 w g R) (hrx : R.rex = 0) (hw : R.w = false) (hn : R.n < R.t.size) (b0 : Nat) (hb0 : nb R.t R.n = b0) (h0 : b0 = 102) (hk : R.n + 1 < R.t.size) (b1 : Nat) (hb1 : nb R.t (R.n + 1) = b1) (hp : b1 = 102 ∨ isPre b1) :
    Calls Tryd.prog 55 #[.pointer (some ⟨g, 0, none⟩)] w fun e w' => e = .returned (.int .i64 10) ∧ Ch w w' g := by
  have CP0 := fun (W : World) (hA : At W0 W g R) => peekYes g R W0 W hA hn
  rw [hb0] at CP0
  have CP := Lib.hid CP0
  have CQ0 := fun (W : World) (hA : At W0 W g { R with w := true, n := R.n + 1 }) => peekYes g _ W0 W hA hk
  simp only at CQ0
  rw [hb1] at CQ0
  have CQ := Lib.hid CQ0
  clear CQ0
  have hle := h.sz
  have hbd : (R.n : Int) + 2 ≤ 65537 := by omega
  have HN : Hid (R.n + 1 ≤ R.t.size) := Lib.hid (by omega)
  have H := Lib.hid h
  have HW := Lib.hid hw; have HX := Lib.hid hrx
  subst h0
  rcases hp with hp | hp | hp | hp | hp | hp | hp | hp | hp | hp | hp
  all_goals
    subst hp
    clear h hrx hw hn hb0 CP0 hk hb1
    go_enter Tryd.func55, Tryd.ntmps55
    go_wp2_with fail
    refine Calls.mono (CP.out _ H.out) ?_
    rintro e w1 ⟨rfl, h1⟩
    have y1 := h1.1.rb.cell 1; have y2 := h1.1.rb.cell 2
    simp only [rdA, List.getElem?_toArray, List.getElem?_cons_zero, List.getElem?_cons_succ] at y1 y2
    have f1 := h1.1.rb.free 1; have f2 := h1.1.rb.free 2
    have M1 : Hid (Wr W0 w ((w1.setCell ⟨g, 2, none⟩ (.bool true)).setCell ⟨g, 1, none⟩ (.int .i64 ((R.n : Int) + 1))) g { R with w := true, n := R.n + 1 }) := Lib.hid ⟨(h1.1.set1 (R' := { R with w := true }) 2 (.bool true) rfl rfl rfl).next ((Ch.refl _ _).set 1 _) ((h1.1.set1 (R' := { R with w := true }) 2 (.bool true) rfl rfl rfl).rb.set 1 _ rfl) rfl HN.out, (Ch.set (Ch.set h1.2 2 _) 1 _)⟩
    clear h1
    go_wp2_with fail
    refine Calls.mono (CQ.out _ M1.out.1) ?_
    rintro e w2 ⟨rfl, h2'⟩
    have h2 := M1.out.trans h2'
    clear h2' y1 y2 f1 f2
    have H2 := Lib.hid h2
    clear h2
    go_wp2
    go_ret
    exact ⟨rfl, H2.out.2⟩
set_option maxRecDepth 100000 in
set_option maxHeartbeats 4000000 in
theorem pref_1rex (g : Nat) (R : Rd) (W0 w : World) (h : At W0 w g R) (hrx : R.rex = 0) (hw : R.w = false) (hn : R.n < R.t.size) (b0 : Nat) (hb0 : nb R.t R.n = b0) (h0 : b0 = 102) (hk : R.n + 1 < R.t.size) (b1 : Nat) (hb1 : nb R.t (R.n + 1) = b1) (hp : ¬ isPre b1) (hp2 : b1 ≠ 102) (hr1 : 64 ≤ b1) (hr2 : b1 ≤ 79) :
    Calls Tryd.prog 55 #[.pointer (some ⟨g, 0, none⟩)] w fun e w' => e = .returned (.int .i64 0) ∧ Wr W0 w w' g { R with w := true, rex := b1, n := R.n + 1 + 1 } := by
  have CP0 := fun (W : World) (hA : At W0 W g R) => peekYes g R W0 W hA hn
  rw [hb0] at CP0
  have CP := Lib.hid CP0
  have CQ0 := fun (W : World) (hA : At W0 W g { R with w := true, n := R.n + 1 }) => peekYes g _ W0 W hA hk
  simp only at CQ0
  rw [hb1] at CQ0
  have CQ := Lib.hid CQ0
  clear CQ0
  have hle := h.sz
  have hbd : (R.n : Int) + 2 ≤ 65537 := by omega
  have HN : Hid (R.n + 1 ≤ R.t.size) := Lib.hid (by omega)
  have H := Lib.hid h
  have HW := Lib.hid hw; have HX := Lib.hid hrx
  subst h0
  have HN2 : Hid (R.n + 1 + 1 ≤ R.t.size) := Lib.hid (by omega)
  have r1 : (64 : Int) ≤ (b1 : Int) := by omega
  have r2 : (b1 : Int) ≤ 79 := by omega
  obtain ⟨p38, p46, p54, p62, p100, p101, p103, p240, p242, p243⟩ : ((b1 : Int) == 38) = false ∧ ((b1 : Int) == 46) = false ∧ ((b1 : Int) == 54) = false ∧ ((b1 : Int) == 62) = false ∧ ((b1 : Int) == 100) = false ∧ ((b1 : Int) == 101) = false ∧ ((b1 : Int) == 103) = false ∧ ((b1 : Int) == 240) = false ∧ ((b1 : Int) == 242) = false ∧ ((b1 : Int) == 243) = false := by
    unfold isPre at hp
    simp only [beq_eq_false_iff_ne]
    omega
  have z102 : ((b1 : Int) == 102) = false := by simp only [beq_eq_false_iff_ne]; omega
  clear hp hp2
  clear hr1 hr2
  clear h hrx hw hn hb0 CP0 hk hb1
  go_enter Tryd.func55, Tryd.ntmps55
  go_wp2_with fail
  refine Calls.mono (CP.out _ H.out) ?_
  rintro e w1 ⟨rfl, h1⟩
  have y1 := h1.1.rb.cell 1; have y2 := h1.1.rb.cell 2
  simp only [rdA, List.getElem?_toArray, List.getElem?_cons_zero, List.getElem?_cons_succ] at y1 y2
  have f1 := h1.1.rb.free 1; have f2 := h1.1.rb.free 2
  have M1 : Hid (Wr W0 w ((w1.setCell ⟨g, 2, none⟩ (.bool true)).setCell ⟨g, 1, none⟩ (.int .i64 ((R.n : Int) + 1))) g { R with w := true, n := R.n + 1 }) := Lib.hid ⟨(h1.1.set1 (R' := { R with w := true }) 2 (.bool true) rfl rfl rfl).next ((Ch.refl _ _).set 1 _) ((h1.1.set1 (R' := { R with w := true }) 2 (.bool true) rfl rfl rfl).rb.set 1 _ rfl) rfl HN.out, (Ch.set (Ch.set h1.2 2 _) 1 _)⟩
  clear h1
  go_wp2_with fail
  refine Calls.mono (CQ.out _ M1.out.1) ?_
  rintro e w2 ⟨rfl, h2'⟩
  have h2 := M1.out.trans h2'
  clear h2' y1 y2 f1 f2
  go_wp2_with fail
  refine Calls.mono (CQ.out _ h2.1) ?_
  rintro e w3 ⟨rfl, h3'⟩
  have h3 := h2.trans h3'
  clear h3' h2
  have y1 := h3.1.rb.cell 1; have y3 := h3.1.rb.cell 3
  simp only [rdA, List.getElem?_toArray, List.getElem?_cons_zero, List.getElem?_cons_succ] at y1 y3
  have en : ((R.n + 1 : Nat) : Int) = (R.n : Int) + 1 := by omega
  rw [en] at y1
  clear en
  have f1 := h3.1.rb.free 1; have f3 := h3.1.rb.free 3
  have H3 := Lib.hid h3
  clear h3
  go_wp2
  go_ret
  have a1 := H3.out.1.set1 (R' := { R with w := true, rex := b1, n := R.n + 1 }) 3 (.int .i64 (b1 : Int)) rfl rfl rfl
  refine ⟨rfl, ?_, Ch.set (Ch.set H3.out.2 3 _) 1 _⟩
  have a2 := a1.next ((Ch.refl _ _).set 1 (.int .i64 (((R.n + 1 + 1 : Nat) : Int)))) (a1.rb.set (R' := { { R with w := true, rex := b1, n := R.n + 1 } with n := R.n + 1 + 1 }) 1 _ rfl) rfl HN2.out
  simpa using a2
set_option maxRecDepth 100000 in
set_option maxHeartbeats 4000000 in
theorem pref_1none (g : Nat) (R : Rd) (W0 w : World) (h : At W0 w g R) (hrx : R.rex = 0) (hw : R.w = false) (hn : R.n < R.t.size) (b0 : Nat) (hb0 : nb R.t R.n = b0) (h0 : b0 = 102) (hk : R.n + 1 < R.t.size) (b1 : Nat) (hb1 : nb R.t (R.n + 1) = b1) (hp : ¬ isPre b1) (hp2 : b1 ≠ 102) (hr : ¬ (64 ≤ b1 ∧ b1 ≤ 79)) :
    Calls Tryd.prog 55 #[.pointer (some ⟨g, 0, none⟩)] w fun e w' => e = .returned (.int .i64 0) ∧ Wr W0 w w' g { R with w := true, rex := 0, n := R.n + 1 } := by
  have CP0 := fun (W : World) (hA : At W0 W g R) => peekYes g R W0 W hA hn
  rw [hb0] at CP0
  have CP := Lib.hid CP0
  have CQ0 := fun (W : World) (hA : At W0 W g { R with w := true, n := R.n + 1 }) => peekYes g _ W0 W hA hk
  simp only at CQ0
  rw [hb1] at CQ0
  have CQ := Lib.hid CQ0
  clear CQ0
  have hle := h.sz
  have hbd : (R.n : Int) + 2 ≤ 65537 := by omega
  have HN : Hid (R.n + 1 ≤ R.t.size) := Lib.hid (by omega)
  have H := Lib.hid h
  have HW := Lib.hid hw; have HX := Lib.hid hrx
  subst h0
  obtain ⟨p38, p46, p54, p62, p100, p101, p103, p240, p242, p243⟩ : ((b1 : Int) == 38) = false ∧ ((b1 : Int) == 46) = false ∧ ((b1 : Int) == 54) = false ∧ ((b1 : Int) == 62) = false ∧ ((b1 : Int) == 100) = false ∧ ((b1 : Int) == 101) = false ∧ ((b1 : Int) == 103) = false ∧ ((b1 : Int) == 240) = false ∧ ((b1 : Int) == 242) = false ∧ ((b1 : Int) == 243) = false := by
    unfold isPre at hp
    simp only [beq_eq_false_iff_ne]
    omega
  have z102 : ((b1 : Int) == 102) = false := by simp only [beq_eq_false_iff_ne]; omega
  clear hp hp2
  rcases (show ¬ (64 : Int) ≤ (b1 : Int) ∨ ((64 : Int) ≤ (b1 : Int) ∧ ¬ (b1 : Int) ≤ 79) by omega) with q1 | ⟨q1, q2⟩
  all_goals
    clear hr
    try have d1 := decide_eq_false q1
    try have d2 := decide_eq_false q2
    clear h hrx hw hn hb0 CP0 hk hb1
    go_enter Tryd.func55, Tryd.ntmps55
    go_wp2_with fail
    refine Calls.mono (CP.out _ H.out) ?_
    rintro e w1 ⟨rfl, h1⟩
    have y1 := h1.1.rb.cell 1; have y2 := h1.1.rb.cell 2
    simp only [rdA, List.getElem?_toArray, List.getElem?_cons_zero, List.getElem?_cons_succ] at y1 y2
    have f1 := h1.1.rb.free 1; have f2 := h1.1.rb.free 2
    have M1 : Hid (Wr W0 w ((w1.setCell ⟨g, 2, none⟩ (.bool true)).setCell ⟨g, 1, none⟩ (.int .i64 ((R.n : Int) + 1))) g { R with w := true, n := R.n + 1 }) := Lib.hid ⟨(h1.1.set1 (R' := { R with w := true }) 2 (.bool true) rfl rfl rfl).next ((Ch.refl _ _).set 1 _) ((h1.1.set1 (R' := { R with w := true }) 2 (.bool true) rfl rfl rfl).rb.set 1 _ rfl) rfl HN.out, (Ch.set (Ch.set h1.2 2 _) 1 _)⟩
    clear h1
    go_wp2_with fail
    refine Calls.mono (CQ.out _ M1.out.1) ?_
    rintro e w2 ⟨rfl, h2'⟩
    have h2 := M1.out.trans h2'
    clear h2' y1 y2 f1 f2
    go_wp2_with fail
    refine Calls.mono (CQ.out _ h2.1) ?_
    rintro e w3 ⟨rfl, h3'⟩
    have h3 := h2.trans h3'
    clear h3' h2
    have H3 := Lib.hid h3
    clear h3
    go_wp2
    go_ret
    refine ⟨rfl, ?_⟩
    have a1 := H3.out
    have := HX.out; rw [show (0 : Nat) = R.rex from this.symm]; exact a1
set_option maxRecDepth 100000 in
set_option maxHeartbeats 4000000 in
theorem pref_0bad (g : Nat) (R : Rd) (W0 w : World) (h : At W0 w g R) (hrx : R.rex = 0) (hw : R.w = false) (hn : R.n < R.t.size) (b0 : Nat) (hb0 : nb R.t R.n = b0) (h0 : b0 ≠ 102) (hp : isPre b0) :
    Calls Tryd.prog 55 #[.pointer (some ⟨g, 0, none⟩)] w fun e w' => e = .returned (.int .i64 10) ∧ Ch w w' g := by
  have CP0 := fun (W : World) (hA : At W0 W g R) => peekYes g R W0 W hA hn
  rw [hb0] at CP0
  have CP := Lib.hid CP0
  have hle := h.sz
  have hbd : (R.n : Int) + 2 ≤ 65537 := by omega
  have HN : Hid (R.n + 1 ≤ R.t.size) := Lib.hid (by omega)
  have H := Lib.hid h
  have HW := Lib.hid hw; have HX := Lib.hid hrx
  have z102 : ((b0 : Int) == 102) = false := by simp only [beq_eq_false_iff_ne]; omega
  rcases hp with hp | hp | hp | hp | hp | hp | hp | hp | hp | hp
  all_goals
    subst hp
    clear h hrx hw hn hb0 CP0
    go_enter Tryd.func55, Tryd.ntmps55
    go_wp2_with fail
    refine Calls.mono (CP.out _ H.out) ?_
    rintro e w1 ⟨rfl, h1⟩
    go_wp2_with fail
    refine Calls.mono (CP.out _ h1.1) ?_
    rintro e w2 ⟨rfl, h2'⟩
    have h2 := h1.trans h2'
    clear h2' h1
    have H2 := Lib.hid h2
    clear h2
    go_wp2
    go_ret
    exact ⟨rfl, H2.out.2⟩
set_option maxRecDepth 100000 in
set_option maxHeartbeats 4000000 in
theorem pref_0rex (g : Nat) (R : Rd) (W0 w : World) (h : At W0 w g R) (hrx : R.rex = 0) (hw : R.w = false) (hn : R.n < R.t.size) (b0 : Nat) (hb0 : nb R.t R.n = b0) (h0 : b0 ≠ 102) (hp : ¬ isPre b0) (hr1 : 64 ≤ b0) (hr2 : b0 ≤ 79) :
    Calls Tryd.prog 55 #[.pointer (some ⟨g, 0, none⟩)] w fun e w' => e = .returned (.int .i64 0) ∧ Wr W0 w w' g { R with w := false, rex := b0, n := R.n + 1 } := by
  have CP0 := fun (W : World) (hA : At W0 W g R) => peekYes g R W0 W hA hn
  rw [hb0] at CP0
  have CP := Lib.hid CP0
  have hle := h.sz
  have hbd : (R.n : Int) + 2 ≤ 65537 := by omega
  have HN : Hid (R.n + 1 ≤ R.t.size) := Lib.hid (by omega)
  have H := Lib.hid h
  have HW := Lib.hid hw; have HX := Lib.hid hrx
  have z102 : ((b0 : Int) == 102) = false := by simp only [beq_eq_false_iff_ne]; omega
  have HN2 : Hid (R.n + 1 ≤ R.t.size) := Lib.hid (by omega)
  have r1 : (64 : Int) ≤ (b0 : Int) := by omega
  have r2 : (b0 : Int) ≤ 79 := by omega
  obtain ⟨p38, p46, p54, p62, p100, p101, p103, p240, p242, p243⟩ : ((b0 : Int) == 38) = false ∧ ((b0 : Int) == 46) = false ∧ ((b0 : Int) == 54) = false ∧ ((b0 : Int) == 62) = false ∧ ((b0 : Int) == 100) = false ∧ ((b0 : Int) == 101) = false ∧ ((b0 : Int) == 103) = false ∧ ((b0 : Int) == 240) = false ∧ ((b0 : Int) == 242) = false ∧ ((b0 : Int) == 243) = false := by
    unfold isPre at hp
    simp only [beq_eq_false_iff_ne]
    omega
  clear hp
  clear hr1 hr2
  clear h hrx hw hn hb0 CP0
  go_enter Tryd.func55, Tryd.ntmps55
  go_wp2_with fail
  refine Calls.mono (CP.out _ H.out) ?_
  rintro e w1 ⟨rfl, h1⟩
  go_wp2_with fail
  refine Calls.mono (CP.out _ h1.1) ?_
  rintro e w2 ⟨rfl, h2'⟩
  have h2 := h1.trans h2'
  clear h2' h1
  go_wp2_with fail
  refine Calls.mono (CP.out _ h2.1) ?_
  rintro e w3 ⟨rfl, h3'⟩
  have h3 := h2.trans h3'
  clear h3' h2
  have y1 := h3.1.rb.cell 1; have y3 := h3.1.rb.cell 3
  simp only [rdA, List.getElem?_toArray, List.getElem?_cons_zero, List.getElem?_cons_succ] at y1 y3
  have f1 := h3.1.rb.free 1; have f3 := h3.1.rb.free 3
  have H3 := Lib.hid h3
  clear h3
  go_wp2
  go_ret
  have a1 := H3.out.1.set1 (R' := { R with w := R.w, rex := b0, n := R.n }) 3 (.int .i64 (b0 : Int)) rfl rfl rfl
  refine ⟨rfl, ?_, Ch.set (Ch.set H3.out.2 3 _) 1 _⟩
  have HW' := HW.out
  have a2 := a1.next ((Ch.refl _ _).set 1 (.int .i64 (((R.n + 1 : Nat) : Int)))) (a1.rb.set (R' := { { R with w := R.w, rex := b0, n := R.n } with n := R.n + 1 }) 1 _ rfl) rfl HN2.out
  rw [HW'] at a2; exact a2
set_option maxRecDepth 100000 in
set_option maxHeartbeats 4000000 in
theorem pref_0none (g : Nat) (R : Rd) (W0 w : World) (h : At W0 w g R) (hrx : R.rex = 0) (hw : R.w = false) (hn : R.n < R.t.size) (b0 : Nat) (hb0 : nb R.t R.n = b0) (h0 : b0 ≠ 102) (hp : ¬ isPre b0) (hr : ¬ (64 ≤ b0 ∧ b0 ≤ 79)) :
    Calls Tryd.prog 55 #[.pointer (some ⟨g, 0, none⟩)] w fun e w' => e = .returned (.int .i64 0) ∧ Wr W0 w w' g { R with w := false, rex := 0, n := R.n } := by
  have CP0 := fun (W : World) (hA : At W0 W g R) => peekYes g R W0 W hA hn
  rw [hb0] at CP0
  have CP := Lib.hid CP0
  have hle := h.sz
  have hbd : (R.n : Int) + 2 ≤ 65537 := by omega
  have HN : Hid (R.n + 1 ≤ R.t.size) := Lib.hid (by omega)
  have H := Lib.hid h
  have HW := Lib.hid hw; have HX := Lib.hid hrx
  have z102 : ((b0 : Int) == 102) = false := by simp only [beq_eq_false_iff_ne]; omega
  obtain ⟨p38, p46, p54, p62, p100, p101, p103, p240, p242, p243⟩ : ((b0 : Int) == 38) = false ∧ ((b0 : Int) == 46) = false ∧ ((b0 : Int) == 54) = false ∧ ((b0 : Int) == 62) = false ∧ ((b0 : Int) == 100) = false ∧ ((b0 : Int) == 101) = false ∧ ((b0 : Int) == 103) = false ∧ ((b0 : Int) == 240) = false ∧ ((b0 : Int) == 242) = false ∧ ((b0 : Int) == 243) = false := by
    unfold isPre at hp
    simp only [beq_eq_false_iff_ne]
    omega
  clear hp
  rcases (show ¬ (64 : Int) ≤ (b0 : Int) ∨ ((64 : Int) ≤ (b0 : Int) ∧ ¬ (b0 : Int) ≤ 79) by omega) with q1 | ⟨q1, q2⟩
  all_goals
    clear hr
    try have d1 := decide_eq_false q1
    try have d2 := decide_eq_false q2
    clear h hrx hw hn hb0 CP0
    go_enter Tryd.func55, Tryd.ntmps55
    go_wp2_with fail
    refine Calls.mono (CP.out _ H.out) ?_
    rintro e w1 ⟨rfl, h1⟩
    go_wp2_with fail
    refine Calls.mono (CP.out _ h1.1) ?_
    rintro e w2 ⟨rfl, h2'⟩
    have h2 := h1.trans h2'
    clear h2' h1
    go_wp2_with fail
    refine Calls.mono (CP.out _ h2.1) ?_
    rintro e w3 ⟨rfl, h3'⟩
    have h3 := h2.trans h3'
    clear h3' h2
    have H3 := Lib.hid h3
    clear h3
    go_wp2
    go_ret
    refine ⟨rfl, ?_⟩
    have a1 := H3.out
    have e1 := HX.out; have e2 := HW.out; rw [show ({ R with w := false, rex := 0, n := R.n } : Rd) = R by cases R; simp_all]; exact a1
end Go.Proofs.YtinjpobepcenfaaDoor
