/-
  What operands of impl's reader does: the operands of each form, or a panic at the text's end, changing nothing but the reader; conditions: those in each head.
-/
import Derived.Test.YtinjpobepcenfaaDoorWalkRd5
import Derived.Deep.RegionHeld3
namespace Go.Proofs.YtinjpobepcenfaaDoor
open Go.RowKit Go.Sort
set_option linter.unusedVariables false
theorem At.set1 {W0 w : World} {g : Nat} {R R' : Rd} (h : At W0 w g R) (i : Nat) (v : Value) (e : (rdA R).setIfInBounds i v = rdA R') (ht : R'.t = R.t) (hn : R'.n = R.n) : At W0 (w.setCell ⟨g, i, none⟩ v) g R' :=
  h.next ((Ch.refl w g).set i v) (h.rb.set i v e) ht (by rw [hn]; exact h.le)
theorem Wr.d {W0 w W : World} {g : Nat} {R : Rd} (h : Wr W0 w W g R) (x : Opd) : Wr W0 w (((((((W.setCell ⟨g, 17, none⟩ (.int .i64 x.k)).setCell ⟨g, 18, none⟩ (.int .i64 x.r)).setCell ⟨g, 19, none⟩ (.int .i64 x.b)).setCell ⟨g, 20, none⟩ (.int .i64 x.i)).setCell ⟨g, 21, none⟩ (.int .i64 x.s)).setCell ⟨g, 22, none⟩ (.int .i64 x.d)).setCell ⟨g, 23, none⟩ (.int .i64 x.m)) g { R with d := x } := by
  have a0 := h.1
  have a1 := a0.set1 (R' := { R with d := { R.d with k := x.k } }) 17 (.int .i64 x.k) rfl rfl rfl
  have a2 := a1.set1 (R' := { R with d := { R.d with k := x.k, r := x.r } }) 18 (.int .i64 x.r) rfl rfl rfl
  have a3 := a2.set1 (R' := { R with d := { R.d with k := x.k, r := x.r, b := x.b } }) 19 (.int .i64 x.b) rfl rfl rfl
  have a4 := a3.set1 (R' := { R with d := { R.d with k := x.k, r := x.r, b := x.b, i := x.i } }) 20 (.int .i64 x.i) rfl rfl rfl
  have a5 := a4.set1 (R' := { R with d := { R.d with k := x.k, r := x.r, b := x.b, i := x.i, s := x.s } }) 21 (.int .i64 x.s) rfl rfl rfl
  have a6 := a5.set1 (R' := { R with d := { R.d with k := x.k, r := x.r, b := x.b, i := x.i, s := x.s, d := x.d } }) 22 (.int .i64 x.d) rfl rfl rfl
  have a7 := a6.set1 (R' := { R with d := x }) 23 (.int .i64 x.m) rfl rfl rfl
  exact ⟨a7, (Ch.set (Ch.set (Ch.set (Ch.set (Ch.set (Ch.set (Ch.set h.2 17 _) 18 _) 19 _) 20 _) 21 _) 22 _) 23 _)⟩
theorem Wr.s {W0 w W : World} {g : Nat} {R : Rd} (h : Wr W0 w W g R) (x : Opd) : Wr W0 w (((((((W.setCell ⟨g, 24, none⟩ (.int .i64 x.k)).setCell ⟨g, 25, none⟩ (.int .i64 x.r)).setCell ⟨g, 26, none⟩ (.int .i64 x.b)).setCell ⟨g, 27, none⟩ (.int .i64 x.i)).setCell ⟨g, 28, none⟩ (.int .i64 x.s)).setCell ⟨g, 29, none⟩ (.int .i64 x.d)).setCell ⟨g, 30, none⟩ (.int .i64 x.m)) g { R with s := x } := by
  have a0 := h.1
  have a1 := a0.set1 (R' := { R with s := { R.s with k := x.k } }) 24 (.int .i64 x.k) rfl rfl rfl
  have a2 := a1.set1 (R' := { R with s := { R.s with k := x.k, r := x.r } }) 25 (.int .i64 x.r) rfl rfl rfl
  have a3 := a2.set1 (R' := { R with s := { R.s with k := x.k, r := x.r, b := x.b } }) 26 (.int .i64 x.b) rfl rfl rfl
  have a4 := a3.set1 (R' := { R with s := { R.s with k := x.k, r := x.r, b := x.b, i := x.i } }) 27 (.int .i64 x.i) rfl rfl rfl
  have a5 := a4.set1 (R' := { R with s := { R.s with k := x.k, r := x.r, b := x.b, i := x.i, s := x.s } }) 28 (.int .i64 x.s) rfl rfl rfl
  have a6 := a5.set1 (R' := { R with s := { R.s with k := x.k, r := x.r, b := x.b, i := x.i, s := x.s, d := x.d } }) 29 (.int .i64 x.d) rfl rfl rfl
  have a7 := a6.set1 (R' := { R with s := x }) 30 (.int .i64 x.m) rfl rfl rfl
  exact ⟨a7, (Ch.set (Ch.set (Ch.set (Ch.set (Ch.set (Ch.set (Ch.set h.2 24 _) 25 _) 26 _) 27 _) 28 _) 29 _) 30 _)⟩
theorem rd14 {W0 w : World} {g : Nat} {R : Rd} (h : At W0 w g R) : w.cell? ⟨g, 17, none⟩ = some (.int .i64 R.d.k) ∧ w.cell? ⟨g, 18, none⟩ = some (.int .i64 R.d.r) ∧ w.cell? ⟨g, 19, none⟩ = some (.int .i64 R.d.b) ∧ w.cell? ⟨g, 20, none⟩ = some (.int .i64 R.d.i) ∧ w.cell? ⟨g, 21, none⟩ = some (.int .i64 R.d.s) ∧ w.cell? ⟨g, 22, none⟩ = some (.int .i64 R.d.d) ∧ w.cell? ⟨g, 23, none⟩ = some (.int .i64 R.d.m) ∧ w.cell? ⟨g, 24, none⟩ = some (.int .i64 R.s.k) ∧ w.cell? ⟨g, 25, none⟩ = some (.int .i64 R.s.r) ∧ w.cell? ⟨g, 26, none⟩ = some (.int .i64 R.s.b) ∧ w.cell? ⟨g, 27, none⟩ = some (.int .i64 R.s.i) ∧ w.cell? ⟨g, 28, none⟩ = some (.int .i64 R.s.s) ∧ w.cell? ⟨g, 29, none⟩ = some (.int .i64 R.s.d) ∧ w.cell? ⟨g, 30, none⟩ = some (.int .i64 R.s.m) ∧ w.frozen? ⟨g, 17, none⟩ = false ∧ w.frozen? ⟨g, 18, none⟩ = false ∧ w.frozen? ⟨g, 19, none⟩ = false ∧ w.frozen? ⟨g, 20, none⟩ = false ∧ w.frozen? ⟨g, 21, none⟩ = false ∧ w.frozen? ⟨g, 22, none⟩ = false ∧ w.frozen? ⟨g, 23, none⟩ = false ∧ w.frozen? ⟨g, 24, none⟩ = false ∧ w.frozen? ⟨g, 25, none⟩ = false ∧ w.frozen? ⟨g, 26, none⟩ = false ∧ w.frozen? ⟨g, 27, none⟩ = false ∧ w.frozen? ⟨g, 28, none⟩ = false ∧ w.frozen? ⟨g, 29, none⟩ = false ∧ w.frozen? ⟨g, 30, none⟩ = false := by
  refine ⟨h.rb.cell 17, h.rb.cell 18, h.rb.cell 19, h.rb.cell 20, h.rb.cell 21, h.rb.cell 22, h.rb.cell 23, h.rb.cell 24, h.rb.cell 25, h.rb.cell 26, h.rb.cell 27, h.rb.cell 28, h.rb.cell 29, h.rb.cell 30, h.rb.free 17, h.rb.free 18, h.rb.free 19, h.rb.free 20, h.rb.free 21, h.rb.free 22, h.rb.free 23, h.rb.free 24, h.rb.free 25, h.rb.free 26, h.rb.free 27, h.rb.free 28, h.rb.free 29, h.rb.free 30⟩
theorem At.drew {W0 w : World} {g : Nat} {R : Rd} (h : At W0 w g R) : At W0 w.drew g R := h.below ((Below.refl _ _).drew)
theorem Wr.drew {W0 w W : World} {g : Nat} {R : Rd} (h : Wr W0 w W g R) : Wr W0 w W.drew g R := ⟨h.1.drew, h.2.trans ((Ch.refl _ _).drewN 1)⟩
theorem cell14 {W0 w : World} {g : Nat} {R : Rd} (h : At W0 w g R) : w.cell? ⟨g, 14, none⟩ = some (.int .i64 R.sz) := h.rb.cell 14
theorem cell16 {W0 w : World} {g : Nat} {R : Rd} (h : At W0 w g R) : w.cell? ⟨g, 16, none⟩ = some (.int .i64 R.fr) := h.rb.cell 16
set_option maxRecDepth 100000 in
set_option maxHeartbeats 4000000 in
theorem op5n (g : Nat) (R : Rd) (W0 w : World) (h : At W0 w g R) (hf : R.z.f = 5) (CP : Hid (∀ W, At W0 W g R → Calls Tryd.prog 97 #[.pointer (some ⟨g, 0, none⟩), .int .i64 R.sz] W fun e w' => e = endP ∧ Ch W w' g)) :
    Calls Tryd.prog 60 #[.pointer (some ⟨g, 0, none⟩)] w fun e w' => e = endP ∧ Ch w w' g := by
  have c6 := h.rb.cell 6
  have c14 := h.rb.cell 14
  simp only [rdA, List.getElem?_toArray, List.getElem?_cons_zero, List.getElem?_cons_succ] at c6 c14
  rw [hf] at c6
  have H := Lib.hid h
  clear h hf
  go_enter Tryd.func60, Tryd.ntmps60
  unfold endP at *
  go_wp2_with fail
  refine Calls.mono (CP.out _ H.out) ?_
  rintro e w1 ⟨rfl, hc⟩
  go_wp2
  exact ⟨rfl, rfl, hc⟩
set_option maxRecDepth 100000 in
set_option maxHeartbeats 4000000 in
theorem op4n (g : Nat) (R : Rd) (W0 w : World) (h : At W0 w g R) (hf : R.z.f = 4) (CP : Hid (∀ W, At W0 W g R → Calls Tryd.prog 97 #[.pointer (some ⟨g, 0, none⟩), .int .i64 R.sz] W fun e w' => e = endP ∧ Ch W w' g)) :
    Calls Tryd.prog 60 #[.pointer (some ⟨g, 0, none⟩)] w fun e w' => e = endP ∧ Ch w w' g := by
  have c6 := h.rb.cell 6
  have c14 := h.rb.cell 14
  simp only [rdA, List.getElem?_toArray, List.getElem?_cons_zero, List.getElem?_cons_succ] at c6 c14
  rw [hf] at c6
  have H := Lib.hid h
  clear h hf
  go_enter Tryd.func60, Tryd.ntmps60
  unfold endP at *
  go_wp2_with fail
  refine Calls.mono (CP.out _ H.out) ?_
  rintro e w1 ⟨rfl, hc⟩
  go_wp2
  exact ⟨rfl, rfl, hc⟩
set_option maxRecDepth 100000 in
set_option maxHeartbeats 4000000 in
theorem op11n (g : Nat) (R : Rd) (W0 w : World) (h : At W0 w g R) (hf : R.z.f = 11) (CP : Hid (∀ W, At W0 W g R → Calls Tryd.prog 97 #[.pointer (some ⟨g, 0, none⟩), .int .i64 R.sz] W fun e w' => e = endP ∧ Ch W w' g)) :
    Calls Tryd.prog 60 #[.pointer (some ⟨g, 0, none⟩)] w fun e w' => e = endP ∧ Ch w w' g := by
  have c6 := h.rb.cell 6
  have c14 := h.rb.cell 14
  simp only [rdA, List.getElem?_toArray, List.getElem?_cons_zero, List.getElem?_cons_succ] at c6 c14
  rw [hf] at c6
  have H := Lib.hid h
  clear h hf
  go_enter Tryd.func60, Tryd.ntmps60
  unfold endP at *
  go_wp2_with fail
  refine Calls.mono (CP.out _ H.out) ?_
  rintro e w1 ⟨rfl, hc⟩
  go_wp2
  exact ⟨rfl, rfl, hc⟩
set_option maxRecDepth 100000 in
set_option maxHeartbeats 4000000 in
theorem op12n (g : Nat) (R : Rd) (W0 w : World) (h : At W0 w g R) (hf : R.z.f = 12) (CP : Hid (∀ W, At W0 W g R → Calls Tryd.prog 97 #[.pointer (some ⟨g, 0, none⟩), .int .i64 R.sz] W fun e w' => e = endP ∧ Ch W w' g)) :
    Calls Tryd.prog 60 #[.pointer (some ⟨g, 0, none⟩)] w fun e w' => e = endP ∧ Ch w w' g := by
  have c6 := h.rb.cell 6
  have c14 := h.rb.cell 14
  simp only [rdA, List.getElem?_toArray, List.getElem?_cons_zero, List.getElem?_cons_succ] at c6 c14
  rw [hf] at c6
  have H := Lib.hid h
  clear h hf
  go_enter Tryd.func60, Tryd.ntmps60
  unfold endP at *
  go_wp2_with fail
  refine Calls.mono (CP.out _ H.out) ?_
  rintro e w1 ⟨rfl, hc⟩
  go_wp2
  exact ⟨rfl, rfl, hc⟩
set_option maxRecDepth 100000 in
set_option maxHeartbeats 4000000 in
theorem op13n (g : Nat) (R : Rd) (W0 w : World) (h : At W0 w g R) (hf : R.z.f = 13) (CP : Hid (∀ W, At W0 W g R → Calls Tryd.prog 97 #[.pointer (some ⟨g, 0, none⟩), .int .i64 R.sz] W fun e w' => e = endP ∧ Ch W w' g)) :
    Calls Tryd.prog 60 #[.pointer (some ⟨g, 0, none⟩)] w fun e w' => e = endP ∧ Ch w w' g := by
  have c6 := h.rb.cell 6
  have c14 := h.rb.cell 14
  simp only [rdA, List.getElem?_toArray, List.getElem?_cons_zero, List.getElem?_cons_succ] at c6 c14
  rw [hf] at c6
  have H := Lib.hid h
  clear h hf
  go_enter Tryd.func60, Tryd.ntmps60
  unfold endP at *
  go_wp2_with fail
  refine Calls.mono (CP.out _ H.out) ?_
  rintro e w1 ⟨rfl, hc⟩
  go_wp2
  exact ⟨rfl, rfl, hc⟩
set_option maxRecDepth 100000 in
set_option maxHeartbeats 4000000 in
theorem op12 (g : Nat) (R : Rd) (W0 w : World) (h : At W0 w g R) (hf : R.z.f = 12) (x : Opd) (n1 : Nat) (CP : Hid (∀ W, At W0 W g R → Calls Tryd.prog 97 #[.pointer (some ⟨g, 0, none⟩), .int .i64 R.sz] W fun e w' => e = .returned (V7 x) ∧ Wr W0 W w' g { R with n := n1 })) :
    Calls Tryd.prog 60 #[.pointer (some ⟨g, 0, none⟩)] w fun e w' => e = .returned (.tuple #[]) ∧ Wr W0 w w' g { R with n := n1, d := x, s := immOpd 1 } := by
  have c6 := h.rb.cell 6
  have c14 := h.rb.cell 14
  simp only [rdA, List.getElem?_toArray, List.getElem?_cons_zero, List.getElem?_cons_succ] at c6 c14
  rw [hf] at c6
  have H := Lib.hid h
  clear h hf
  go_enter Tryd.func60, Tryd.ntmps60
  go_wp2_with fail
  refine Calls.mono (CP.out _ H.out) ?_
  rintro e w1 ⟨rfl, h1⟩
  have k14 := cell14 h1.1; have k16 := cell16 h1.1
  simp only at k14 k16
  go_wp2_with fail
  refine Calls.mono (immOpdC _ _) ?_
  rintro e w2 ⟨rfl, hb⟩
  have h2 := h1.below hb
  clear h1 hb k14 k16
  obtain ⟨y17, y18, y19, y20, y21, y22, y23, y24, y25, y26, y27, y28, y29, y30, f17, f18, f19, f20, f21, f22, f23, f24, f25, f26, f27, f28, f29, f30⟩ := rd14 h2.1
  have H9 := Lib.hid h2
  clear h2
  try unfold V7
  go_wp2
  go_end0
  exact ⟨rfl, ((H9.out.d x).s (immOpd 1))⟩
set_option maxRecDepth 100000 in
set_option maxHeartbeats 4000000 in
theorem op13 (g : Nat) (R : Rd) (W0 w : World) (h : At W0 w g R) (hf : R.z.f = 13) (x : Opd) (n1 : Nat) (CP : Hid (∀ W, At W0 W g R → Calls Tryd.prog 97 #[.pointer (some ⟨g, 0, none⟩), .int .i64 R.sz] W fun e w' => e = .returned (V7 x) ∧ Wr W0 W w' g { R with n := n1 })) :
    Calls Tryd.prog 60 #[.pointer (some ⟨g, 0, none⟩)] w fun e w' => e = .returned (.tuple #[]) ∧ Wr W0 w w' g { R with n := n1, d := x, s := regOpd 1 } := by
  have c6 := h.rb.cell 6
  have c14 := h.rb.cell 14
  simp only [rdA, List.getElem?_toArray, List.getElem?_cons_zero, List.getElem?_cons_succ] at c6 c14
  rw [hf] at c6
  have H := Lib.hid h
  clear h hf
  go_enter Tryd.func60, Tryd.ntmps60
  go_wp2_with fail
  refine Calls.mono (CP.out _ H.out) ?_
  rintro e w1 ⟨rfl, h1⟩
  have k14 := cell14 h1.1; have k16 := cell16 h1.1
  simp only at k14 k16
  go_wp2_with fail
  refine Calls.mono (regOpdC _ _) ?_
  rintro e w2 ⟨rfl, hb⟩
  have h2 := h1.below hb
  clear h1 hb k14 k16
  obtain ⟨y17, y18, y19, y20, y21, y22, y23, y24, y25, y26, y27, y28, y29, y30, f17, f18, f19, f20, f21, f22, f23, f24, f25, f26, f27, f28, f29, f30⟩ := rd14 h2.1
  have H9 := Lib.hid h2
  clear h2
  try unfold V7
  go_wp2
  go_end0
  exact ⟨rfl, ((H9.out.d x).s (regOpd 1))⟩
set_option maxRecDepth 100000 in
set_option maxHeartbeats 4000000 in
theorem op5 (g : Nat) (R : Rd) (W0 w : World) (h : At W0 w g R) (hf : R.z.f = 5) (x : Opd) (n1 : Nat) (CP : Hid (∀ W, At W0 W g R → Calls Tryd.prog 97 #[.pointer (some ⟨g, 0, none⟩), .int .i64 R.sz] W fun e w' => e = .returned (V7 x) ∧ Wr W0 W w' g { R with n := n1 })) (y : Opd) (n2 : Nat) (CN : Hid (∀ W, At W0 W g { R with n := n1 } → Calls Tryd.prog 99 #[.pointer (some ⟨g, 0, none⟩)] W fun e w' => e = .returned (V7 y) ∧ Wr W0 W w' g { R with n := n2 })) :
    Calls Tryd.prog 60 #[.pointer (some ⟨g, 0, none⟩)] w fun e w' => e = .returned (.tuple #[]) ∧ Wr W0 w w' g { R with n := n2, d := x, s := y } := by
  have c6 := h.rb.cell 6
  have c14 := h.rb.cell 14
  simp only [rdA, List.getElem?_toArray, List.getElem?_cons_zero, List.getElem?_cons_succ] at c6 c14
  rw [hf] at c6
  have H := Lib.hid h
  clear h hf
  go_enter Tryd.func60, Tryd.ntmps60
  go_wp2_with fail
  refine Calls.mono (CP.out _ H.out) ?_
  rintro e w1 ⟨rfl, h1⟩
  have k14 := cell14 h1.1; have k16 := cell16 h1.1
  simp only at k14 k16
  go_wp2_with fail
  refine Calls.mono (CN.out _ h1.1) ?_
  rintro e w2 ⟨rfl, hb⟩
  have h2 := h1.trans hb
  clear h1 hb k14 k16
  obtain ⟨y17, y18, y19, y20, y21, y22, y23, y24, y25, y26, y27, y28, y29, y30, f17, f18, f19, f20, f21, f22, f23, f24, f25, f26, f27, f28, f29, f30⟩ := rd14 h2.1
  have H9 := Lib.hid h2
  clear h2
  try unfold V7
  go_wp2
  go_end0
  exact ⟨rfl, ((H9.out.d x).s y)⟩
set_option maxRecDepth 100000 in
set_option maxHeartbeats 4000000 in
theorem op5m (g : Nat) (R : Rd) (W0 w : World) (h : At W0 w g R) (hf : R.z.f = 5) (x : Opd) (n1 : Nat) (CP : Hid (∀ W, At W0 W g R → Calls Tryd.prog 97 #[.pointer (some ⟨g, 0, none⟩), .int .i64 R.sz] W fun e w' => e = .returned (V7 x) ∧ Wr W0 W w' g { R with n := n1 })) (CN : Hid (∀ W, At W0 W g { R with n := n1 } → Calls Tryd.prog 99 #[.pointer (some ⟨g, 0, none⟩)] W fun e w' => e = endP ∧ Ch W w' g)) :
    Calls Tryd.prog 60 #[.pointer (some ⟨g, 0, none⟩)] w fun e w' => e = endP ∧ Ch w w' g := by
  have c6 := h.rb.cell 6
  have c14 := h.rb.cell 14
  simp only [rdA, List.getElem?_toArray, List.getElem?_cons_zero, List.getElem?_cons_succ] at c6 c14
  rw [hf] at c6
  have H := Lib.hid h
  clear h hf
  go_enter Tryd.func60, Tryd.ntmps60
  go_wp2_with fail
  refine Calls.mono (CP.out _ H.out) ?_
  rintro e w1 ⟨rfl, h1⟩
  have k14 := cell14 h1.1; have k16 := cell16 h1.1
  simp only at k14 k16
  unfold endP at *
  go_wp2_with fail
  refine Calls.mono (CN.out _ h1.1) ?_
  rintro e w2 ⟨rfl, hc⟩
  go_wp2
  exact ⟨rfl, rfl, h1.2.trans hc⟩
set_option maxRecDepth 100000 in
set_option maxHeartbeats 4000000 in
theorem op4 (g : Nat) (R : Rd) (W0 w : World) (h : At W0 w g R) (hf : R.z.f = 4) (x : Opd) (n1 : Nat) (CP : Hid (∀ W, At W0 W g R → Calls Tryd.prog 97 #[.pointer (some ⟨g, 0, none⟩), .int .i64 R.sz] W fun e w' => e = .returned (V7 x) ∧ Wr W0 W w' g { R with n := n1 })) (y : Opd) (n2 : Nat) (CN : Hid (∀ W, At W0 W g { R with n := n1 } → Calls Tryd.prog 100 #[.pointer (some ⟨g, 0, none⟩)] W fun e w' => e = .returned (V7 y) ∧ Wr W0 W w' g { R with n := n2 })) :
    Calls Tryd.prog 60 #[.pointer (some ⟨g, 0, none⟩)] w fun e w' => e = .returned (.tuple #[]) ∧ Wr W0 w w' g { R with n := n2, d := x, s := y } := by
  have c6 := h.rb.cell 6
  have c14 := h.rb.cell 14
  simp only [rdA, List.getElem?_toArray, List.getElem?_cons_zero, List.getElem?_cons_succ] at c6 c14
  rw [hf] at c6
  have H := Lib.hid h
  clear h hf
  go_enter Tryd.func60, Tryd.ntmps60
  go_wp2_with fail
  refine Calls.mono (CP.out _ H.out) ?_
  rintro e w1 ⟨rfl, h1⟩
  have k14 := cell14 h1.1; have k16 := cell16 h1.1
  simp only at k14 k16
  go_wp2_with fail
  refine Calls.mono (CN.out _ h1.1) ?_
  rintro e w2 ⟨rfl, hb⟩
  have h2 := h1.trans hb
  clear h1 hb k14 k16
  obtain ⟨y17, y18, y19, y20, y21, y22, y23, y24, y25, y26, y27, y28, y29, y30, f17, f18, f19, f20, f21, f22, f23, f24, f25, f26, f27, f28, f29, f30⟩ := rd14 h2.1
  have H9 := Lib.hid h2
  clear h2
  try unfold V7
  go_wp2
  go_end0
  exact ⟨rfl, ((H9.out.d x).s y)⟩
set_option maxRecDepth 100000 in
set_option maxHeartbeats 4000000 in
theorem op4m (g : Nat) (R : Rd) (W0 w : World) (h : At W0 w g R) (hf : R.z.f = 4) (x : Opd) (n1 : Nat) (CP : Hid (∀ W, At W0 W g R → Calls Tryd.prog 97 #[.pointer (some ⟨g, 0, none⟩), .int .i64 R.sz] W fun e w' => e = .returned (V7 x) ∧ Wr W0 W w' g { R with n := n1 })) (CN : Hid (∀ W, At W0 W g { R with n := n1 } → Calls Tryd.prog 100 #[.pointer (some ⟨g, 0, none⟩)] W fun e w' => e = endP ∧ Ch W w' g)) :
    Calls Tryd.prog 60 #[.pointer (some ⟨g, 0, none⟩)] w fun e w' => e = endP ∧ Ch w w' g := by
  have c6 := h.rb.cell 6
  have c14 := h.rb.cell 14
  simp only [rdA, List.getElem?_toArray, List.getElem?_cons_zero, List.getElem?_cons_succ] at c6 c14
  rw [hf] at c6
  have H := Lib.hid h
  clear h hf
  go_enter Tryd.func60, Tryd.ntmps60
  go_wp2_with fail
  refine Calls.mono (CP.out _ H.out) ?_
  rintro e w1 ⟨rfl, h1⟩
  have k14 := cell14 h1.1; have k16 := cell16 h1.1
  simp only at k14 k16
  unfold endP at *
  go_wp2_with fail
  refine Calls.mono (CN.out _ h1.1) ?_
  rintro e w2 ⟨rfl, hc⟩
  go_wp2
  exact ⟨rfl, rfl, h1.2.trans hc⟩
set_option maxRecDepth 100000 in
set_option maxHeartbeats 4000000 in
theorem op11 (g : Nat) (R : Rd) (W0 w : World) (h : At W0 w g R) (hf : R.z.f = 11) (x : Opd) (n1 : Nat) (CP : Hid (∀ W, At W0 W g R → Calls Tryd.prog 97 #[.pointer (some ⟨g, 0, none⟩), .int .i64 R.sz] W fun e w' => e = .returned (V7 x) ∧ Wr W0 W w' g { R with n := n1 })) (y : Opd) (n2 : Nat) (CN : Hid (∀ W, At W0 W g { R with n := n1 } → Calls Tryd.prog 100 #[.pointer (some ⟨g, 0, none⟩)] W fun e w' => e = .returned (V7 y) ∧ Wr W0 W w' g { R with n := n2 })) :
    Calls Tryd.prog 60 #[.pointer (some ⟨g, 0, none⟩)] w fun e w' => e = .returned (.tuple #[]) ∧ Wr W0 w w' g { R with n := n2, d := x, s := y } := by
  have c6 := h.rb.cell 6
  have c14 := h.rb.cell 14
  simp only [rdA, List.getElem?_toArray, List.getElem?_cons_zero, List.getElem?_cons_succ] at c6 c14
  rw [hf] at c6
  have H := Lib.hid h
  clear h hf
  go_enter Tryd.func60, Tryd.ntmps60
  go_wp2_with fail
  refine Calls.mono (CP.out _ H.out) ?_
  rintro e w1 ⟨rfl, h1⟩
  have k14 := cell14 h1.1; have k16 := cell16 h1.1
  simp only at k14 k16
  go_wp2_with fail
  refine Calls.mono (CN.out _ h1.1) ?_
  rintro e w2 ⟨rfl, hb⟩
  have h2 := h1.trans hb
  clear h1 hb k14 k16
  obtain ⟨y17, y18, y19, y20, y21, y22, y23, y24, y25, y26, y27, y28, y29, y30, f17, f18, f19, f20, f21, f22, f23, f24, f25, f26, f27, f28, f29, f30⟩ := rd14 h2.1
  have H9 := Lib.hid h2
  clear h2
  try unfold V7
  go_wp2
  go_end0
  exact ⟨rfl, ((H9.out.d x).s y)⟩
set_option maxRecDepth 100000 in
set_option maxHeartbeats 4000000 in
theorem op11m (g : Nat) (R : Rd) (W0 w : World) (h : At W0 w g R) (hf : R.z.f = 11) (x : Opd) (n1 : Nat) (CP : Hid (∀ W, At W0 W g R → Calls Tryd.prog 97 #[.pointer (some ⟨g, 0, none⟩), .int .i64 R.sz] W fun e w' => e = .returned (V7 x) ∧ Wr W0 W w' g { R with n := n1 })) (CN : Hid (∀ W, At W0 W g { R with n := n1 } → Calls Tryd.prog 100 #[.pointer (some ⟨g, 0, none⟩)] W fun e w' => e = endP ∧ Ch W w' g)) :
    Calls Tryd.prog 60 #[.pointer (some ⟨g, 0, none⟩)] w fun e w' => e = endP ∧ Ch w w' g := by
  have c6 := h.rb.cell 6
  have c14 := h.rb.cell 14
  simp only [rdA, List.getElem?_toArray, List.getElem?_cons_zero, List.getElem?_cons_succ] at c6 c14
  rw [hf] at c6
  have H := Lib.hid h
  clear h hf
  go_enter Tryd.func60, Tryd.ntmps60
  go_wp2_with fail
  refine Calls.mono (CP.out _ H.out) ?_
  rintro e w1 ⟨rfl, h1⟩
  have k14 := cell14 h1.1; have k16 := cell16 h1.1
  simp only at k14 k16
  unfold endP at *
  go_wp2_with fail
  refine Calls.mono (CN.out _ h1.1) ?_
  rintro e w2 ⟨rfl, hc⟩
  go_wp2
  exact ⟨rfl, rfl, h1.2.trans hc⟩
set_option maxRecDepth 100000 in
set_option maxHeartbeats 4000000 in
theorem op3 (g : Nat) (R : Rd) (W0 w : World) (h : At W0 w g R) (hf : R.z.f = 3) (y : Opd) (n1 : Nat) (CN : Hid (∀ W, At W0 W g R → Calls Tryd.prog 99 #[.pointer (some ⟨g, 0, none⟩)] W fun e w' => e = .returned (V7 y) ∧ Wr W0 W w' g { R with n := n1 })) :
    Calls Tryd.prog 60 #[.pointer (some ⟨g, 0, none⟩)] w fun e w' => e = .returned (.tuple #[]) ∧ Wr W0 w w' g { R with n := n1, d := regOpd 0, s := y } := by
  have c6 := h.rb.cell 6
  have c14 := h.rb.cell 14
  simp only [rdA, List.getElem?_toArray, List.getElem?_cons_zero, List.getElem?_cons_succ] at c6 c14
  rw [hf] at c6
  have H := Lib.hid h
  clear h hf
  go_enter Tryd.func60, Tryd.ntmps60
  go_wp2_with fail
  refine Calls.mono (regOpdC _ _) ?_
  rintro e w1 ⟨rfl, hb⟩
  go_wp2_with fail
  refine Calls.mono (CN.out _ (H.out.below hb)) ?_
  rintro e w2 ⟨rfl, h1⟩
  have h2 := Wr.pre hb h1
  clear h1 hb
  obtain ⟨y17, y18, y19, y20, y21, y22, y23, y24, y25, y26, y27, y28, y29, y30, f17, f18, f19, f20, f21, f22, f23, f24, f25, f26, f27, f28, f29, f30⟩ := rd14 h2.1
  have H9 := Lib.hid h2
  clear h2
  try unfold V7
  go_wp2
  go_end0
  exact ⟨rfl, ((H9.out.d (regOpd 0)).s y)⟩
set_option maxRecDepth 100000 in
set_option maxHeartbeats 4000000 in
theorem op3n (g : Nat) (R : Rd) (W0 w : World) (h : At W0 w g R) (hf : R.z.f = 3) (CN : Hid (∀ W, At W0 W g R → Calls Tryd.prog 99 #[.pointer (some ⟨g, 0, none⟩)] W fun e w' => e = endP ∧ Ch W w' g)) :
    Calls Tryd.prog 60 #[.pointer (some ⟨g, 0, none⟩)] w fun e w' => e = endP ∧ Ch w w' g := by
  have c6 := h.rb.cell 6
  have c14 := h.rb.cell 14
  simp only [rdA, List.getElem?_toArray, List.getElem?_cons_zero, List.getElem?_cons_succ] at c6 c14
  rw [hf] at c6
  have H := Lib.hid h
  clear h hf
  go_enter Tryd.func60, Tryd.ntmps60
  go_wp2_with fail
  refine Calls.mono (regOpdC _ _) ?_
  rintro e w1 ⟨rfl, hb⟩
  unfold endP at *
  go_wp2_with fail
  refine Calls.mono (CN.out _ (H.out.below hb)) ?_
  rintro e w2 ⟨rfl, hc⟩
  go_wp2
  exact ⟨rfl, rfl, (Ch.of_below hb).trans hc⟩
set_option maxRecDepth 100000 in
set_option maxHeartbeats 4000000 in
theorem op9 (g : Nat) (R : Rd) (W0 w : World) (h : At W0 w g R) (hf : R.z.f = 9) (y : Opd) (n1 : Nat) (CN : Hid (∀ W, At W0 W g R → Calls Tryd.prog 100 #[.pointer (some ⟨g, 0, none⟩)] W fun e w' => e = .returned (V7 y) ∧ Wr W0 W w' g { R with n := n1 })) :
    Calls Tryd.prog 60 #[.pointer (some ⟨g, 0, none⟩)] w fun e w' => e = .returned (.tuple #[]) ∧ Wr W0 w w' g { R with n := n1, s := y } := by
  have c6 := h.rb.cell 6
  have c14 := h.rb.cell 14
  simp only [rdA, List.getElem?_toArray, List.getElem?_cons_zero, List.getElem?_cons_succ] at c6 c14
  rw [hf] at c6
  have H := Lib.hid h
  clear h hf
  go_enter Tryd.func60, Tryd.ntmps60
  go_wp2_with fail
  refine Calls.mono (CN.out _ H.out) ?_
  rintro e w2 ⟨rfl, h2⟩
  obtain ⟨y17, y18, y19, y20, y21, y22, y23, y24, y25, y26, y27, y28, y29, y30, f17, f18, f19, f20, f21, f22, f23, f24, f25, f26, f27, f28, f29, f30⟩ := rd14 h2.1
  have H9 := Lib.hid h2
  clear h2
  try unfold V7
  go_wp2
  go_end0
  exact ⟨rfl, (H9.out.s y)⟩
set_option maxRecDepth 100000 in
set_option maxHeartbeats 4000000 in
theorem op9n (g : Nat) (R : Rd) (W0 w : World) (h : At W0 w g R) (hf : R.z.f = 9) (CN : Hid (∀ W, At W0 W g R → Calls Tryd.prog 100 #[.pointer (some ⟨g, 0, none⟩)] W fun e w' => e = endP ∧ Ch W w' g)) :
    Calls Tryd.prog 60 #[.pointer (some ⟨g, 0, none⟩)] w fun e w' => e = endP ∧ Ch w w' g := by
  have c6 := h.rb.cell 6
  have c14 := h.rb.cell 14
  simp only [rdA, List.getElem?_toArray, List.getElem?_cons_zero, List.getElem?_cons_succ] at c6 c14
  rw [hf] at c6
  have H := Lib.hid h
  clear h hf
  go_enter Tryd.func60, Tryd.ntmps60
  unfold endP at *
  go_wp2_with fail
  refine Calls.mono (CN.out _ H.out) ?_
  rintro e w2 ⟨rfl, hc⟩
  go_wp2
  exact ⟨rfl, rfl, hc⟩
set_option maxRecDepth 100000 in
set_option maxHeartbeats 4000000 in
theorem op15 (g : Nat) (R : Rd) (W0 w : World) (h : At W0 w g R) (hf : R.z.f = 15) (y : Opd) (n1 : Nat) (CN : Hid (∀ W, At W0 W g R → Calls Tryd.prog 100 #[.pointer (some ⟨g, 0, none⟩)] W fun e w' => e = .returned (V7 y) ∧ Wr W0 W w' g { R with n := n1 })) :
    Calls Tryd.prog 60 #[.pointer (some ⟨g, 0, none⟩)] w fun e w' => e = .returned (.tuple #[]) ∧ Wr W0 w w' g { R with n := n1, s := y } := by
  have c6 := h.rb.cell 6
  have c14 := h.rb.cell 14
  simp only [rdA, List.getElem?_toArray, List.getElem?_cons_zero, List.getElem?_cons_succ] at c6 c14
  rw [hf] at c6
  have H := Lib.hid h
  clear h hf
  go_enter Tryd.func60, Tryd.ntmps60
  go_wp2_with fail
  refine Calls.mono (CN.out _ H.out) ?_
  rintro e w2 ⟨rfl, h2⟩
  obtain ⟨y17, y18, y19, y20, y21, y22, y23, y24, y25, y26, y27, y28, y29, y30, f17, f18, f19, f20, f21, f22, f23, f24, f25, f26, f27, f28, f29, f30⟩ := rd14 h2.1
  have H9 := Lib.hid h2
  clear h2
  try unfold V7
  go_wp2
  go_end0
  exact ⟨rfl, (H9.out.s y)⟩
set_option maxRecDepth 100000 in
set_option maxHeartbeats 4000000 in
theorem op15n (g : Nat) (R : Rd) (W0 w : World) (h : At W0 w g R) (hf : R.z.f = 15) (CN : Hid (∀ W, At W0 W g R → Calls Tryd.prog 100 #[.pointer (some ⟨g, 0, none⟩)] W fun e w' => e = endP ∧ Ch W w' g)) :
    Calls Tryd.prog 60 #[.pointer (some ⟨g, 0, none⟩)] w fun e w' => e = endP ∧ Ch w w' g := by
  have c6 := h.rb.cell 6
  have c14 := h.rb.cell 14
  simp only [rdA, List.getElem?_toArray, List.getElem?_cons_zero, List.getElem?_cons_succ] at c6 c14
  rw [hf] at c6
  have H := Lib.hid h
  clear h hf
  go_enter Tryd.func60, Tryd.ntmps60
  unfold endP at *
  go_wp2_with fail
  refine Calls.mono (CN.out _ H.out) ?_
  rintro e w2 ⟨rfl, hc⟩
  go_wp2
  exact ⟨rfl, rfl, hc⟩
set_option maxRecDepth 100000 in
set_option maxHeartbeats 4000000 in
theorem op10 (g : Nat) (R : Rd) (W0 w : World) (h : At W0 w g R) (hf : R.z.f = 10) (v : Int) (n1 : Nat) (CN : Hid (∀ W, At W0 W g R → Calls Tryd.prog 102 #[.pointer (some ⟨g, 0, none⟩), .int .i64 4] W fun e w' => e = .returned (.int .i64 v) ∧ Wr W0 W w' g { R with n := n1 })) :
    Calls Tryd.prog 60 #[.pointer (some ⟨g, 0, none⟩)] w fun e w' => e = .returned (.tuple #[]) ∧ Wr W0 w w' g { R with n := n1, s := immOpd v } := by
  have c6 := h.rb.cell 6
  have c14 := h.rb.cell 14
  simp only [rdA, List.getElem?_toArray, List.getElem?_cons_zero, List.getElem?_cons_succ] at c6 c14
  rw [hf] at c6
  have H := Lib.hid h
  clear h hf
  go_enter Tryd.func60, Tryd.ntmps60
  go_wp2_with fail
  refine Calls.mono (CN.out _ H.out) ?_
  rintro e w1 ⟨rfl, h1⟩
  go_wp2_with fail
  refine Calls.mono (immOpdC _ _) ?_
  rintro e w2 ⟨rfl, hb⟩
  have h2 := h1.below hb
  clear h1 hb
  obtain ⟨y17, y18, y19, y20, y21, y22, y23, y24, y25, y26, y27, y28, y29, y30, f17, f18, f19, f20, f21, f22, f23, f24, f25, f26, f27, f28, f29, f30⟩ := rd14 h2.1
  have H9 := Lib.hid h2
  clear h2
  try unfold V7
  go_wp2
  go_end0
  exact ⟨rfl, (H9.out.s (immOpd v))⟩
set_option maxRecDepth 100000 in
set_option maxHeartbeats 4000000 in
theorem op10n (g : Nat) (R : Rd) (W0 w : World) (h : At W0 w g R) (hf : R.z.f = 10) (CN : Hid (∀ W, At W0 W g R → Calls Tryd.prog 102 #[.pointer (some ⟨g, 0, none⟩), .int .i64 4] W fun e w' => e = endP ∧ Ch W w' g)) :
    Calls Tryd.prog 60 #[.pointer (some ⟨g, 0, none⟩)] w fun e w' => e = endP ∧ Ch w w' g := by
  have c6 := h.rb.cell 6
  have c14 := h.rb.cell 14
  simp only [rdA, List.getElem?_toArray, List.getElem?_cons_zero, List.getElem?_cons_succ] at c6 c14
  rw [hf] at c6
  have H := Lib.hid h
  clear h hf
  go_enter Tryd.func60, Tryd.ntmps60
  unfold endP at *
  go_wp2_with fail
  refine Calls.mono (CN.out _ H.out) ?_
  rintro e w2 ⟨rfl, hc⟩
  go_wp2
  exact ⟨rfl, rfl, hc⟩
set_option maxRecDepth 100000 in
set_option maxHeartbeats 4000000 in
theorem op16 (g : Nat) (R : Rd) (W0 w : World) (h : At W0 w g R) (hf : R.z.f = 16) (v : Int) (n1 : Nat) (CN : Hid (∀ W, At W0 W g R → Calls Tryd.prog 102 #[.pointer (some ⟨g, 0, none⟩), .int .i64 4] W fun e w' => e = .returned (.int .i64 v) ∧ Wr W0 W w' g { R with n := n1 })) :
    Calls Tryd.prog 60 #[.pointer (some ⟨g, 0, none⟩)] w fun e w' => e = .returned (.tuple #[]) ∧ Wr W0 w w' g { R with n := n1, s := immOpd v } := by
  have c6 := h.rb.cell 6
  have c14 := h.rb.cell 14
  simp only [rdA, List.getElem?_toArray, List.getElem?_cons_zero, List.getElem?_cons_succ] at c6 c14
  rw [hf] at c6
  have H := Lib.hid h
  clear h hf
  go_enter Tryd.func60, Tryd.ntmps60
  go_wp2_with fail
  refine Calls.mono (CN.out _ H.out) ?_
  rintro e w1 ⟨rfl, h1⟩
  go_wp2_with fail
  refine Calls.mono (immOpdC _ _) ?_
  rintro e w2 ⟨rfl, hb⟩
  have h2 := h1.below hb
  clear h1 hb
  obtain ⟨y17, y18, y19, y20, y21, y22, y23, y24, y25, y26, y27, y28, y29, y30, f17, f18, f19, f20, f21, f22, f23, f24, f25, f26, f27, f28, f29, f30⟩ := rd14 h2.1
  have H9 := Lib.hid h2
  clear h2
  try unfold V7
  go_wp2
  go_end0
  exact ⟨rfl, (H9.out.s (immOpd v))⟩
set_option maxRecDepth 100000 in
set_option maxHeartbeats 4000000 in
theorem op16n (g : Nat) (R : Rd) (W0 w : World) (h : At W0 w g R) (hf : R.z.f = 16) (CN : Hid (∀ W, At W0 W g R → Calls Tryd.prog 102 #[.pointer (some ⟨g, 0, none⟩), .int .i64 4] W fun e w' => e = endP ∧ Ch W w' g)) :
    Calls Tryd.prog 60 #[.pointer (some ⟨g, 0, none⟩)] w fun e w' => e = endP ∧ Ch w w' g := by
  have c6 := h.rb.cell 6
  have c14 := h.rb.cell 14
  simp only [rdA, List.getElem?_toArray, List.getElem?_cons_zero, List.getElem?_cons_succ] at c6 c14
  rw [hf] at c6
  have H := Lib.hid h
  clear h hf
  go_enter Tryd.func60, Tryd.ntmps60
  unfold endP at *
  go_wp2_with fail
  refine Calls.mono (CN.out _ H.out) ?_
  rintro e w2 ⟨rfl, hc⟩
  go_wp2
  exact ⟨rfl, rfl, hc⟩
set_option maxRecDepth 100000 in
set_option maxHeartbeats 4000000 in
theorem op14 (g : Nat) (R : Rd) (W0 w : World) (h : At W0 w g R) (hf : R.z.f = 14)  :
    Calls Tryd.prog 60 #[.pointer (some ⟨g, 0, none⟩)] w fun e w' => e = .returned (.tuple #[]) ∧ w' = w := by
  have c6 := h.rb.cell 6
  have c14 := h.rb.cell 14
  simp only [rdA, List.getElem?_toArray, List.getElem?_cons_zero, List.getElem?_cons_succ] at c6 c14
  rw [hf] at c6
  have H := Lib.hid h
  clear h hf
  go_enter Tryd.func60, Tryd.ntmps60
  go_wp2
  go_end0
  exact ⟨rfl, rfl⟩
end Go.Proofs.YtinjpobepcenfaaDoor
