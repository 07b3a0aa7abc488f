/-
  What operands of impl's reader does at the forms whose statement leaves its order open; conditions: those in each head.
-/
import Derived.Test.YtinjpobepcenfaaDoorWalkRd6
import Derived.Deep.RegionHeld3
import Derived.Deep.RegionHeld2
namespace Go.Proofs.YtinjpobepcenfaaDoor
open Go.RowKit Go.Sort
set_option linter.unusedVariables false
theorem keepD {w : World} {g i : Nat} {u : Value} {x0 x1 x2 x3 x4 x5 x6 : Value} (h : w.cell? ⟨g, i, none⟩ = some u) (hi : i < 17) : (((((((w.setCell ⟨g, 17, none⟩ x0).setCell ⟨g, 18, none⟩ x1).setCell ⟨g, 19, none⟩ x2).setCell ⟨g, 20, none⟩ x3).setCell ⟨g, 21, none⟩ x4).setCell ⟨g, 22, none⟩ x5).setCell ⟨g, 23, none⟩ x6).cell? ⟨g, i, none⟩ = some u := by
  rw [World.cell?_setCell_other _ _ _ _ (fun e => by have := (Addr.mk.inj e).2.1; omega), World.cell?_setCell_other _ _ _ _ (fun e => by have := (Addr.mk.inj e).2.1; omega), World.cell?_setCell_other _ _ _ _ (fun e => by have := (Addr.mk.inj e).2.1; omega), World.cell?_setCell_other _ _ _ _ (fun e => by have := (Addr.mk.inj e).2.1; omega), World.cell?_setCell_other _ _ _ _ (fun e => by have := (Addr.mk.inj e).2.1; omega), World.cell?_setCell_other _ _ _ _ (fun e => by have := (Addr.mk.inj e).2.1; omega), World.cell?_setCell_other _ _ _ _ (fun e => by have := (Addr.mk.inj e).2.1; omega)]; exact h
theorem keepS {w : World} {g i : Nat} {u : Value} {x0 x1 x2 x3 x4 x5 x6 : Value} (h : w.cell? ⟨g, i, none⟩ = some u) (hi : i < 17) : (((((((w.setCell ⟨g, 24, none⟩ x0).setCell ⟨g, 25, none⟩ x1).setCell ⟨g, 26, none⟩ x2).setCell ⟨g, 27, none⟩ x3).setCell ⟨g, 28, none⟩ x4).setCell ⟨g, 29, none⟩ x5).setCell ⟨g, 30, none⟩ x6).cell? ⟨g, i, none⟩ = some u := by
  rw [World.cell?_setCell_other _ _ _ _ (fun e => by have := (Addr.mk.inj e).2.1; omega), World.cell?_setCell_other _ _ _ _ (fun e => by have := (Addr.mk.inj e).2.1; omega), World.cell?_setCell_other _ _ _ _ (fun e => by have := (Addr.mk.inj e).2.1; omega), World.cell?_setCell_other _ _ _ _ (fun e => by have := (Addr.mk.inj e).2.1; omega), World.cell?_setCell_other _ _ _ _ (fun e => by have := (Addr.mk.inj e).2.1; omega), World.cell?_setCell_other _ _ _ _ (fun e => by have := (Addr.mk.inj e).2.1; omega), World.cell?_setCell_other _ _ _ _ (fun e => by have := (Addr.mk.inj e).2.1; omega)]; exact h
set_option maxRecDepth 100000 in
set_option maxHeartbeats 4000000 in
theorem op1 (g : Nat) (R : Rd) (W0 w : World) (h : At W0 w g R) (hf : R.z.f = 1) (x : Opd) (n1 : Nat) (CP : Hid (∀ W, At W0 W g R → Calls Tryd.prog 97 #[.pointer (some ⟨g, 0, none⟩), .int .i64 R.sz] W fun e w' => e = .returned (V7 x) ∧ Wr W0 W w' g { R with n := n1 })) (z : Opd) (CR : Hid (∀ W, At W0 W g { R with n := n1 } → Calls Tryd.prog 98 #[.pointer (some ⟨g, 0, none⟩), .int .i64 R.sz] W fun e w' => e = .returned (V7 z) ∧ Below W.heap.size W w')) :
    Calls Tryd.prog 60 #[.pointer (some ⟨g, 0, none⟩)] w fun e w' => e = .returned (.tuple #[]) ∧ Wr W0 w w' g { R with n := n1, d := x, s := z } := by
  have c6 := h.rb.cell 6
  have c14 := h.rb.cell 14
  simp only [rdA, List.getElem?_toArray, List.getElem?_cons_zero, List.getElem?_cons_succ] at c6 c14
  rw [hf] at c6
  have H := Lib.hid h
  clear h hf
  go_enter Tryd.func60, Tryd.ntmps60
  unfold V7 at *
  go_wp2_with fail
  go_region_held3 (fun w' => w'.cell? ⟨g, 14, none⟩ = some (.int .i64 R.sz)) (first | (with_reducible exact c14) | (with_reducible exact k14a) | (with_reducible exact k14b) | (with_reducible exact keepD k14b (by decide)) | (with_reducible exact keepS k14b (by decide)) | (with_reducible exact keepS (keepD k14b (by decide)) (by decide)) | (with_reducible exact keepD (keepS k14b (by decide)) (by decide)) | go_keep) (first | (go_at_call 97; (with_reducible refine Calls.mono (CP.out _ ?hh) ?_); (case hh => exact H.out.drew); rintro e w1 ⟨rfl, h1⟩; have h0 := rfl (a := g); have k14a := cell14 h1.1; have k16a := cell16 h1.1) | (go_at_call 98; (with_reducible refine Calls.mono (CR.out _ ?hh) ?_); (case hh => exact h1.1); rintro e w2 ⟨rfl, hb⟩; have h2 := Wr.below (Wr.pre ((Below.refl w.heap.size w).drew) h1) hb; have k14b := cell14 h2.1; have k16b := cell16 h2.1; obtain ⟨y17, y18, y19, y20, y21, y22, y23, y24, y25, y26, y27, y28, y29, y30, f17, f18, f19, f20, f21, f22, f23, f24, f25, f26, f27, f28, f29, f30⟩ := rd14 h2.1))
  all_goals
    have H9 := Lib.hid h2
    clear h2
    go_wp2
    go_end0
    exact ⟨rfl, (H9.out.d x).s z⟩
set_option maxRecDepth 100000 in
set_option maxHeartbeats 4000000 in
theorem op2 (g : Nat) (R : Rd) (W0 w : World) (h : At W0 w g R) (hf : R.z.f = 2) (x : Opd) (n1 : Nat) (CP : Hid (∀ W, At W0 W g R → Calls Tryd.prog 97 #[.pointer (some ⟨g, 0, none⟩), .int .i64 R.sz] W fun e w' => e = .returned (V7 x) ∧ Wr W0 W w' g { R with n := n1 })) (z : Opd) (CR : Hid (∀ W, At W0 W g R → Calls Tryd.prog 98 #[.pointer (some ⟨g, 0, none⟩), .int .i64 R.sz] W fun e w' => e = .returned (V7 z) ∧ Below W.heap.size W w')) :
    Calls Tryd.prog 60 #[.pointer (some ⟨g, 0, none⟩)] w fun e w' => e = .returned (.tuple #[]) ∧ Wr W0 w w' g { R with n := n1, d := z, s := x } := by
  have c6 := h.rb.cell 6
  have c14 := h.rb.cell 14
  simp only [rdA, List.getElem?_toArray, List.getElem?_cons_zero, List.getElem?_cons_succ] at c6 c14
  rw [hf] at c6
  have H := Lib.hid h
  clear h hf
  go_enter Tryd.func60, Tryd.ntmps60
  unfold V7 at *
  go_wp2_with fail
  go_region_held3 (fun w' => w'.cell? ⟨g, 14, none⟩ = some (.int .i64 R.sz)) (first | (with_reducible exact c14) | (with_reducible exact k14a) | (with_reducible exact k14b) | (with_reducible exact keepD k14b (by decide)) | (with_reducible exact keepS k14b (by decide)) | (with_reducible exact keepS (keepD k14b (by decide)) (by decide)) | (with_reducible exact keepD (keepS k14b (by decide)) (by decide)) | go_keep) (first | (go_at_call 98; (with_reducible refine Calls.mono (CR.out _ ?hh) ?_); (case hh => exact H.out.drew); rintro e w1 ⟨rfl, hb⟩; have h1 := H.out.drew.below hb; have k14a := cell14 h1; have k16a := cell16 h1) | (go_at_call 97; (with_reducible refine Calls.mono (CP.out _ ?hh) ?_); (case hh => exact h1); rintro e w2 ⟨rfl, h3⟩; have h2 := Wr.pre ((Below.refl w.heap.size w).drew) (Wr.pre hb h3); have k14b := cell14 h2.1; have k16b := cell16 h2.1; obtain ⟨y17, y18, y19, y20, y21, y22, y23, y24, y25, y26, y27, y28, y29, y30, f17, f18, f19, f20, f21, f22, f23, f24, f25, f26, f27, f28, f29, f30⟩ := rd14 h2.1))
  all_goals
    have H9 := Lib.hid h2
    clear h2
    go_wp2
    go_end0
    exact ⟨rfl, (H9.out.d z).s x⟩
set_option maxRecDepth 100000 in
set_option maxHeartbeats 4000000 in
theorem op17 (g : Nat) (R : Rd) (W0 w : World) (h : At W0 w g R) (hf : R.z.f = 17) (x : Opd) (n1 : Nat) (CP : Hid (∀ W, At W0 W g R → Calls Tryd.prog 97 #[.pointer (some ⟨g, 0, none⟩), .int .i64 R.fr] W fun e w' => e = .returned (V7 x) ∧ Wr W0 W w' g { R with n := n1 })) (z : Opd) (CR : Hid (∀ W, At W0 W g R → Calls Tryd.prog 98 #[.pointer (some ⟨g, 0, none⟩), .int .i64 R.sz] W fun e w' => e = .returned (V7 z) ∧ Below W.heap.size W w')) :
    Calls Tryd.prog 60 #[.pointer (some ⟨g, 0, none⟩)] w fun e w' => e = .returned (.tuple #[]) ∧ Wr W0 w w' g { R with n := n1, d := z, s := x } := by
  have c6 := h.rb.cell 6
  have c14 := h.rb.cell 14
  have c16 := h.rb.cell 16
  simp only [rdA, List.getElem?_toArray, List.getElem?_cons_zero, List.getElem?_cons_succ] at c6 c14 c16
  rw [hf] at c6
  have H := Lib.hid h
  clear h hf
  go_enter Tryd.func60, Tryd.ntmps60
  unfold V7 at *
  go_wp2_with fail
  go_region_held3 (fun w' => w'.cell? ⟨g, 14, none⟩ = some (.int .i64 R.sz) ∧ w'.cell? ⟨g, 16, none⟩ = some (.int .i64 R.fr)) (first | (with_reducible exact ⟨c14, c16⟩) | (with_reducible exact ⟨k14a, k16a⟩) | (with_reducible exact ⟨k14b, k16b⟩) | (with_reducible exact ⟨keepD k14b (by decide), keepD k16b (by decide)⟩) | (with_reducible exact ⟨keepS k14b (by decide), keepS k16b (by decide)⟩) | (with_reducible exact ⟨keepS (keepD k14b (by decide)) (by decide), keepS (keepD k16b (by decide)) (by decide)⟩) | go_keep) (first | (go_at_call 98; (with_reducible refine Calls.mono (CR.out _ ?hh) ?_); (case hh => exact H.out.drew); rintro e w1 ⟨rfl, hb⟩; have h1 := H.out.drew.below hb; have k14a := cell14 h1; have k16a := cell16 h1) | (go_at_call 97; (with_reducible refine Calls.mono (CP.out _ ?hh) ?_); (case hh => exact h1); rintro e w2 ⟨rfl, h3⟩; have h2 := Wr.pre ((Below.refl w.heap.size w).drew) (Wr.pre hb h3); have k14b := cell14 h2.1; have k16b := cell16 h2.1; obtain ⟨y17, y18, y19, y20, y21, y22, y23, y24, y25, y26, y27, y28, y29, y30, f17, f18, f19, f20, f21, f22, f23, f24, f25, f26, f27, f28, f29, f30⟩ := rd14 h2.1))
  all_goals
    have H9 := Lib.hid h2
    clear h2
    go_wp2
    go_end0
    exact ⟨rfl, (H9.out.d z).s x⟩
set_option maxRecDepth 100000 in
set_option maxHeartbeats 4000000 in
theorem op8 (g : Nat) (R : Rd) (W0 w : World) (h : At W0 w g R) (hf : R.z.f = 8) (v : Int) (n1 : Nat) (CT : Hid (∀ W, At W0 W g R → Calls Tryd.prog 102 #[.pointer (some ⟨g, 0, none⟩), .int .i64 R.sz] W fun e w' => e = .returned (.int .i64 v) ∧ Wr W0 W w' g { R with n := n1 })) (z : Opd) (CR : Hid (∀ W, At W0 W g R → Calls Tryd.prog 101 #[.pointer (some ⟨g, 0, none⟩), .int .i64 R.sz] W fun e w' => e = .returned (V7 z) ∧ Below W.heap.size W w')) :
    Calls Tryd.prog 60 #[.pointer (some ⟨g, 0, none⟩)] w fun e w' => e = .returned (.tuple #[]) ∧ Wr W0 w w' g { R with n := n1, d := z, s := immOpd v } := by
  have c6 := h.rb.cell 6
  have c14 := h.rb.cell 14
  simp only [rdA, List.getElem?_toArray, List.getElem?_cons_zero, List.getElem?_cons_succ] at c6 c14
  rw [hf] at c6
  have H := Lib.hid h
  clear h hf
  go_enter Tryd.func60, Tryd.ntmps60
  unfold V7 at *
  go_wp2_with fail
  go_region_held3 (fun w' => w'.cell? ⟨g, 14, none⟩ = some (.int .i64 R.sz)) (first | (with_reducible exact c14) | (with_reducible exact k14a) | (with_reducible exact k14b) | (with_reducible exact k14c) | (with_reducible exact keepD k14b (by decide)) | (with_reducible exact keepS k14b (by decide)) | (with_reducible exact keepS (keepD k14b (by decide)) (by decide)) | (with_reducible exact keepD (keepS k14b (by decide)) (by decide)) | go_keep) (first | (go_at_call 101; (with_reducible refine Calls.mono (CR.out _ ?hh) ?_); (case hh => exact H.out.drew); rintro e w1 ⟨rfl, hb⟩; have h1 := H.out.drew.below hb; have k14a := cell14 h1) | (go_at_call 102; (with_reducible refine Calls.mono (CT.out _ ?hh) ?_); (case hh => exact h1); rintro e w2 ⟨rfl, h3⟩; have k14c := cell14 h3.1) | (go_at_call 30; (with_reducible refine Calls.mono (immOpdC _ _) ?_); rintro e w3 ⟨rfl, hb3⟩; have h2 := (Wr.pre ((Below.refl w.heap.size w).drew) (Wr.pre hb h3)).below hb3; have k14b := cell14 h2.1; obtain ⟨y17, y18, y19, y20, y21, y22, y23, y24, y25, y26, y27, y28, y29, y30, f17, f18, f19, f20, f21, f22, f23, f24, f25, f26, f27, f28, f29, f30⟩ := rd14 h2.1))
  all_goals
    have H9 := Lib.hid h2
    clear h2
    go_wp2
    go_end0
    exact ⟨rfl, (H9.out.d z).s (immOpd v)⟩
set_option maxRecDepth 100000 in
set_option maxHeartbeats 4000000 in
theorem op1n (g : Nat) (R : Rd) (W0 w : World) (h : At W0 w g R) (hf : R.z.f = 1) (CP : Hid (∀ W, At W0 W g R → Calls Tryd.prog 97 #[.pointer (some ⟨g, 0, none⟩), .int .i64 R.sz] W fun e w' => (e = endP ∧ Ch W w' g) ∨ (e = .returned (V7 noOpd) ∧ Wr W0 W w' g R ∧ False))) (z : Opd) (CR : Hid (∀ W, At W0 W g R → Calls Tryd.prog 98 #[.pointer (some ⟨g, 0, none⟩), .int .i64 R.sz] W fun e w' => e = .returned (V7 z) ∧ Below W.heap.size W w')) :
    Calls Tryd.prog 60 #[.pointer (some ⟨g, 0, none⟩)] w fun e w' => e = endP ∧ Ch w w' g := by
  have c6 := h.rb.cell 6
  have c14 := h.rb.cell 14
  simp only [rdA, List.getElem?_toArray, List.getElem?_cons_zero, List.getElem?_cons_succ] at c6 c14
  rw [hf] at c6
  have H := Lib.hid h
  clear h hf
  go_enter Tryd.func60, Tryd.ntmps60
  unfold V7 endP at *
  go_wp2_with fail
  go_region_held2 (fun w' => w'.cell? ⟨g, 14, none⟩ = some (.int .i64 R.sz)) (first | (with_reducible exact c14) | (with_reducible exact k14a) | (with_reducible exact k14b) | (with_reducible exact keepD k14b (by decide)) | (with_reducible exact keepS k14b (by decide)) | (with_reducible exact keepS (keepD k14b (by decide)) (by decide)) | (with_reducible exact keepD (keepS k14b (by decide)) (by decide)) | go_keep) (first | (go_at_call 97; (with_reducible refine Calls.mono (CP.out _ ?hh) ?_); (case hh => exact H.out.drew); rintro e w1 (⟨rfl, hc⟩ | ⟨rfl, h1, hf⟩); (all_goals first | (exact ⟨rfl, rfl, ((Ch.refl w g).drewN 1).trans hc⟩) | skip); have HF := Lib.hid hf; clear hf; have h0 := rfl (a := g); have k14a := cell14 h1.1; have k16a := cell16 h1.1) | (go_at_call 98; (with_reducible refine Calls.mono (CR.out _ ?hh) ?_); (case hh => exact h1.1); rintro e w2 ⟨rfl, hb⟩; have h2 := Wr.below (Wr.pre ((Below.refl w.heap.size w).drew) h1) hb; have k14b := cell14 h2.1; have k16b := cell16 h2.1; obtain ⟨y17, y18, y19, y20, y21, y22, y23, y24, y25, y26, y27, y28, y29, y30, f17, f18, f19, f20, f21, f22, f23, f24, f25, f26, f27, f28, f29, f30⟩ := rd14 h2.1))
  all_goals exact HF.out.elim
set_option maxRecDepth 100000 in
set_option maxHeartbeats 4000000 in
theorem op2n (g : Nat) (R : Rd) (W0 w : World) (h : At W0 w g R) (hf : R.z.f = 2) (CP : Hid (∀ W, At W0 W g R → Calls Tryd.prog 97 #[.pointer (some ⟨g, 0, none⟩), .int .i64 R.sz] W fun e w' => (e = endP ∧ Ch W w' g) ∨ (e = .returned (V7 noOpd) ∧ Wr W0 W w' g R ∧ False))) (z : Opd) (CR : Hid (∀ W, At W0 W g R → Calls Tryd.prog 98 #[.pointer (some ⟨g, 0, none⟩), .int .i64 R.sz] W fun e w' => e = .returned (V7 z) ∧ Below W.heap.size W w')) :
    Calls Tryd.prog 60 #[.pointer (some ⟨g, 0, none⟩)] w fun e w' => e = endP ∧ Ch w w' g := by
  have c6 := h.rb.cell 6
  have c14 := h.rb.cell 14
  simp only [rdA, List.getElem?_toArray, List.getElem?_cons_zero, List.getElem?_cons_succ] at c6 c14
  rw [hf] at c6
  have H := Lib.hid h
  clear h hf
  go_enter Tryd.func60, Tryd.ntmps60
  unfold V7 endP at *
  go_wp2_with fail
  go_region_held2 (fun w' => w'.cell? ⟨g, 14, none⟩ = some (.int .i64 R.sz)) (first | (with_reducible exact c14) | (with_reducible exact k14a) | (with_reducible exact k14b) | (with_reducible exact keepD k14b (by decide)) | (with_reducible exact keepS k14b (by decide)) | (with_reducible exact keepS (keepD k14b (by decide)) (by decide)) | (with_reducible exact keepD (keepS k14b (by decide)) (by decide)) | go_keep) (first | (go_at_call 98; (with_reducible refine Calls.mono (CR.out _ ?hh) ?_); (case hh => exact H.out.drew); rintro e w1 ⟨rfl, hb⟩; have h1 := H.out.drew.below hb; have k14a := cell14 h1; have k16a := cell16 h1) | (go_at_call 97; (with_reducible refine Calls.mono (CP.out _ ?hh) ?_); (case hh => exact h1); rintro e w2 (⟨rfl, hc⟩ | ⟨rfl, h3, hf⟩); (all_goals first | (exact ⟨rfl, rfl, ((Ch.refl w g).drewN 1).trans ((Ch.of_below hb).trans hc)⟩) | skip); have HF := Lib.hid hf; clear hf; have h2 := Wr.pre ((Below.refl w.heap.size w).drew) (Wr.pre hb h3); have k14b := cell14 h2.1; have k16b := cell16 h2.1; obtain ⟨y17, y18, y19, y20, y21, y22, y23, y24, y25, y26, y27, y28, y29, y30, f17, f18, f19, f20, f21, f22, f23, f24, f25, f26, f27, f28, f29, f30⟩ := rd14 h2.1))
  all_goals exact HF.out.elim
set_option maxRecDepth 100000 in
set_option maxHeartbeats 4000000 in
theorem op17n (g : Nat) (R : Rd) (W0 w : World) (h : At W0 w g R) (hf : R.z.f = 17) (CP : Hid (∀ W, At W0 W g R → Calls Tryd.prog 97 #[.pointer (some ⟨g, 0, none⟩), .int .i64 R.fr] W fun e w' => (e = endP ∧ Ch W w' g) ∨ (e = .returned (V7 noOpd) ∧ Wr W0 W w' g R ∧ False))) (z : Opd) (CR : Hid (∀ W, At W0 W g R → Calls Tryd.prog 98 #[.pointer (some ⟨g, 0, none⟩), .int .i64 R.sz] W fun e w' => e = .returned (V7 z) ∧ Below W.heap.size W w')) :
    Calls Tryd.prog 60 #[.pointer (some ⟨g, 0, none⟩)] w fun e w' => e = endP ∧ Ch w w' g := by
  have c6 := h.rb.cell 6
  have c14 := h.rb.cell 14
  have c16 := h.rb.cell 16
  simp only [rdA, List.getElem?_toArray, List.getElem?_cons_zero, List.getElem?_cons_succ] at c6 c14 c16
  rw [hf] at c6
  have H := Lib.hid h
  clear h hf
  go_enter Tryd.func60, Tryd.ntmps60
  unfold V7 endP at *
  go_wp2_with fail
  go_region_held2 (fun w' => w'.cell? ⟨g, 14, none⟩ = some (.int .i64 R.sz) ∧ w'.cell? ⟨g, 16, none⟩ = some (.int .i64 R.fr)) (first | (with_reducible exact ⟨c14, c16⟩) | (with_reducible exact ⟨k14a, k16a⟩) | (with_reducible exact ⟨k14b, k16b⟩) | (with_reducible exact ⟨keepD k14b (by decide), keepD k16b (by decide)⟩) | (with_reducible exact ⟨keepS k14b (by decide), keepS k16b (by decide)⟩) | (with_reducible exact ⟨keepS (keepD k14b (by decide)) (by decide), keepS (keepD k16b (by decide)) (by decide)⟩) | go_keep) (first | (go_at_call 98; (with_reducible refine Calls.mono (CR.out _ ?hh) ?_); (case hh => exact H.out.drew); rintro e w1 ⟨rfl, hb⟩; have h1 := H.out.drew.below hb; have k14a := cell14 h1; have k16a := cell16 h1) | (go_at_call 97; (with_reducible refine Calls.mono (CP.out _ ?hh) ?_); (case hh => exact h1); rintro e w2 (⟨rfl, hc⟩ | ⟨rfl, h3, hf⟩); (all_goals first | (exact ⟨rfl, rfl, ((Ch.refl w g).drewN 1).trans ((Ch.of_below hb).trans hc)⟩) | skip); have HF := Lib.hid hf; clear hf; have h2 := Wr.pre ((Below.refl w.heap.size w).drew) (Wr.pre hb h3); have k14b := cell14 h2.1; have k16b := cell16 h2.1; obtain ⟨y17, y18, y19, y20, y21, y22, y23, y24, y25, y26, y27, y28, y29, y30, f17, f18, f19, f20, f21, f22, f23, f24, f25, f26, f27, f28, f29, f30⟩ := rd14 h2.1))
  all_goals exact HF.out.elim
set_option maxRecDepth 100000 in
set_option maxHeartbeats 4000000 in
theorem op8n (g : Nat) (R : Rd) (W0 w : World) (h : At W0 w g R) (hf : R.z.f = 8) (CT : Hid (∀ W, At W0 W g R → Calls Tryd.prog 102 #[.pointer (some ⟨g, 0, none⟩), .int .i64 R.sz] W fun e w' => (e = endP ∧ Ch W w' g) ∨ (e = .returned (.int .i64 0) ∧ Wr W0 W w' g R ∧ False))) (z : Opd) (CR : Hid (∀ W, At W0 W g R → Calls Tryd.prog 101 #[.pointer (some ⟨g, 0, none⟩), .int .i64 R.sz] W fun e w' => e = .returned (V7 z) ∧ Below W.heap.size W w')) :
    Calls Tryd.prog 60 #[.pointer (some ⟨g, 0, none⟩)] w fun e w' => e = endP ∧ Ch w w' g := by
  have c6 := h.rb.cell 6
  have c14 := h.rb.cell 14
  simp only [rdA, List.getElem?_toArray, List.getElem?_cons_zero, List.getElem?_cons_succ] at c6 c14
  rw [hf] at c6
  have H := Lib.hid h
  clear h hf
  go_enter Tryd.func60, Tryd.ntmps60
  unfold V7 endP at *
  go_wp2_with fail
  go_region_held2 (fun w' => w'.cell? ⟨g, 14, none⟩ = some (.int .i64 R.sz)) (first | (with_reducible exact c14) | (with_reducible exact k14a) | (with_reducible exact k14b) | (with_reducible exact k14c) | (with_reducible exact keepD k14b (by decide)) | (with_reducible exact keepS k14b (by decide)) | (with_reducible exact keepS (keepD k14b (by decide)) (by decide)) | (with_reducible exact keepD (keepS k14b (by decide)) (by decide)) | go_keep) (first | (go_at_call 101; (with_reducible refine Calls.mono (CR.out _ ?hh) ?_); (case hh => exact H.out.drew); rintro e w1 ⟨rfl, hb⟩; have h1 := H.out.drew.below hb; have k14a := cell14 h1) | (go_at_call 102; (with_reducible refine Calls.mono (CT.out _ ?hh) ?_); (case hh => exact h1); rintro e w2 (⟨rfl, hc⟩ | ⟨rfl, h3, hf⟩); (all_goals first | (exact ⟨rfl, rfl, ((Ch.refl w g).drewN 1).trans ((Ch.of_below hb).trans hc)⟩) | skip); have HF := Lib.hid hf; clear hf; have k14c := cell14 h3.1) | (go_at_call 30; (with_reducible refine Calls.mono (immOpdC _ _) ?_); rintro e w3 ⟨rfl, hb3⟩; have h2 := (Wr.pre ((Below.refl w.heap.size w).drew) (Wr.pre hb h3)).below hb3; have k14b := cell14 h2.1; obtain ⟨y17, y18, y19, y20, y21, y22, y23, y24, y25, y26, y27, y28, y29, y30, f17, f18, f19, f20, f21, f22, f23, f24, f25, f26, f27, f28, f29, f30⟩ := rd14 h2.1))
  all_goals exact HF.out.elim
end Go.Proofs.YtinjpobepcenfaaDoor
