/-
  What prefixes and operation of impl's reader do, whole; conditions: those in each head.
-/
import Derived.Test.YtinjpobepcenfaaDoorWalkRd9
import Derived.Test.YtinjpobepcenfaaDoorWalkMetA
import Derived.Deep.RegionHeld3
namespace Go.Proofs.YtinjpobepcenfaaDoor
open Go.RowKit Go.Sort
set_option linter.unusedVariables false
theorem StOut.end {W0 w w' : World} {g : Nat} {e : Ending} (h : e = endP ∧ Ch w w' g) : StOut W0 w g (.error 9) e w' := ⟨h.2, by rw [if_pos rfl]; exact h.1⟩
theorem StOut.bad {W0 w w' : World} {g : Nat} {e : Ending} {c : Int} (hc : c ≠ 9) (h : e = .returned (.int .i64 c) ∧ Ch w w' g) : StOut W0 w g (.error c) e w' := ⟨h.2, by rw [if_neg hc]; exact h.1⟩
theorem prefC (g : Nat) (R : Rd) (W0 w : World) (aE aR : Addr) (hsn : Sent W0 aE aR) (h : At W0 w g R) (hrx : R.rex = 0) (hw : R.w = false) (C0 : ∀ W, At W0 W g R → R.t.size ≤ R.n → Calls Tryd.prog 55 #[.pointer (some ⟨g, 0, none⟩)] W fun e w' => e = endP ∧ Ch W w' g) :
    Calls Tryd.prog 55 #[.pointer (some ⟨g, 0, none⟩)] w (StOut W0 w g (stP R)) := by
  unfold stP prefD
  by_cases hn : R.n < R.t.size
  · rw [if_pos hn]
    by_cases h0 : nb R.t R.n = 102
    · rw [if_pos h0]
      unfold rexD
      by_cases hk : R.n + 1 < R.t.size
      · rw [if_pos hk]
        by_cases hp : nb R.t (R.n + 1) = 102 ∨ isPre (nb R.t (R.n + 1))
        · rw [if_pos hp]
          exact Calls.mono (pref_1bad g R W0 w h hrx hw hn _ rfl h0 hk _ rfl hp) fun e w' h => StOut.bad (by decide) h
        · rw [if_neg hp]
          by_cases hr : 64 ≤ nb R.t (R.n + 1) ∧ nb R.t (R.n + 1) ≤ 79
          · rw [if_pos hr]
            exact pref_1rex g R W0 w h hrx hw hn _ rfl h0 hk _ rfl (fun e => hp (.inr e)) (fun e => hp (.inl e)) hr.1 hr.2
          · rw [if_neg hr]
            exact pref_1none g R W0 w h hrx hw hn _ rfl h0 hk _ rfl (fun e => hp (.inr e)) (fun e => hp (.inl e)) hr
      · rw [if_neg hk]
        exact Calls.mono (pref_1end g R W0 w aE aR hsn h hrx hw hn _ rfl h0 (by omega)) fun e w' h => StOut.end h
    · rw [if_neg h0]
      unfold rexD
      rw [if_pos hn]
      by_cases hp : isPre (nb R.t R.n)
      · rw [if_pos (.inr hp)]
        exact Calls.mono (pref_0bad g R W0 w h hrx hw hn _ rfl h0 hp) fun e w' h => StOut.bad (by decide) h
      · rw [if_neg (fun e => e.elim h0 hp)]
        by_cases hr : 64 ≤ nb R.t R.n ∧ nb R.t R.n ≤ 79
        · rw [if_pos hr]
          exact pref_0rex g R W0 w h hrx hw hn _ rfl h0 hp hr.1 hr.2
        · rw [if_neg hr]
          exact pref_0none g R W0 w h hrx hw hn _ rfl h0 hp hr
  · rw [if_neg hn]
    exact Calls.mono (C0 w h (by omega)) fun e w' h => StOut.end h
set_option maxHeartbeats 400000 in
theorem prefEnd (g : Nat) (R : Rd) (W0 w : World) (aE aR : Addr) (hsn : Sent W0 aE aR) (h : At W0 w g R) (hn : R.t.size ≤ R.n) :
    Calls Tryd.prog 55 #[.pointer (some ⟨g, 0, none⟩)] w fun e w' => e = endP ∧ Ch w w' g := by
  have CP := Lib.hid (peekNo g R W0 w aE aR hsn h hn)
  clear h hsn hn
  unfold endP at *
  go_enter Tryd.func55, Tryd.ntmps55
  go_wp2_with fail
  refine Calls.mono CP.out ?_
  rintro e w1 ⟨rfl, h1⟩
  go_wp2
  exact ⟨rfl, rfl, h1⟩
/-! operation -/
def stO (R : Rd) : Except Int Rd := match opcD R.t R.n with | .ok (b, z, n) => .ok { R with ob := b, z := z, op := z.o, n := n } | .error c => .error c
theorem Wr.shape {W0 w W : World} {g : Nat} {R : Rd} (h : Wr W0 w W g R) (z : Shp) : Wr W0 w (((((W.setCell ⟨g, 5, none⟩ (.int .i64 z.o)).setCell ⟨g, 6, none⟩ (.int .i64 z.f)).setCell ⟨g, 7, none⟩ (.int .i64 z.g)).setCell ⟨g, 8, none⟩ (.bool z.y)).setCell ⟨g, 9, none⟩ (.int .i64 z.r)) g { R with z := z } := by
  have a0 := h.1
  have a1 := a0.set1 (R' := { R with z := { R.z with o := z.o } }) 5 (.int .i64 z.o) rfl rfl rfl
  have a2 := a1.set1 (R' := { R with z := { R.z with o := z.o, f := z.f } }) 6 (.int .i64 z.f) rfl rfl rfl
  have a3 := a2.set1 (R' := { R with z := { R.z with o := z.o, f := z.f, g := z.g } }) 7 (.int .i64 z.g) rfl rfl rfl
  have a4 := a3.set1 (R' := { R with z := { R.z with o := z.o, f := z.f, g := z.g, y := z.y } }) 8 (.bool z.y) rfl rfl rfl
  have a5 := a4.set1 (R' := { R with z := z }) 9 (.int .i64 z.r) rfl rfl rfl
  exact ⟨a5, Ch.set (Ch.set (Ch.set (Ch.set (Ch.set h.2 5 _) 6 _) 7 _) 8 _) 9 _⟩
theorem Wr.opv {W0 w W : World} {g : Nat} {R : Rd} (h : Wr W0 w W g R) (v : Int) : Wr W0 w (W.setCell ⟨g, 13, none⟩ (.int .i64 v)) g { R with op := v } := ⟨h.1.set1 13 _ rfl rfl rfl, Ch.set h.2 13 _⟩
theorem Wr.ob {W0 w W : World} {g : Nat} {R : Rd} (h : Wr W0 w W g R) (v : Nat) : Wr W0 w (W.setCell ⟨g, 4, none⟩ (.int .i64 (v : Int))) g { R with ob := v } := ⟨h.1.set1 4 _ rfl rfl rfl, Ch.set h.2 4 _⟩
theorem Wr.alloc {W0 w W : World} {g : Nat} {R : Rd} (h : Wr W0 w W g R) (x : Obj) : Wr W0 w (W.alloc x) g R := h.below (bel_alloc W x)
theorem keep5 {w : World} {g b i : Nat} {u x0 x1 x2 x3 x4 : Value} (h : w.cell? ⟨b, i, none⟩ = some u) (hne : b ≠ g) : (((((w.setCell ⟨g, 5, none⟩ x0).setCell ⟨g, 6, none⟩ x1).setCell ⟨g, 7, none⟩ x2).setCell ⟨g, 8, none⟩ x3).setCell ⟨g, 9, none⟩ x4).cell? ⟨b, i, none⟩ = some u := by
  have o (j : Nat) : (⟨g, j, none⟩ : Addr) ≠ ⟨b, i, none⟩ := fun e => hne (Addr.mk.inj e).1.symm
  rw [World.cell?_setCell_other _ _ _ _ (o 9), World.cell?_setCell_other _ _ _ _ (o 8), World.cell?_setCell_other _ _ _ _ (o 7), World.cell?_setCell_other _ _ _ _ (o 6), World.cell?_setCell_other _ _ _ _ (o 5)]; exact h
theorem keep1 {w : World} {g b i j : Nat} {u x : Value} (h : w.cell? ⟨b, i, none⟩ = some u) (hne : b ≠ g) : (w.setCell ⟨g, j, none⟩ x).cell? ⟨b, i, none⟩ = some u := by
  rw [World.cell?_setCell_other _ _ _ _ (fun e => hne (Addr.mk.inj e).1.symm)]; exact h
theorem keepQ {w : World} {a : Addr} {u : Value} (h : w.cell? a = some u) : w.drew.cell? a = some u := h
theorem shpOk {s : Shp} (h : s.f ≠ 0) {e : Ending} (he : ShpOut s e) : e = .returned (.tuple #[.agg #[.int .i64 s.o, .int .i64 s.f, .int .i64 s.g, .bool s.y, .int .i64 s.r], .int .i64 0]) := by
  unfold ShpOut shpRes shpCode at he; rw [if_neg h, if_neg h] at he; exact he
theorem shpBad {s : Shp} (h : s.f = 0) {e : Ending} (he : ShpOut s e) : e = .returned (.tuple #[.agg #[.int .i64 0, .int .i64 0, .int .i64 0, .bool false, .int .i64 0], .int .i64 11]) := by
  unfold ShpOut shpRes shpCode at he; rw [if_pos h, if_pos h] at he; exact he
set_option maxRecDepth 100000 in
set_option maxHeartbeats 4000000 in
theorem opc_1end (g : Nat) (R : Rd) (W0 w : World) (aE aR : Addr) (hsn : Sent W0 aE aR) (h : At W0 w g R) (hn : R.n < R.t.size) (b0 : Nat) (hb0 : nb R.t R.n = b0) (hb8 : b0 < 256) (h0 : b0 = 15) (hk : R.t.size ≤ R.n + 1) :
    Calls Tryd.prog 56 #[.pointer (some ⟨g, 0, none⟩)] w fun e w' => e = endP ∧ Ch w w' g := by
  have CP0 := takeYes g 1 R W0 w h ok1 hn
  rw [take1, hb0] at CP0
  have CP := Lib.hid CP0
  have CQ := Lib.hid (fun (W : World) (hA : At W0 W g { R with n := R.n + 1, ob := b0 }) => takeNo g 1 _ W0 W aE aR hsn hA ok1 (by simp; omega))
  unfold endP at *
  subst h0
  clear h hn hb0 CP0 hk hsn
  go_enter Tryd.func56, Tryd.ntmps56
  go_wp2_with fail
  refine Calls.mono CP.out ?_
  rintro e w1 ⟨rfl, h1⟩
  have y4 := h1.1.rb.cell 4
  simp only [rdA, List.getElem?_toArray, List.getElem?_cons_zero, List.getElem?_cons_succ] at y4
  have f4 := h1.1.rb.free 4
  have M1 := Lib.hid (h1.ob 15)
  clear h1
  go_wp2_with fail
  refine Calls.mono (CQ.out _ M1.out.1) ?_
  rintro e w2 ⟨rfl, hc⟩
  go_wp2
  exact ⟨rfl, rfl, M1.out.2.trans hc⟩
set_option maxRecDepth 100000 in
set_option maxHeartbeats 4000000 in
theorem opc_1bad (g : Nat) (R : Rd) (W0 w : World) (h : At W0 w g R) (hn : R.n < R.t.size) (b0 : Nat) (hb0 : nb R.t R.n = b0) (hb8 : b0 < 256) (h0 : b0 = 15) (hk : R.n + 1 < R.t.size) (b1 : Nat) (hb1 : nb R.t (R.n + 1) = b1) (hb18 : b1 < 256) (hA : Ari W0 7) (z : Shp) (hz : shapeT true b1 = z) (hzf : z.f = 0) :
    Calls Tryd.prog 56 #[.pointer (some ⟨g, 0, none⟩)] w fun e w' => e = .returned (.int .i64 11) ∧ Ch w w' g := by
  have CP0 := takeYes g 1 R W0 w h ok1 hn
  rw [take1, hb0] at CP0
  have CP := Lib.hid CP0
  have CQ0 := fun (W : World) (hA : At W0 W g { R with n := R.n + 1, ob := b0 }) => takeYes g 1 _ W0 W hA ok1 hk
  simp only [take1] at CQ0
  rw [hb1] at CQ0
  have CQ := Lib.hid CQ0
  clear CQ0
  have CS : Hid (∀ W, Below W0.heap.size W0 W → Calls Tryd.prog 93 #[.bool true, .int .i64 (b1 : Int)] W fun e w' => e = .returned (.tuple #[.agg #[.int .i64 0, .int .i64 0, .int .i64 0, .bool false, .int .i64 0], .int .i64 11]) ∧ Below W.heap.size W w') := Lib.hid (fun W hW => Calls.mono (shapeOfI true b1 W (by omega) (hA.below hW)) fun e w' ⟨he, hb⟩ => ⟨shpBad (s := z) hzf (by rw [← hz]; exact he), hb⟩)
  subst h0
  clear h hn hb0 CP0 hk hb1 hA hz hzf
  go_enter Tryd.func56, Tryd.ntmps56
  go_wp2_with fail
  refine Calls.mono CP.out ?_
  rintro e w1 ⟨rfl, h1⟩
  have y4 := h1.1.rb.cell 4
  simp only [rdA, List.getElem?_toArray, List.getElem?_cons_zero, List.getElem?_cons_succ] at y4
  have f4 := h1.1.rb.free 4
  have M1 := Lib.hid (h1.ob 15)
  clear h1
  go_wp2_with fail
  refine Calls.mono (CQ.out _ M1.out.1) ?_
  rintro e w2 ⟨rfl, h2'⟩
  have h2 := M1.out.trans h2'
  clear h2' y4 f4
  have y4 := h2.1.rb.cell 4
  simp only [rdA, List.getElem?_toArray, List.getElem?_cons_zero, List.getElem?_cons_succ] at y4
  have f4 := h2.1.rb.free 4
  have M2 := Lib.hid (h2.ob b1)
  clear h2
  go_wp2_with fail
  refine Calls.mono (CS.out _ M2.out.1.be) ?_
  rintro e w3 ⟨rfl, hb⟩
  have h3 := M2.out.below hb
  clear hb y4 f4
  go_wp2_with fail
  have h4 : Hid (Wr W0 w (w3.alloc (.cells #[.int .i64 0, .int .i64 0, .int .i64 0, .bool false, .int .i64 0] 55)) g _) := Lib.hid (h3.alloc _)
  have hne : w3.heap.size ≠ g := by have := h3.1.lt; omega
  have x0 : (w3.alloc (.cells #[.int .i64 0, .int .i64 0, .int .i64 0, .bool false, .int .i64 0] 55)).cell? ⟨w3.heap.size, 0, none⟩ = some (.int .i64 0) := box5 w3 _ _ 0
  have x1 : (w3.alloc (.cells #[.int .i64 0, .int .i64 0, .int .i64 0, .bool false, .int .i64 0] 55)).cell? ⟨w3.heap.size, 1, none⟩ = some (.int .i64 0) := box5 w3 _ _ 1
  have x2 : (w3.alloc (.cells #[.int .i64 0, .int .i64 0, .int .i64 0, .bool false, .int .i64 0] 55)).cell? ⟨w3.heap.size, 2, none⟩ = some (.int .i64 0) := box5 w3 _ _ 2
  have x3 : (w3.alloc (.cells #[.int .i64 0, .int .i64 0, .int .i64 0, .bool false, .int .i64 0] 55)).cell? ⟨w3.heap.size, 3, none⟩ = some (.bool false) := box5 w3 _ _ 3
  have x4 : (w3.alloc (.cells #[.int .i64 0, .int .i64 0, .int .i64 0, .bool false, .int .i64 0] 55)).cell? ⟨w3.heap.size, 4, none⟩ = some (.int .i64 0) := box5 w3 _ _ 4
  clear h3
  generalize w3.alloc (.cells #[.int .i64 0, .int .i64 0, .int .i64 0, .bool false, .int .i64 0] 55) = W at *
  have h3 := h4.out
  have y5 := h3.1.rb.cell 5; have y6 := h3.1.rb.cell 6; have y7 := h3.1.rb.cell 7; have y8 := h3.1.rb.cell 8; have y9 := h3.1.rb.cell 9; have y13 := h3.1.rb.cell 13
  simp only [rdA, List.getElem?_toArray, List.getElem?_cons_zero, List.getElem?_cons_succ] at y5 y6 y7 y8 y9 y13
  have f5 := h3.1.rb.free 5; have f6 := h3.1.rb.free 6; have f7 := h3.1.rb.free 7; have f8 := h3.1.rb.free 8; have f9 := h3.1.rb.free 9; have f13 := h3.1.rb.free 13
  have H3 := Lib.hid h3
  clear h3 h4
  go_region_held3 (fun w' => w'.cell? ⟨w3.heap.size, 0, none⟩ = some (.int .i64 0) ∧ w'.cell? ⟨w3.heap.size, 1, none⟩ = some (.int .i64 0) ∧ w'.cell? ⟨w3.heap.size, 2, none⟩ = some (.int .i64 0) ∧ w'.cell? ⟨w3.heap.size, 3, none⟩ = some (.bool false) ∧ w'.cell? ⟨w3.heap.size, 4, none⟩ = some (.int .i64 0)) (first | (with_reducible exact ⟨x0, x1, x2, x3, x4⟩) | (with_reducible exact ⟨keepQ (keep5 x0 hne), keepQ (keep5 x1 hne), keepQ (keep5 x2 hne), keepQ (keep5 x3 hne), keepQ (keep5 x4 hne)⟩) | (with_reducible exact ⟨keepQ (keep1 (keep5 x0 hne) hne), keepQ (keep1 (keep5 x1 hne) hne), keepQ (keep1 (keep5 x2 hne) hne), keepQ (keep1 (keep5 x3 hne) hne), keepQ (keep1 (keep5 x4 hne) hne)⟩) | (with_reducible exact ⟨keepQ (keep1 x0 hne), keepQ (keep1 x1 hne), keepQ (keep1 x2 hne), keepQ (keep1 x3 hne), keepQ (keep1 x4 hne)⟩) | (with_reducible exact ⟨keepQ (keep5 (keep1 x0 hne) hne), keepQ (keep5 (keep1 x1 hne) hne), keepQ (keep5 (keep1 x2 hne) hne), keepQ (keep5 (keep1 x3 hne) hne), keepQ (keep5 (keep1 x4 hne) hne)⟩) | go_keep) (first | fail)
  all_goals
    go_wp2
    go_ret
    first | exact ⟨rfl, (((H3.out.shape noShp).opv noShp.o).drew).2⟩ | exact ⟨rfl, (((H3.out.opv noShp.o).shape noShp).drew).2⟩
set_option maxRecDepth 100000 in
set_option maxHeartbeats 4000000 in
theorem opc_1ok (g : Nat) (R : Rd) (W0 w : World) (h : At W0 w g R) (hn : R.n < R.t.size) (b0 : Nat) (hb0 : nb R.t R.n = b0) (hb8 : b0 < 256) (h0 : b0 = 15) (hk : R.n + 1 < R.t.size) (b1 : Nat) (hb1 : nb R.t (R.n + 1) = b1) (hb18 : b1 < 256) (hA : Ari W0 7) (z : Shp) (hz : shapeT true b1 = z) (hzf : z.f ≠ 0) :
    Calls Tryd.prog 56 #[.pointer (some ⟨g, 0, none⟩)] w fun e w' => e = .returned (.int .i64 0) ∧ Wr W0 w w' g { R with ob := b1, z := z, op := z.o, n := R.n + 2 } := by
  have CP0 := takeYes g 1 R W0 w h ok1 hn
  rw [take1, hb0] at CP0
  have CP := Lib.hid CP0
  have CQ0 := fun (W : World) (hA : At W0 W g { R with n := R.n + 1, ob := b0 }) => takeYes g 1 _ W0 W hA ok1 hk
  simp only [take1] at CQ0
  rw [hb1] at CQ0
  have CQ := Lib.hid CQ0
  clear CQ0
  have CS : Hid (∀ W, Below W0.heap.size W0 W → Calls Tryd.prog 93 #[.bool true, .int .i64 (b1 : Int)] W fun e w' => e = .returned (.tuple #[.agg #[.int .i64 z.o, .int .i64 z.f, .int .i64 z.g, .bool z.y, .int .i64 z.r], .int .i64 0]) ∧ Below W.heap.size W w') := Lib.hid (fun W hW => Calls.mono (shapeOfI true b1 W (by omega) (hA.below hW)) fun e w' ⟨he, hb⟩ => ⟨shpOk (s := z) hzf (by rw [← hz]; exact he), hb⟩)
  subst h0
  clear h hn hb0 CP0 hk hb1 hA hz hzf
  go_enter Tryd.func56, Tryd.ntmps56
  go_wp2_with fail
  refine Calls.mono CP.out ?_
  rintro e w1 ⟨rfl, h1⟩
  have y4 := h1.1.rb.cell 4
  simp only [rdA, List.getElem?_toArray, List.getElem?_cons_zero, List.getElem?_cons_succ] at y4
  have f4 := h1.1.rb.free 4
  have M1 := Lib.hid (h1.ob 15)
  clear h1
  go_wp2_with fail
  refine Calls.mono (CQ.out _ M1.out.1) ?_
  rintro e w2 ⟨rfl, h2'⟩
  have h2 := M1.out.trans h2'
  clear h2' y4 f4
  have y4 := h2.1.rb.cell 4
  simp only [rdA, List.getElem?_toArray, List.getElem?_cons_zero, List.getElem?_cons_succ] at y4
  have f4 := h2.1.rb.free 4
  have M2 := Lib.hid (h2.ob b1)
  clear h2
  go_wp2_with fail
  refine Calls.mono (CS.out _ M2.out.1.be) ?_
  rintro e w3 ⟨rfl, hb⟩
  have h3 := M2.out.below hb
  clear hb y4 f4
  go_wp2_with fail
  have h4 : Hid (Wr W0 w (w3.alloc (.cells #[.int .i64 z.o, .int .i64 z.f, .int .i64 z.g, .bool z.y, .int .i64 z.r] 55)) g _) := Lib.hid (h3.alloc _)
  have hne : w3.heap.size ≠ g := by have := h3.1.lt; omega
  have x0 : (w3.alloc (.cells #[.int .i64 z.o, .int .i64 z.f, .int .i64 z.g, .bool z.y, .int .i64 z.r] 55)).cell? ⟨w3.heap.size, 0, none⟩ = some (.int .i64 z.o) := box5 w3 _ _ 0
  have x1 : (w3.alloc (.cells #[.int .i64 z.o, .int .i64 z.f, .int .i64 z.g, .bool z.y, .int .i64 z.r] 55)).cell? ⟨w3.heap.size, 1, none⟩ = some (.int .i64 z.f) := box5 w3 _ _ 1
  have x2 : (w3.alloc (.cells #[.int .i64 z.o, .int .i64 z.f, .int .i64 z.g, .bool z.y, .int .i64 z.r] 55)).cell? ⟨w3.heap.size, 2, none⟩ = some (.int .i64 z.g) := box5 w3 _ _ 2
  have x3 : (w3.alloc (.cells #[.int .i64 z.o, .int .i64 z.f, .int .i64 z.g, .bool z.y, .int .i64 z.r] 55)).cell? ⟨w3.heap.size, 3, none⟩ = some (.bool z.y) := box5 w3 _ _ 3
  have x4 : (w3.alloc (.cells #[.int .i64 z.o, .int .i64 z.f, .int .i64 z.g, .bool z.y, .int .i64 z.r] 55)).cell? ⟨w3.heap.size, 4, none⟩ = some (.int .i64 z.r) := box5 w3 _ _ 4
  clear h3
  generalize w3.alloc (.cells #[.int .i64 z.o, .int .i64 z.f, .int .i64 z.g, .bool z.y, .int .i64 z.r] 55) = W at *
  have h3 := h4.out
  have y5 := h3.1.rb.cell 5; have y6 := h3.1.rb.cell 6; have y7 := h3.1.rb.cell 7; have y8 := h3.1.rb.cell 8; have y9 := h3.1.rb.cell 9; have y13 := h3.1.rb.cell 13
  simp only [rdA, List.getElem?_toArray, List.getElem?_cons_zero, List.getElem?_cons_succ] at y5 y6 y7 y8 y9 y13
  have f5 := h3.1.rb.free 5; have f6 := h3.1.rb.free 6; have f7 := h3.1.rb.free 7; have f8 := h3.1.rb.free 8; have f9 := h3.1.rb.free 9; have f13 := h3.1.rb.free 13
  have H3 := Lib.hid h3
  clear h3 h4
  go_region_held3 (fun w' => w'.cell? ⟨w3.heap.size, 0, none⟩ = some (.int .i64 z.o) ∧ w'.cell? ⟨w3.heap.size, 1, none⟩ = some (.int .i64 z.f) ∧ w'.cell? ⟨w3.heap.size, 2, none⟩ = some (.int .i64 z.g) ∧ w'.cell? ⟨w3.heap.size, 3, none⟩ = some (.bool z.y) ∧ w'.cell? ⟨w3.heap.size, 4, none⟩ = some (.int .i64 z.r)) (first | (with_reducible exact ⟨x0, x1, x2, x3, x4⟩) | (with_reducible exact ⟨keepQ (keep5 x0 hne), keepQ (keep5 x1 hne), keepQ (keep5 x2 hne), keepQ (keep5 x3 hne), keepQ (keep5 x4 hne)⟩) | (with_reducible exact ⟨keepQ (keep1 (keep5 x0 hne) hne), keepQ (keep1 (keep5 x1 hne) hne), keepQ (keep1 (keep5 x2 hne) hne), keepQ (keep1 (keep5 x3 hne) hne), keepQ (keep1 (keep5 x4 hne) hne)⟩) | (with_reducible exact ⟨keepQ (keep1 x0 hne), keepQ (keep1 x1 hne), keepQ (keep1 x2 hne), keepQ (keep1 x3 hne), keepQ (keep1 x4 hne)⟩) | (with_reducible exact ⟨keepQ (keep5 (keep1 x0 hne) hne), keepQ (keep5 (keep1 x1 hne) hne), keepQ (keep5 (keep1 x2 hne) hne), keepQ (keep5 (keep1 x3 hne) hne), keepQ (keep5 (keep1 x4 hne) hne)⟩) | go_keep) (first | fail)
  all_goals
    go_wp2
    go_ret
    first | exact ⟨rfl, (((H3.out.shape z).opv z.o).drew)⟩ | exact ⟨rfl, (((H3.out.opv z.o).shape z).drew)⟩
set_option maxRecDepth 100000 in
set_option maxHeartbeats 4000000 in
theorem opc_0bad (g : Nat) (R : Rd) (W0 w : World) (h : At W0 w g R) (hn : R.n < R.t.size) (b0 : Nat) (hb0 : nb R.t R.n = b0) (hb8 : b0 < 256) (h0 : b0 ≠ 15) (hA : Ari W0 7) (z : Shp) (hz : shapeT false b0 = z) (hzf : z.f = 0) :
    Calls Tryd.prog 56 #[.pointer (some ⟨g, 0, none⟩)] w fun e w' => e = .returned (.int .i64 11) ∧ Ch w w' g := by
  have CP0 := takeYes g 1 R W0 w h ok1 hn
  rw [take1, hb0] at CP0
  have CP := Lib.hid CP0
  have CS : Hid (∀ W, Below W0.heap.size W0 W → Calls Tryd.prog 93 #[.bool false, .int .i64 (b0 : Int)] W fun e w' => e = .returned (.tuple #[.agg #[.int .i64 0, .int .i64 0, .int .i64 0, .bool false, .int .i64 0], .int .i64 11]) ∧ Below W.heap.size W w') := Lib.hid (fun W hW => Calls.mono (shapeOfI false b0 W (by omega) (hA.below hW)) fun e w' ⟨he, hb⟩ => ⟨shpBad (s := z) hzf (by rw [← hz]; exact he), hb⟩)
  have z15 : ((b0 : Int) == 15) = false := by simp only [beq_eq_false_iff_ne]; omega
  clear h hn hb0 CP0 hA hz hzf
  go_enter Tryd.func56, Tryd.ntmps56
  go_wp2_with fail
  refine Calls.mono CP.out ?_
  rintro e w1 ⟨rfl, h1⟩
  have y4 := h1.1.rb.cell 4
  simp only [rdA, List.getElem?_toArray, List.getElem?_cons_zero, List.getElem?_cons_succ] at y4
  have f4 := h1.1.rb.free 4
  have M1 := Lib.hid (h1.ob b0)
  clear h1
  have M2 := M1
  go_wp2_with fail
  refine Calls.mono (CS.out _ M2.out.1.be) ?_
  rintro e w3 ⟨rfl, hb⟩
  have h3 := M2.out.below hb
  clear hb y4 f4
  go_wp2_with fail
  have h4 : Hid (Wr W0 w (w3.alloc (.cells #[.int .i64 0, .int .i64 0, .int .i64 0, .bool false, .int .i64 0] 55)) g _) := Lib.hid (h3.alloc _)
  have hne : w3.heap.size ≠ g := by have := h3.1.lt; omega
  have x0 : (w3.alloc (.cells #[.int .i64 0, .int .i64 0, .int .i64 0, .bool false, .int .i64 0] 55)).cell? ⟨w3.heap.size, 0, none⟩ = some (.int .i64 0) := box5 w3 _ _ 0
  have x1 : (w3.alloc (.cells #[.int .i64 0, .int .i64 0, .int .i64 0, .bool false, .int .i64 0] 55)).cell? ⟨w3.heap.size, 1, none⟩ = some (.int .i64 0) := box5 w3 _ _ 1
  have x2 : (w3.alloc (.cells #[.int .i64 0, .int .i64 0, .int .i64 0, .bool false, .int .i64 0] 55)).cell? ⟨w3.heap.size, 2, none⟩ = some (.int .i64 0) := box5 w3 _ _ 2
  have x3 : (w3.alloc (.cells #[.int .i64 0, .int .i64 0, .int .i64 0, .bool false, .int .i64 0] 55)).cell? ⟨w3.heap.size, 3, none⟩ = some (.bool false) := box5 w3 _ _ 3
  have x4 : (w3.alloc (.cells #[.int .i64 0, .int .i64 0, .int .i64 0, .bool false, .int .i64 0] 55)).cell? ⟨w3.heap.size, 4, none⟩ = some (.int .i64 0) := box5 w3 _ _ 4
  clear h3
  generalize w3.alloc (.cells #[.int .i64 0, .int .i64 0, .int .i64 0, .bool false, .int .i64 0] 55) = W at *
  have h3 := h4.out
  have y5 := h3.1.rb.cell 5; have y6 := h3.1.rb.cell 6; have y7 := h3.1.rb.cell 7; have y8 := h3.1.rb.cell 8; have y9 := h3.1.rb.cell 9; have y13 := h3.1.rb.cell 13
  simp only [rdA, List.getElem?_toArray, List.getElem?_cons_zero, List.getElem?_cons_succ] at y5 y6 y7 y8 y9 y13
  have f5 := h3.1.rb.free 5; have f6 := h3.1.rb.free 6; have f7 := h3.1.rb.free 7; have f8 := h3.1.rb.free 8; have f9 := h3.1.rb.free 9; have f13 := h3.1.rb.free 13
  have H3 := Lib.hid h3
  clear h3 h4
  go_region_held3 (fun w' => w'.cell? ⟨w3.heap.size, 0, none⟩ = some (.int .i64 0) ∧ w'.cell? ⟨w3.heap.size, 1, none⟩ = some (.int .i64 0) ∧ w'.cell? ⟨w3.heap.size, 2, none⟩ = some (.int .i64 0) ∧ w'.cell? ⟨w3.heap.size, 3, none⟩ = some (.bool false) ∧ w'.cell? ⟨w3.heap.size, 4, none⟩ = some (.int .i64 0)) (first | (with_reducible exact ⟨x0, x1, x2, x3, x4⟩) | (with_reducible exact ⟨keepQ (keep5 x0 hne), keepQ (keep5 x1 hne), keepQ (keep5 x2 hne), keepQ (keep5 x3 hne), keepQ (keep5 x4 hne)⟩) | (with_reducible exact ⟨keepQ (keep1 (keep5 x0 hne) hne), keepQ (keep1 (keep5 x1 hne) hne), keepQ (keep1 (keep5 x2 hne) hne), keepQ (keep1 (keep5 x3 hne) hne), keepQ (keep1 (keep5 x4 hne) hne)⟩) | (with_reducible exact ⟨keepQ (keep1 x0 hne), keepQ (keep1 x1 hne), keepQ (keep1 x2 hne), keepQ (keep1 x3 hne), keepQ (keep1 x4 hne)⟩) | (with_reducible exact ⟨keepQ (keep5 (keep1 x0 hne) hne), keepQ (keep5 (keep1 x1 hne) hne), keepQ (keep5 (keep1 x2 hne) hne), keepQ (keep5 (keep1 x3 hne) hne), keepQ (keep5 (keep1 x4 hne) hne)⟩) | go_keep) (first | fail)
  all_goals
    go_wp2
    go_ret
    first | exact ⟨rfl, (((H3.out.shape noShp).opv noShp.o).drew).2⟩ | exact ⟨rfl, (((H3.out.opv noShp.o).shape noShp).drew).2⟩
set_option maxRecDepth 100000 in
set_option maxHeartbeats 4000000 in
theorem opc_0ok (g : Nat) (R : Rd) (W0 w : World) (h : At W0 w g R) (hn : R.n < R.t.size) (b0 : Nat) (hb0 : nb R.t R.n = b0) (hb8 : b0 < 256) (h0 : b0 ≠ 15) (hA : Ari W0 7) (z : Shp) (hz : shapeT false b0 = z) (hzf : z.f ≠ 0) :
    Calls Tryd.prog 56 #[.pointer (some ⟨g, 0, none⟩)] w fun e w' => e = .returned (.int .i64 0) ∧ Wr W0 w w' g { R with ob := b0, z := z, op := z.o, n := R.n + 1 } := by
  have CP0 := takeYes g 1 R W0 w h ok1 hn
  rw [take1, hb0] at CP0
  have CP := Lib.hid CP0
  have CS : Hid (∀ W, Below W0.heap.size W0 W → Calls Tryd.prog 93 #[.bool false, .int .i64 (b0 : Int)] W fun e w' => e = .returned (.tuple #[.agg #[.int .i64 z.o, .int .i64 z.f, .int .i64 z.g, .bool z.y, .int .i64 z.r], .int .i64 0]) ∧ Below W.heap.size W w') := Lib.hid (fun W hW => Calls.mono (shapeOfI false b0 W (by omega) (hA.below hW)) fun e w' ⟨he, hb⟩ => ⟨shpOk (s := z) hzf (by rw [← hz]; exact he), hb⟩)
  have z15 : ((b0 : Int) == 15) = false := by simp only [beq_eq_false_iff_ne]; omega
  clear h hn hb0 CP0 hA hz hzf
  go_enter Tryd.func56, Tryd.ntmps56
  go_wp2_with fail
  refine Calls.mono CP.out ?_
  rintro e w1 ⟨rfl, h1⟩
  have y4 := h1.1.rb.cell 4
  simp only [rdA, List.getElem?_toArray, List.getElem?_cons_zero, List.getElem?_cons_succ] at y4
  have f4 := h1.1.rb.free 4
  have M1 := Lib.hid (h1.ob b0)
  clear h1
  have M2 := M1
  go_wp2_with fail
  refine Calls.mono (CS.out _ M2.out.1.be) ?_
  rintro e w3 ⟨rfl, hb⟩
  have h3 := M2.out.below hb
  clear hb y4 f4
  go_wp2_with fail
  have h4 : Hid (Wr W0 w (w3.alloc (.cells #[.int .i64 z.o, .int .i64 z.f, .int .i64 z.g, .bool z.y, .int .i64 z.r] 55)) g _) := Lib.hid (h3.alloc _)
  have hne : w3.heap.size ≠ g := by have := h3.1.lt; omega
  have x0 : (w3.alloc (.cells #[.int .i64 z.o, .int .i64 z.f, .int .i64 z.g, .bool z.y, .int .i64 z.r] 55)).cell? ⟨w3.heap.size, 0, none⟩ = some (.int .i64 z.o) := box5 w3 _ _ 0
  have x1 : (w3.alloc (.cells #[.int .i64 z.o, .int .i64 z.f, .int .i64 z.g, .bool z.y, .int .i64 z.r] 55)).cell? ⟨w3.heap.size, 1, none⟩ = some (.int .i64 z.f) := box5 w3 _ _ 1
  have x2 : (w3.alloc (.cells #[.int .i64 z.o, .int .i64 z.f, .int .i64 z.g, .bool z.y, .int .i64 z.r] 55)).cell? ⟨w3.heap.size, 2, none⟩ = some (.int .i64 z.g) := box5 w3 _ _ 2
  have x3 : (w3.alloc (.cells #[.int .i64 z.o, .int .i64 z.f, .int .i64 z.g, .bool z.y, .int .i64 z.r] 55)).cell? ⟨w3.heap.size, 3, none⟩ = some (.bool z.y) := box5 w3 _ _ 3
  have x4 : (w3.alloc (.cells #[.int .i64 z.o, .int .i64 z.f, .int .i64 z.g, .bool z.y, .int .i64 z.r] 55)).cell? ⟨w3.heap.size, 4, none⟩ = some (.int .i64 z.r) := box5 w3 _ _ 4
  clear h3
  generalize w3.alloc (.cells #[.int .i64 z.o, .int .i64 z.f, .int .i64 z.g, .bool z.y, .int .i64 z.r] 55) = W at *
  have h3 := h4.out
  have y5 := h3.1.rb.cell 5; have y6 := h3.1.rb.cell 6; have y7 := h3.1.rb.cell 7; have y8 := h3.1.rb.cell 8; have y9 := h3.1.rb.cell 9; have y13 := h3.1.rb.cell 13
  simp only [rdA, List.getElem?_toArray, List.getElem?_cons_zero, List.getElem?_cons_succ] at y5 y6 y7 y8 y9 y13
  have f5 := h3.1.rb.free 5; have f6 := h3.1.rb.free 6; have f7 := h3.1.rb.free 7; have f8 := h3.1.rb.free 8; have f9 := h3.1.rb.free 9; have f13 := h3.1.rb.free 13
  have H3 := Lib.hid h3
  clear h3 h4
  go_region_held3 (fun w' => w'.cell? ⟨w3.heap.size, 0, none⟩ = some (.int .i64 z.o) ∧ w'.cell? ⟨w3.heap.size, 1, none⟩ = some (.int .i64 z.f) ∧ w'.cell? ⟨w3.heap.size, 2, none⟩ = some (.int .i64 z.g) ∧ w'.cell? ⟨w3.heap.size, 3, none⟩ = some (.bool z.y) ∧ w'.cell? ⟨w3.heap.size, 4, none⟩ = some (.int .i64 z.r)) (first | (with_reducible exact ⟨x0, x1, x2, x3, x4⟩) | (with_reducible exact ⟨keepQ (keep5 x0 hne), keepQ (keep5 x1 hne), keepQ (keep5 x2 hne), keepQ (keep5 x3 hne), keepQ (keep5 x4 hne)⟩) | (with_reducible exact ⟨keepQ (keep1 (keep5 x0 hne) hne), keepQ (keep1 (keep5 x1 hne) hne), keepQ (keep1 (keep5 x2 hne) hne), keepQ (keep1 (keep5 x3 hne) hne), keepQ (keep1 (keep5 x4 hne) hne)⟩) | (with_reducible exact ⟨keepQ (keep1 x0 hne), keepQ (keep1 x1 hne), keepQ (keep1 x2 hne), keepQ (keep1 x3 hne), keepQ (keep1 x4 hne)⟩) | (with_reducible exact ⟨keepQ (keep5 (keep1 x0 hne) hne), keepQ (keep5 (keep1 x1 hne) hne), keepQ (keep5 (keep1 x2 hne) hne), keepQ (keep5 (keep1 x3 hne) hne), keepQ (keep5 (keep1 x4 hne) hne)⟩) | go_keep) (first | fail)
  all_goals
    go_wp2
    go_ret
    first | exact ⟨rfl, (((H3.out.shape z).opv z.o).drew)⟩ | exact ⟨rfl, (((H3.out.opv z.o).shape z).drew)⟩
set_option maxHeartbeats 400000 in
theorem opc_end (g : Nat) (R : Rd) (W0 w : World) (aE aR : Addr) (hsn : Sent W0 aE aR) (h : At W0 w g R) (hn : R.t.size ≤ R.n) :
    Calls Tryd.prog 56 #[.pointer (some ⟨g, 0, none⟩)] w fun e w' => e = endP ∧ Ch w w' g := by
  have CP := Lib.hid (takeNo g 1 R W0 w aE aR hsn h ok1 (by omega))
  clear h hsn hn
  unfold endP at *
  go_enter Tryd.func56, Tryd.ntmps56
  go_wp2_with fail
  refine Calls.mono CP.out ?_
  rintro e w1 ⟨rfl, h1⟩
  go_wp2
  exact ⟨rfl, rfl, h1⟩
theorem opcC (g : Nat) (R : Rd) (W0 w : World) (aE aR : Addr) (hsn : Sent W0 aE aR) (hA : Ari W0 7) (h : At W0 w g R) :
    Calls Tryd.prog 56 #[.pointer (some ⟨g, 0, none⟩)] w (StOut W0 w g (stO R)) := by
  unfold stO opcD
  by_cases hn : R.n < R.t.size
  · rw [if_pos hn]
    by_cases h0 : nb R.t R.n = 15
    · rw [if_pos h0]
      by_cases hk : R.n + 1 < R.t.size
      · rw [if_pos hk]
        by_cases hz : (shapeD true (nb R.t (R.n + 1))).f = 0
        · rw [if_pos hz]
          exact Calls.mono (opc_1bad g R W0 w h hn _ rfl (nb_lt _ _) h0 hk _ rfl (nb_lt _ _) hA _ rfl hz) fun e w' h => StOut.bad (by decide) h
        · rw [if_neg hz]
          exact opc_1ok g R W0 w h hn _ rfl (nb_lt _ _) h0 hk _ rfl (nb_lt _ _) hA _ rfl hz
      · rw [if_neg hk]
        exact Calls.mono (opc_1end g R W0 w aE aR hsn h hn _ rfl (nb_lt _ _) h0 (by omega)) fun e w' h => StOut.end h
    · rw [if_neg h0]
      by_cases hz : (shapeD false (nb R.t R.n)).f = 0
      · rw [if_pos hz]
        exact Calls.mono (opc_0bad g R W0 w h hn _ rfl (nb_lt _ _) h0 hA _ rfl hz) fun e w' h => StOut.bad (by decide) h
      · rw [if_neg hz]
        exact opc_0ok g R W0 w h hn _ rfl (nb_lt _ _) h0 hA _ rfl hz
  · rw [if_neg hn]
    exact Calls.mono (opc_end g R W0 w aE aR hsn h (by omega)) fun e w' h => StOut.end h
end Go.Proofs.YtinjpobepcenfaaDoor
