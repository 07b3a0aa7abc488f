/-
  What modRM, size and addressed of impl's reader do; conditions: those in each head.
-/
import Derived.Test.YtinjpobepcenfaaDoorWalkRd10
namespace Go.Proofs.YtinjpobepcenfaaDoor
open Go.RowKit Go.Sort
set_option linter.unusedVariables false
theorem hasMYes (f : Int) (w : World) (h : hasM f) : Calls Tryd.prog 94 #[.int .i64 f] w fun e w' => e = .returned (.bool true) ∧ w' = w := by
  rcases h with h | h | h | h | h | h | h | h | h
  all_goals
    subst h
    go_enter Tryd.func94, Tryd.ntmps94
    go_wp2
    go_ret
    exact ⟨rfl, rfl⟩
theorem hasMNo (f : Int) (w : World) (h : ¬ hasM f) : Calls Tryd.prog 94 #[.int .i64 f] w fun e w' => e = .returned (.bool false) ∧ w' = w := by
  obtain ⟨a1, a2, a4, a5, a6, a11, a12, a13, a17⟩ : (f == 1) = false ∧ (f == 2) = false ∧ (f == 4) = false ∧ (f == 5) = false ∧ (f == 6) = false ∧ (f == 11) = false ∧ (f == 12) = false ∧ (f == 13) = false ∧ (f == 17) = false := by
    unfold hasM at h
    simp only [beq_eq_false_iff_ne]
    omega
  clear h
  go_enter Tryd.func94, Tryd.ntmps94
  go_wp2
  go_ret
  exact ⟨rfl, rfl⟩
/-- a size that stands fixed -/
def fixD (op : Int) (y : Bool) : Int × Bool := if op = 29 ∨ op = 30 ∨ op = 31 ∨ op = 32 then (8, true) else if op = 33 ∨ op = 34 ∨ op = 37 ∨ op = 38 ∨ op = 43 ∨ op = 44 then (0, true) else (1, y)
theorem fixC (op : Int) (y : Bool) (w : World) : Calls Tryd.prog 96 #[.int .i64 op, .bool y] w fun e w' => e = .returned (.tuple #[.int .i64 (fixD op y).1, .bool (fixD op y).2]) ∧ w' = w := by
  unfold fixD
  by_cases h : op = 29 ∨ op = 30 ∨ op = 31 ∨ op = 32
  · rw [if_pos h]
    rcases h with h | h | h | h
    all_goals
      subst h
      go_enter Tryd.func96, Tryd.ntmps96
      go_wp2
      go_ret2
      exact ⟨rfl, rfl⟩
  · rw [if_neg h]
    obtain ⟨a1, a2, a3, a4⟩ : (op == 29) = false ∧ (op == 30) = false ∧ (op == 31) = false ∧ (op == 32) = false := by simp only [beq_eq_false_iff_ne]; omega
    clear h
    by_cases h : op = 33 ∨ op = 34 ∨ op = 37 ∨ op = 38 ∨ op = 43 ∨ op = 44
    · rw [if_pos h]
      rcases h with h | h | h | h | h | h
      all_goals
        subst h
        go_enter Tryd.func96, Tryd.ntmps96
        go_wp2
        go_ret2
        exact ⟨rfl, rfl⟩
    · rw [if_neg h]
      obtain ⟨b1, b2, b3, b4, b5, b6⟩ : (op == 33) = false ∧ (op == 34) = false ∧ (op == 37) = false ∧ (op == 38) = false ∧ (op == 43) = false ∧ (op == 44) = false := by simp only [beq_eq_false_iff_ne]; omega
      clear h
      go_enter Tryd.func96, Tryd.ntmps96
      go_wp2
      go_ret2
      exact ⟨rfl, rfl⟩
/-! ModRM -/
def stM (R : Rd) : Except Int Rd :=
  if hasM R.z.f then
    if R.n < R.t.size then
      if R.z.g = 0 then .ok { R with n := R.n + 1, md := nb R.t R.n / 64, rg := nb R.t R.n / 8 % 8, rm := nb R.t R.n % 8 }
      else if grp (R.z.g - 1).toNat (nb R.t R.n / 8 % 8) = 0 then .error 11
      else .ok { R with n := R.n + 1, md := nb R.t R.n / 64, rg := nb R.t R.n / 8 % 8, rm := nb R.t R.n % 8, op := grp (R.z.g - 1).toNat (nb R.t R.n / 8 % 8) }
    else .error 9
  else .ok R
theorem Wr.mrr {W0 w W : World} {g : Nat} {R : Rd} (h : Wr W0 w W g R) (a b c : Nat) : Wr W0 w (((W.setCell ⟨g, 10, none⟩ (.int .i64 (a : Int))).setCell ⟨g, 11, none⟩ (.int .i64 (b : Int))).setCell ⟨g, 12, none⟩ (.int .i64 (c : Int))) g { R with md := a, rg := b, rm := c } :=
  ⟨((h.1.set1 (R' := { R with md := a }) 10 _ rfl rfl rfl).set1 (R' := { R with md := a, rg := b }) 11 _ rfl rfl rfl).set1 12 _ rfl rfl rfl, Ch.set (Ch.set (Ch.set h.2 10 _) 11 _) 12 _⟩
theorem Wr.mrb {W0 w W : World} {g : Nat} {R : Rd} (h : Wr W0 w W g R) (b : Nat) : Wr W0 w (((W.setCell ⟨g, 10, none⟩ (.int .i64 ((b : Int) / 64))).setCell ⟨g, 11, none⟩ (.int .i64 ((b : Int) / 8 % 8))).setCell ⟨g, 12, none⟩ (.int .i64 ((b : Int) % 8))) g { R with md := b / 64, rg := b / 8 % 8, rm := b % 8 } := by
  have := h.mrr (b / 64) (b / 8 % 8) (b % 8)
  exact this
set_option maxRecDepth 100000 in
set_option maxHeartbeats 2000000 in
theorem mrNone (g : Nat) (R : Rd) (W0 w : World) (h : At W0 w g R) (hf : ¬ hasM R.z.f) :
    Calls Tryd.prog 57 #[.pointer (some ⟨g, 0, none⟩)] w fun e w' => e = .returned (.int .i64 0) ∧ Wr W0 w w' g R := by
  have c6 := h.rb.cell 6
  simp only [rdA, List.getElem?_toArray, List.getElem?_cons_zero, List.getElem?_cons_succ] at c6
  have CM := Lib.hid (fun w => hasMNo R.z.f w hf)
  have H := Lib.hid h
  clear h hf
  go_enter Tryd.func57, Tryd.ntmps57
  go_wp2_with fail
  refine Calls.mono (CM.out _) ?_
  rintro e w1 ⟨rfl, rfl⟩
  go_wp2
  go_ret
  exact ⟨rfl, H.out, Ch.refl _ _⟩
set_option maxRecDepth 100000 in
set_option maxHeartbeats 2000000 in
theorem mrEnd (g : Nat) (R : Rd) (W0 w : World) (aE aR : Addr) (hsn : Sent W0 aE aR) (h : At W0 w g R) (hf : hasM R.z.f) (hn : R.t.size ≤ R.n) :
    Calls Tryd.prog 57 #[.pointer (some ⟨g, 0, none⟩)] w fun e w' => e = endP ∧ Ch w w' g := by
  have c6 := h.rb.cell 6
  have c7 := h.rb.cell 7
  simp only [rdA, List.getElem?_toArray, List.getElem?_cons_zero, List.getElem?_cons_succ] at c6 c7
  have CM := Lib.hid (fun w => hasMYes R.z.f w hf)
  have CP := Lib.hid (takeNo g 1 R W0 w aE aR hsn h ok1 (by omega))
  unfold endP at *
  clear h hf hn hsn
  go_enter Tryd.func57, Tryd.ntmps57
  go_wp2_with fail
  refine Calls.mono (CM.out _) ?_
  rintro e w1 ⟨rfl, rfl⟩
  go_wp2_with fail
  refine Calls.mono CP.out ?_
  rintro e w2 ⟨rfl, hc⟩
  go_wp2
  exact ⟨rfl, rfl, hc⟩
set_option maxRecDepth 100000 in
set_option maxHeartbeats 2000000 in
theorem mr_zero (g : Nat) (R : Rd) (W0 w : World) (h : At W0 w g R) (hf : hasM R.z.f) (hn : R.n < R.t.size) (b : Nat) (hb : nb R.t R.n = b) (hb8 : b < 256) (hg : R.z.g = 0) :
    Calls Tryd.prog 57 #[.pointer (some ⟨g, 0, none⟩)] w fun e w' => e = .returned (.int .i64 0) ∧ Wr W0 w w' g { R with n := R.n + 1, md := b / 64, rg := b / 8 % 8, rm := b % 8 } := by
  have c6 := h.rb.cell 6
  have c7 := h.rb.cell 7
  simp only [rdA, List.getElem?_toArray, List.getElem?_cons_zero, List.getElem?_cons_succ] at c6 c7
  have CM := Lib.hid (fun w => hasMYes R.z.f w hf)
  have CP0 := takeYes g 1 R W0 w h ok1 hn
  rw [take1, hb] at CP0
  have CP := Lib.hid CP0
  have a3 := sh3 b hb8
  have a7 := and7 b hb8
  rw [hg] at c7
  have HG := Lib.hid hg
  have hmix := mixedR
  clear h hf hn hb CP0 hg
  go_enter Tryd.func57, Tryd.ntmps57
  go_wp2_with fail
  refine Calls.mono (CM.out _) ?_
  rintro e w1 ⟨rfl, rfl⟩
  go_wp2_with fail
  refine Calls.mono CP.out ?_
  rintro e w2 ⟨rfl, h2⟩
  have y7 := h2.1.rb.cell 7; have y10 := h2.1.rb.cell 10; have y11 := h2.1.rb.cell 11; have y12 := h2.1.rb.cell 12; have y13 := h2.1.rb.cell 13
  simp only [rdA, List.getElem?_toArray, List.getElem?_cons_zero, List.getElem?_cons_succ] at y7 y10 y11 y12 y13
  have f7 := h2.1.rb.free 7; have f10 := h2.1.rb.free 10; have f11 := h2.1.rb.free 11; have f12 := h2.1.rb.free 12; have f13 := h2.1.rb.free 13
  rw [HG.out] at y7
  have M2 := Lib.hid (h2.mrb b)
  clear h2
  go_wp2
  go_ret
  exact ⟨rfl, M2.out⟩
set_option maxRecDepth 100000 in
set_option maxHeartbeats 2000000 in
theorem mr_bad (g : Nat) (R : Rd) (W0 w : World) (h : At W0 w g R) (hf : hasM R.z.f) (hn : R.n < R.t.size) (b : Nat) (hb : nb R.t R.n = b) (hb8 : b < 256) (i : Nat) (hi : R.z.g = (i : Int) + 1) (hi7 : i < 7) (hG : Grps W0 6) (v : Int) (hv : grp i (b / 8 % 8) = v) (hv0 : v = 0) :
    Calls Tryd.prog 57 #[.pointer (some ⟨g, 0, none⟩)] w fun e w' => e = .returned (.int .i64 11) ∧ Ch w w' g := by
  have c6 := h.rb.cell 6
  have c7 := h.rb.cell 7
  simp only [rdA, List.getElem?_toArray, List.getElem?_cons_zero, List.getElem?_cons_succ] at c6 c7
  have CM := Lib.hid (fun w => hasMYes R.z.f w hf)
  have CP0 := takeYes g 1 R W0 w h ok1 hn
  rw [take1, hb] at CP0
  have CP := Lib.hid CP0
  have a3 := sh3 b hb8
  have a7 := and7 b hb8
  rw [hi] at c7
  have HG := Lib.hid hi
  have z7 : (((i : Int) + 1) == 0) = false := by simp only [beq_eq_false_iff_ne]; omega
  have CG : Hid (∀ W, Below W0.heap.size W0 W → Calls Tryd.prog 95 #[.int .i64 ((i : Int) + 1), .int .i64 ((b / 8 % 8 : Nat) : Int)] W fun e w' => e = .returned (.tuple #[.int .i64 v, .int .i64 11]) ∧ w' = W) := Lib.hid (fun W hW => Calls.mono (groupI i (b / 8 % 8) W hi7 (by omega) (hG.below hW)) fun e w' ⟨he, hw⟩ => ⟨by rw [hv] at he; unfold GrpOut grpCode at he; rw [if_pos hv0] at he; exact he, hw.symm⟩)
  have hmix := mixedR
  clear h hf hn hb CP0 hi hG hv hv0
  go_enter Tryd.func57, Tryd.ntmps57
  go_wp2_with fail
  refine Calls.mono (CM.out _) ?_
  rintro e w1 ⟨rfl, rfl⟩
  go_wp2_with fail
  refine Calls.mono CP.out ?_
  rintro e w2 ⟨rfl, h2⟩
  have y7 := h2.1.rb.cell 7; have y10 := h2.1.rb.cell 10; have y11 := h2.1.rb.cell 11; have y12 := h2.1.rb.cell 12; have y13 := h2.1.rb.cell 13
  simp only [rdA, List.getElem?_toArray, List.getElem?_cons_zero, List.getElem?_cons_succ] at y7 y10 y11 y12 y13
  have f7 := h2.1.rb.free 7; have f10 := h2.1.rb.free 10; have f11 := h2.1.rb.free 11; have f12 := h2.1.rb.free 12; have f13 := h2.1.rb.free 13
  rw [HG.out] at y7
  have M2 := Lib.hid (h2.mrb b)
  clear h2
  go_wp2_with fail
  have hM := M2.out
  generalize hV : ((w2.setCell ⟨g, 10, none⟩ (.int .i64 ((b : Int) / 64))).setCell ⟨g, 11, none⟩ (.int .i64 ((b : Int) / 8 % 8))).setCell ⟨g, 12, none⟩ (.int .i64 ((b : Int) % 8)) = V at *
  clear hV y7 y10 y11 y12 y13 f7 f10 f11 f12 f13
  have y7 := hM.1.rb.cell 7; have y11 := hM.1.rb.cell 11; have y13 := hM.1.rb.cell 13
  simp only [rdA, List.getElem?_toArray, List.getElem?_cons_zero, List.getElem?_cons_succ] at y7 y11 y13
  have f7 := hM.1.rb.free 7; have f11 := hM.1.rb.free 11; have f13 := hM.1.rb.free 13
  rw [HG.out] at y7
  have HM := Lib.hid hM
  clear hM
  go_quiet ((go_at_call 95; exact Calls.quiet_of_same (CG.out _ (HM.out.1.be.trans ((belQ _ _).mono HM.out.1.be.size)))))
  go_wp2
  go_ret
  exact ⟨rfl, (Wr.opv (Wr.below HM.out (belQ _ nq)) v).2⟩
set_option maxRecDepth 100000 in
set_option maxHeartbeats 2000000 in
theorem mr_ok (g : Nat) (R : Rd) (W0 w : World) (h : At W0 w g R) (hf : hasM R.z.f) (hn : R.n < R.t.size) (b : Nat) (hb : nb R.t R.n = b) (hb8 : b < 256) (i : Nat) (hi : R.z.g = (i : Int) + 1) (hi7 : i < 7) (hG : Grps W0 6) (v : Int) (hv : grp i (b / 8 % 8) = v) (hv0 : v ≠ 0) :
    Calls Tryd.prog 57 #[.pointer (some ⟨g, 0, none⟩)] w fun e w' => e = .returned (.int .i64 0) ∧ Wr W0 w w' g { R with n := R.n + 1, md := b / 64, rg := b / 8 % 8, rm := b % 8, op := v } := by
  have c6 := h.rb.cell 6
  have c7 := h.rb.cell 7
  simp only [rdA, List.getElem?_toArray, List.getElem?_cons_zero, List.getElem?_cons_succ] at c6 c7
  have CM := Lib.hid (fun w => hasMYes R.z.f w hf)
  have CP0 := takeYes g 1 R W0 w h ok1 hn
  rw [take1, hb] at CP0
  have CP := Lib.hid CP0
  have a3 := sh3 b hb8
  have a7 := and7 b hb8
  rw [hi] at c7
  have HG := Lib.hid hi
  have z7 : (((i : Int) + 1) == 0) = false := by simp only [beq_eq_false_iff_ne]; omega
  have CG : Hid (∀ W, Below W0.heap.size W0 W → Calls Tryd.prog 95 #[.int .i64 ((i : Int) + 1), .int .i64 ((b / 8 % 8 : Nat) : Int)] W fun e w' => e = .returned (.tuple #[.int .i64 v, .int .i64 0]) ∧ w' = W) := Lib.hid (fun W hW => Calls.mono (groupI i (b / 8 % 8) W hi7 (by omega) (hG.below hW)) fun e w' ⟨he, hw⟩ => ⟨by rw [hv] at he; unfold GrpOut grpCode at he; rw [if_neg hv0] at he; exact he, hw.symm⟩)
  have hmix := mixedR
  clear h hf hn hb CP0 hi hG hv hv0
  go_enter Tryd.func57, Tryd.ntmps57
  go_wp2_with fail
  refine Calls.mono (CM.out _) ?_
  rintro e w1 ⟨rfl, rfl⟩
  go_wp2_with fail
  refine Calls.mono CP.out ?_
  rintro e w2 ⟨rfl, h2⟩
  have y7 := h2.1.rb.cell 7; have y10 := h2.1.rb.cell 10; have y11 := h2.1.rb.cell 11; have y12 := h2.1.rb.cell 12; have y13 := h2.1.rb.cell 13
  simp only [rdA, List.getElem?_toArray, List.getElem?_cons_zero, List.getElem?_cons_succ] at y7 y10 y11 y12 y13
  have f7 := h2.1.rb.free 7; have f10 := h2.1.rb.free 10; have f11 := h2.1.rb.free 11; have f12 := h2.1.rb.free 12; have f13 := h2.1.rb.free 13
  rw [HG.out] at y7
  have M2 := Lib.hid (h2.mrb b)
  clear h2
  go_wp2_with fail
  have hM := M2.out
  generalize hV : ((w2.setCell ⟨g, 10, none⟩ (.int .i64 ((b : Int) / 64))).setCell ⟨g, 11, none⟩ (.int .i64 ((b : Int) / 8 % 8))).setCell ⟨g, 12, none⟩ (.int .i64 ((b : Int) % 8)) = V at *
  clear hV y7 y10 y11 y12 y13 f7 f10 f11 f12 f13
  have y7 := hM.1.rb.cell 7; have y11 := hM.1.rb.cell 11; have y13 := hM.1.rb.cell 13
  simp only [rdA, List.getElem?_toArray, List.getElem?_cons_zero, List.getElem?_cons_succ] at y7 y11 y13
  have f7 := hM.1.rb.free 7; have f11 := hM.1.rb.free 11; have f13 := hM.1.rb.free 13
  rw [HG.out] at y7
  have HM := Lib.hid hM
  clear hM
  go_quiet ((go_at_call 95; exact Calls.quiet_of_same (CG.out _ (HM.out.1.be.trans ((belQ _ _).mono HM.out.1.be.size)))))
  go_wp2
  go_ret
  exact ⟨rfl, (Wr.opv (Wr.below HM.out (belQ _ nq)) v)⟩
end Go.Proofs.YtinjpobepcenfaaDoor
