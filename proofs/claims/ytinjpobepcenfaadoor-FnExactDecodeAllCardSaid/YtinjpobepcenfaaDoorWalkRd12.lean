/-
  What modRM, size and addressed of impl's reader do, whole; conditions: those in each head.
-/
import Derived.Test.YtinjpobepcenfaaDoorWalkRd11
namespace Go.Proofs.YtinjpobepcenfaaDoor
open Go.RowKit Go.Sort
set_option linter.unusedVariables false
theorem mrC (g : Nat) (R : Rd) (W0 w : World) (aE aR : Addr) (hsn : Sent W0 aE aR) (hG : Grps W0 6) (hg : 0 ≤ R.z.g ∧ R.z.g ≤ 7) (h : At W0 w g R) :
    Calls Tryd.prog 57 #[.pointer (some ⟨g, 0, none⟩)] w (StOut W0 w g (stM R)) := by
  unfold stM
  by_cases hf : hasM R.z.f
  · rw [if_pos hf]
    by_cases hn : R.n < R.t.size
    · rw [if_pos hn]
      by_cases h0 : R.z.g = 0
      · rw [if_pos h0]; exact mr_zero g R W0 w h hf hn _ rfl (nb_lt _ _) h0
      · rw [if_neg h0]
        by_cases hv : grp (R.z.g - 1).toNat (nb R.t R.n / 8 % 8) = 0
        · rw [if_pos hv]
          exact Calls.mono (mr_bad g R W0 w h hf hn _ rfl (nb_lt _ _) (R.z.g - 1).toNat (by omega) (by omega) hG _ rfl hv) fun e w' h => StOut.bad (by decide) h
        · rw [if_neg hv]
          exact mr_ok g R W0 w h hf hn _ rfl (nb_lt _ _) (R.z.g - 1).toNat (by omega) (by omega) hG _ rfl hv
    · rw [if_neg hn]; exact Calls.mono (mrEnd g R W0 w aE aR hsn h hf (by omega)) fun e w' h => StOut.end h
  · rw [if_neg hf]; exact mrNone g R W0 w h hf
/-! size -/
def sizeV (R : Rd) : Int := if (fixD R.op R.z.y).2 = true then (fixD R.op R.z.y).1 else if R.rex / 2 ^ 3 % 2 = 1 then 8 else if R.w = true then 2 else 4
def stS (R : Rd) : Except Int Rd :=
  if (fixD R.op R.z.y).2 = true ∧ R.w = true then .error 10
  else if R.z.r ≠ 0 ∧ sizeV R ≤ R.z.r then .error 10
  else .ok { R with sz := sizeV R, fr := R.z.r }
theorem Wr.szf {W0 w W : World} {g : Nat} {R : Rd} (h : Wr W0 w W g R) (a b : Int) : Wr W0 w ((W.setCell ⟨g, 14, none⟩ (.int .i64 a)).setCell ⟨g, 16, none⟩ (.int .i64 b)) g { R with sz := a, fr := b } :=
  ⟨(h.1.set1 (R' := { R with sz := a }) 14 _ rfl rfl rfl).set1 16 _ rfl rfl rfl, Ch.set (Ch.set h.2 14 _) 16 _⟩
theorem and8 : ∀ x, x < 80 → bits .and .i64 ((x : Nat) : Int) 8 = if x / 2 ^ 3 % 2 = 1 then 8 else 0 := by decide +kernel
set_option maxRecDepth 100000 in
set_option maxHeartbeats 2000000 in
theorem sz_fixw (g : Nat) (R : Rd) (W0 w : World) (h : At W0 w g R) (hx : R.rex < 80) (s0 : Int) (fx : Bool) (hfx : fixD R.op R.z.y = (s0, fx)) (hfx2 : fx = true) (hw : R.w = true) :
    Calls Tryd.prog 58 #[.pointer (some ⟨g, 0, none⟩)] w fun e w' => e = .returned (.int .i64 10) ∧ Ch w w' g := by
  have c2 := h.rb.cell 2
  have c3 := h.rb.cell 3
  have c8 := h.rb.cell 8
  have c9 := h.rb.cell 9
  have c13 := h.rb.cell 13
  have c14 := h.rb.cell 14
  have c16 := h.rb.cell 16
  simp only [rdA, List.getElem?_toArray, List.getElem?_cons_zero, List.getElem?_cons_succ] at c2 c3 c8 c9 c13 c14 c16
  have f14 := h.rb.free 14; have f16 := h.rb.free 16
  have CF := Lib.hid (fun w => fixC R.op R.z.y w)
  rw [hfx, hfx2] at CF
  have H := Lib.hid h
  rw [hw] at c2
  have hmix := mixedR
  clear h hx hfx hfx2 hw
  go_enter Tryd.func58, Tryd.ntmps58
  go_wp2_with fail
  go_quiet ((go_at_call 96; exact Calls.quiet_of_same (CF.out _)))
  go_wp2
  go_ret
  exact ⟨rfl, (Ch.refl w g).drewN nq⟩
set_option maxRecDepth 100000 in
set_option maxHeartbeats 2000000 in
theorem sz_fix_ok0 (g : Nat) (R : Rd) (W0 w : World) (h : At W0 w g R) (hx : R.rex < 80) (s0 : Int) (fx : Bool) (hfx : fixD R.op R.z.y = (s0, fx)) (hfx2 : fx = true) (hw : R.w = false) (hz : R.z.r = 0) :
    Calls Tryd.prog 58 #[.pointer (some ⟨g, 0, none⟩)] w fun e w' => e = .returned (.int .i64 0) ∧ Wr W0 w w' g { R with sz := s0, fr := R.z.r } := by
  have c2 := h.rb.cell 2
  have c3 := h.rb.cell 3
  have c8 := h.rb.cell 8
  have c9 := h.rb.cell 9
  have c13 := h.rb.cell 13
  have c14 := h.rb.cell 14
  have c16 := h.rb.cell 16
  simp only [rdA, List.getElem?_toArray, List.getElem?_cons_zero, List.getElem?_cons_succ] at c2 c3 c8 c9 c13 c14 c16
  have f14 := h.rb.free 14; have f16 := h.rb.free 16
  have CF := Lib.hid (fun w => fixC R.op R.z.y w)
  rw [hfx, hfx2] at CF
  have H := Lib.hid h
  rw [hw] at c2
  have HZ := Lib.hid hz
  rw [hz] at c9
  have hmix := mixedR
  clear h hx hfx hfx2 hw hz
  go_enter Tryd.func58, Tryd.ntmps58
  go_wp2_with fail
  go_quiet ((go_at_call 96; exact Calls.quiet_of_same (CF.out _)))
  go_wp2
  go_ret
  have a := Wr.szf (Wr.below ⟨H.out, Ch.refl w g⟩ (belQ _ nq)) (s0) 0
  have e := HZ.out
  exact ⟨rfl, by rw [e]; exact a⟩
set_option maxRecDepth 100000 in
set_option maxHeartbeats 2000000 in
theorem sz_fix_ok (g : Nat) (R : Rd) (W0 w : World) (h : At W0 w g R) (hx : R.rex < 80) (s0 : Int) (fx : Bool) (hfx : fixD R.op R.z.y = (s0, fx)) (hfx2 : fx = true) (hw : R.w = false) (hz : R.z.r ≠ 0) (hle : ¬ s0 ≤ R.z.r) :
    Calls Tryd.prog 58 #[.pointer (some ⟨g, 0, none⟩)] w fun e w' => e = .returned (.int .i64 0) ∧ Wr W0 w w' g { R with sz := s0, fr := R.z.r } := by
  have c2 := h.rb.cell 2
  have c3 := h.rb.cell 3
  have c8 := h.rb.cell 8
  have c9 := h.rb.cell 9
  have c13 := h.rb.cell 13
  have c14 := h.rb.cell 14
  have c16 := h.rb.cell 16
  simp only [rdA, List.getElem?_toArray, List.getElem?_cons_zero, List.getElem?_cons_succ] at c2 c3 c8 c9 c13 c14 c16
  have f14 := h.rb.free 14; have f16 := h.rb.free 16
  have CF := Lib.hid (fun w => fixC R.op R.z.y w)
  rw [hfx, hfx2] at CF
  have H := Lib.hid h
  rw [hw] at c2
  have d0 : (R.z.r != 0) = true := bne_iff_ne.mpr hz
  have d1 := decide_eq_false hle
  have hmix := mixedR
  clear h hx hfx hfx2 hw hz hle
  go_enter Tryd.func58, Tryd.ntmps58
  go_wp2_with fail
  go_quiet ((go_at_call 96; exact Calls.quiet_of_same (CF.out _)))
  go_wp2
  go_ret
  exact ⟨rfl, Wr.szf (Wr.below ⟨H.out, Ch.refl w g⟩ (belQ _ nq)) (s0) _⟩
set_option maxRecDepth 100000 in
set_option maxHeartbeats 2000000 in
theorem sz_fix_bad (g : Nat) (R : Rd) (W0 w : World) (h : At W0 w g R) (hx : R.rex < 80) (s0 : Int) (fx : Bool) (hfx : fixD R.op R.z.y = (s0, fx)) (hfx2 : fx = true) (hw : R.w = false) (hz : R.z.r ≠ 0) (hle : s0 ≤ R.z.r) :
    Calls Tryd.prog 58 #[.pointer (some ⟨g, 0, none⟩)] w fun e w' => e = .returned (.int .i64 10) ∧ Ch w w' g := by
  have c2 := h.rb.cell 2
  have c3 := h.rb.cell 3
  have c8 := h.rb.cell 8
  have c9 := h.rb.cell 9
  have c13 := h.rb.cell 13
  have c14 := h.rb.cell 14
  have c16 := h.rb.cell 16
  simp only [rdA, List.getElem?_toArray, List.getElem?_cons_zero, List.getElem?_cons_succ] at c2 c3 c8 c9 c13 c14 c16
  have f14 := h.rb.free 14; have f16 := h.rb.free 16
  have CF := Lib.hid (fun w => fixC R.op R.z.y w)
  rw [hfx, hfx2] at CF
  have H := Lib.hid h
  rw [hw] at c2
  have d0 : (R.z.r != 0) = true := bne_iff_ne.mpr hz
  have d1 := decide_eq_true hle
  have hmix := mixedR
  clear h hx hfx hfx2 hw hz hle
  go_enter Tryd.func58, Tryd.ntmps58
  go_wp2_with fail
  go_quiet ((go_at_call 96; exact Calls.quiet_of_same (CF.out _)))
  go_wp2
  go_ret
  exact ⟨rfl, (Ch.refl w g).drewN nq⟩
set_option maxRecDepth 100000 in
set_option maxHeartbeats 2000000 in
theorem sz_rex_ok0 (g : Nat) (R : Rd) (W0 w : World) (h : At W0 w g R) (hx : R.rex < 80) (s0 : Int) (fx : Bool) (hfx : fixD R.op R.z.y = (s0, fx)) (hfx2 : fx = false) (hr : R.rex / 2 ^ 3 % 2 = 1) (hz : R.z.r = 0) :
    Calls Tryd.prog 58 #[.pointer (some ⟨g, 0, none⟩)] w fun e w' => e = .returned (.int .i64 0) ∧ Wr W0 w w' g { R with sz := 8, fr := R.z.r } := by
  have c2 := h.rb.cell 2
  have c3 := h.rb.cell 3
  have c8 := h.rb.cell 8
  have c9 := h.rb.cell 9
  have c13 := h.rb.cell 13
  have c14 := h.rb.cell 14
  have c16 := h.rb.cell 16
  simp only [rdA, List.getElem?_toArray, List.getElem?_cons_zero, List.getElem?_cons_succ] at c2 c3 c8 c9 c13 c14 c16
  have f14 := h.rb.free 14; have f16 := h.rb.free 16
  have CF := Lib.hid (fun w => fixC R.op R.z.y w)
  rw [hfx, hfx2] at CF
  have H := Lib.hid h
  have ha := and8 R.rex hx
  rw [if_pos hr] at ha
  have HZ := Lib.hid hz
  rw [hz] at c9
  have hmix := mixedR
  clear h hx hfx hfx2 hr hz
  go_enter Tryd.func58, Tryd.ntmps58
  go_wp2_with fail
  go_quiet ((go_at_call 96; exact Calls.quiet_of_same (CF.out _)))
  go_wp2
  go_ret
  have a := Wr.szf (Wr.below ⟨H.out, Ch.refl w g⟩ (belQ _ nq)) (8) 0
  have e := HZ.out
  exact ⟨rfl, by rw [e]; exact a⟩
set_option maxRecDepth 100000 in
set_option maxHeartbeats 2000000 in
theorem sz_rex_ok (g : Nat) (R : Rd) (W0 w : World) (h : At W0 w g R) (hx : R.rex < 80) (s0 : Int) (fx : Bool) (hfx : fixD R.op R.z.y = (s0, fx)) (hfx2 : fx = false) (hr : R.rex / 2 ^ 3 % 2 = 1) (hz : R.z.r ≠ 0) (hle : ¬ 8 ≤ R.z.r) :
    Calls Tryd.prog 58 #[.pointer (some ⟨g, 0, none⟩)] w fun e w' => e = .returned (.int .i64 0) ∧ Wr W0 w w' g { R with sz := 8, fr := R.z.r } := by
  have c2 := h.rb.cell 2
  have c3 := h.rb.cell 3
  have c8 := h.rb.cell 8
  have c9 := h.rb.cell 9
  have c13 := h.rb.cell 13
  have c14 := h.rb.cell 14
  have c16 := h.rb.cell 16
  simp only [rdA, List.getElem?_toArray, List.getElem?_cons_zero, List.getElem?_cons_succ] at c2 c3 c8 c9 c13 c14 c16
  have f14 := h.rb.free 14; have f16 := h.rb.free 16
  have CF := Lib.hid (fun w => fixC R.op R.z.y w)
  rw [hfx, hfx2] at CF
  have H := Lib.hid h
  have ha := and8 R.rex hx
  rw [if_pos hr] at ha
  have d0 : (R.z.r != 0) = true := bne_iff_ne.mpr hz
  have d1 := decide_eq_false hle
  have hmix := mixedR
  clear h hx hfx hfx2 hr hz hle
  go_enter Tryd.func58, Tryd.ntmps58
  go_wp2_with fail
  go_quiet ((go_at_call 96; exact Calls.quiet_of_same (CF.out _)))
  go_wp2
  go_ret
  exact ⟨rfl, Wr.szf (Wr.below ⟨H.out, Ch.refl w g⟩ (belQ _ nq)) (8) _⟩
set_option maxRecDepth 100000 in
set_option maxHeartbeats 2000000 in
theorem sz_rex_bad (g : Nat) (R : Rd) (W0 w : World) (h : At W0 w g R) (hx : R.rex < 80) (s0 : Int) (fx : Bool) (hfx : fixD R.op R.z.y = (s0, fx)) (hfx2 : fx = false) (hr : R.rex / 2 ^ 3 % 2 = 1) (hz : R.z.r ≠ 0) (hle : 8 ≤ R.z.r) :
    Calls Tryd.prog 58 #[.pointer (some ⟨g, 0, none⟩)] w fun e w' => e = .returned (.int .i64 10) ∧ Ch w w' g := by
  have c2 := h.rb.cell 2
  have c3 := h.rb.cell 3
  have c8 := h.rb.cell 8
  have c9 := h.rb.cell 9
  have c13 := h.rb.cell 13
  have c14 := h.rb.cell 14
  have c16 := h.rb.cell 16
  simp only [rdA, List.getElem?_toArray, List.getElem?_cons_zero, List.getElem?_cons_succ] at c2 c3 c8 c9 c13 c14 c16
  have f14 := h.rb.free 14; have f16 := h.rb.free 16
  have CF := Lib.hid (fun w => fixC R.op R.z.y w)
  rw [hfx, hfx2] at CF
  have H := Lib.hid h
  have ha := and8 R.rex hx
  rw [if_pos hr] at ha
  have d0 : (R.z.r != 0) = true := bne_iff_ne.mpr hz
  have d1 := decide_eq_true hle
  have hmix := mixedR
  clear h hx hfx hfx2 hr hz hle
  go_enter Tryd.func58, Tryd.ntmps58
  go_wp2_with fail
  go_quiet ((go_at_call 96; exact Calls.quiet_of_same (CF.out _)))
  go_wp2
  go_ret
  exact ⟨rfl, (Ch.refl w g).drewN nq⟩
set_option maxRecDepth 100000 in
set_option maxHeartbeats 2000000 in
theorem sz_w_ok0 (g : Nat) (R : Rd) (W0 w : World) (h : At W0 w g R) (hx : R.rex < 80) (s0 : Int) (fx : Bool) (hfx : fixD R.op R.z.y = (s0, fx)) (hfx2 : fx = false) (hr : ¬ R.rex / 2 ^ 3 % 2 = 1) (hw : R.w = true) (hz : R.z.r = 0) :
    Calls Tryd.prog 58 #[.pointer (some ⟨g, 0, none⟩)] w fun e w' => e = .returned (.int .i64 0) ∧ Wr W0 w w' g { R with sz := 2, fr := R.z.r } := by
  have c2 := h.rb.cell 2
  have c3 := h.rb.cell 3
  have c8 := h.rb.cell 8
  have c9 := h.rb.cell 9
  have c13 := h.rb.cell 13
  have c14 := h.rb.cell 14
  have c16 := h.rb.cell 16
  simp only [rdA, List.getElem?_toArray, List.getElem?_cons_zero, List.getElem?_cons_succ] at c2 c3 c8 c9 c13 c14 c16
  have f14 := h.rb.free 14; have f16 := h.rb.free 16
  have CF := Lib.hid (fun w => fixC R.op R.z.y w)
  rw [hfx, hfx2] at CF
  have H := Lib.hid h
  rw [hw] at c2
  have ha := and8 R.rex hx
  rw [if_neg hr] at ha
  have HZ := Lib.hid hz
  rw [hz] at c9
  have hmix := mixedR
  clear h hx hfx hfx2 hw hr hz
  go_enter Tryd.func58, Tryd.ntmps58
  go_wp2_with fail
  go_quiet ((go_at_call 96; exact Calls.quiet_of_same (CF.out _)))
  go_wp2
  go_ret
  have a := Wr.szf (Wr.below ⟨H.out, Ch.refl w g⟩ (belQ _ nq)) (2) 0
  have e := HZ.out
  exact ⟨rfl, by rw [e]; exact a⟩
set_option maxRecDepth 100000 in
set_option maxHeartbeats 2000000 in
theorem sz_w_ok (g : Nat) (R : Rd) (W0 w : World) (h : At W0 w g R) (hx : R.rex < 80) (s0 : Int) (fx : Bool) (hfx : fixD R.op R.z.y = (s0, fx)) (hfx2 : fx = false) (hr : ¬ R.rex / 2 ^ 3 % 2 = 1) (hw : R.w = true) (hz : R.z.r ≠ 0) (hle : ¬ 2 ≤ R.z.r) :
    Calls Tryd.prog 58 #[.pointer (some ⟨g, 0, none⟩)] w fun e w' => e = .returned (.int .i64 0) ∧ Wr W0 w w' g { R with sz := 2, fr := R.z.r } := by
  have c2 := h.rb.cell 2
  have c3 := h.rb.cell 3
  have c8 := h.rb.cell 8
  have c9 := h.rb.cell 9
  have c13 := h.rb.cell 13
  have c14 := h.rb.cell 14
  have c16 := h.rb.cell 16
  simp only [rdA, List.getElem?_toArray, List.getElem?_cons_zero, List.getElem?_cons_succ] at c2 c3 c8 c9 c13 c14 c16
  have f14 := h.rb.free 14; have f16 := h.rb.free 16
  have CF := Lib.hid (fun w => fixC R.op R.z.y w)
  rw [hfx, hfx2] at CF
  have H := Lib.hid h
  rw [hw] at c2
  have ha := and8 R.rex hx
  rw [if_neg hr] at ha
  have d0 : (R.z.r != 0) = true := bne_iff_ne.mpr hz
  have d1 := decide_eq_false hle
  have hmix := mixedR
  clear h hx hfx hfx2 hw hr hz hle
  go_enter Tryd.func58, Tryd.ntmps58
  go_wp2_with fail
  go_quiet ((go_at_call 96; exact Calls.quiet_of_same (CF.out _)))
  go_wp2
  go_ret
  exact ⟨rfl, Wr.szf (Wr.below ⟨H.out, Ch.refl w g⟩ (belQ _ nq)) (2) _⟩
set_option maxRecDepth 100000 in
set_option maxHeartbeats 2000000 in
theorem sz_w_bad (g : Nat) (R : Rd) (W0 w : World) (h : At W0 w g R) (hx : R.rex < 80) (s0 : Int) (fx : Bool) (hfx : fixD R.op R.z.y = (s0, fx)) (hfx2 : fx = false) (hr : ¬ R.rex / 2 ^ 3 % 2 = 1) (hw : R.w = true) (hz : R.z.r ≠ 0) (hle : 2 ≤ R.z.r) :
    Calls Tryd.prog 58 #[.pointer (some ⟨g, 0, none⟩)] w fun e w' => e = .returned (.int .i64 10) ∧ Ch w w' g := by
  have c2 := h.rb.cell 2
  have c3 := h.rb.cell 3
  have c8 := h.rb.cell 8
  have c9 := h.rb.cell 9
  have c13 := h.rb.cell 13
  have c14 := h.rb.cell 14
  have c16 := h.rb.cell 16
  simp only [rdA, List.getElem?_toArray, List.getElem?_cons_zero, List.getElem?_cons_succ] at c2 c3 c8 c9 c13 c14 c16
  have f14 := h.rb.free 14; have f16 := h.rb.free 16
  have CF := Lib.hid (fun w => fixC R.op R.z.y w)
  rw [hfx, hfx2] at CF
  have H := Lib.hid h
  rw [hw] at c2
  have ha := and8 R.rex hx
  rw [if_neg hr] at ha
  have d0 : (R.z.r != 0) = true := bne_iff_ne.mpr hz
  have d1 := decide_eq_true hle
  have hmix := mixedR
  clear h hx hfx hfx2 hw hr hz hle
  go_enter Tryd.func58, Tryd.ntmps58
  go_wp2_with fail
  go_quiet ((go_at_call 96; exact Calls.quiet_of_same (CF.out _)))
  go_wp2
  go_ret
  exact ⟨rfl, (Ch.refl w g).drewN nq⟩
set_option maxRecDepth 100000 in
set_option maxHeartbeats 2000000 in
theorem sz_four_ok0 (g : Nat) (R : Rd) (W0 w : World) (h : At W0 w g R) (hx : R.rex < 80) (s0 : Int) (fx : Bool) (hfx : fixD R.op R.z.y = (s0, fx)) (hfx2 : fx = false) (hr : ¬ R.rex / 2 ^ 3 % 2 = 1) (hw : R.w = false) (hz : R.z.r = 0) :
    Calls Tryd.prog 58 #[.pointer (some ⟨g, 0, none⟩)] w fun e w' => e = .returned (.int .i64 0) ∧ Wr W0 w w' g { R with sz := 4, fr := R.z.r } := by
  have c2 := h.rb.cell 2
  have c3 := h.rb.cell 3
  have c8 := h.rb.cell 8
  have c9 := h.rb.cell 9
  have c13 := h.rb.cell 13
  have c14 := h.rb.cell 14
  have c16 := h.rb.cell 16
  simp only [rdA, List.getElem?_toArray, List.getElem?_cons_zero, List.getElem?_cons_succ] at c2 c3 c8 c9 c13 c14 c16
  have f14 := h.rb.free 14; have f16 := h.rb.free 16
  have CF := Lib.hid (fun w => fixC R.op R.z.y w)
  rw [hfx, hfx2] at CF
  have H := Lib.hid h
  rw [hw] at c2
  have ha := and8 R.rex hx
  rw [if_neg hr] at ha
  have HZ := Lib.hid hz
  rw [hz] at c9
  have hmix := mixedR
  clear h hx hfx hfx2 hw hr hz
  go_enter Tryd.func58, Tryd.ntmps58
  go_wp2_with fail
  go_quiet ((go_at_call 96; exact Calls.quiet_of_same (CF.out _)))
  go_wp2
  go_ret
  have a := Wr.szf (Wr.below ⟨H.out, Ch.refl w g⟩ (belQ _ nq)) (4) 0
  have e := HZ.out
  exact ⟨rfl, by rw [e]; exact a⟩
set_option maxRecDepth 100000 in
set_option maxHeartbeats 2000000 in
theorem sz_four_ok (g : Nat) (R : Rd) (W0 w : World) (h : At W0 w g R) (hx : R.rex < 80) (s0 : Int) (fx : Bool) (hfx : fixD R.op R.z.y = (s0, fx)) (hfx2 : fx = false) (hr : ¬ R.rex / 2 ^ 3 % 2 = 1) (hw : R.w = false) (hz : R.z.r ≠ 0) (hle : ¬ 4 ≤ R.z.r) :
    Calls Tryd.prog 58 #[.pointer (some ⟨g, 0, none⟩)] w fun e w' => e = .returned (.int .i64 0) ∧ Wr W0 w w' g { R with sz := 4, fr := R.z.r } := by
  have c2 := h.rb.cell 2
  have c3 := h.rb.cell 3
  have c8 := h.rb.cell 8
  have c9 := h.rb.cell 9
  have c13 := h.rb.cell 13
  have c14 := h.rb.cell 14
  have c16 := h.rb.cell 16
  simp only [rdA, List.getElem?_toArray, List.getElem?_cons_zero, List.getElem?_cons_succ] at c2 c3 c8 c9 c13 c14 c16
  have f14 := h.rb.free 14; have f16 := h.rb.free 16
  have CF := Lib.hid (fun w => fixC R.op R.z.y w)
  rw [hfx, hfx2] at CF
  have H := Lib.hid h
  rw [hw] at c2
  have ha := and8 R.rex hx
  rw [if_neg hr] at ha
  have d0 : (R.z.r != 0) = true := bne_iff_ne.mpr hz
  have d1 := decide_eq_false hle
  have hmix := mixedR
  clear h hx hfx hfx2 hw hr hz hle
  go_enter Tryd.func58, Tryd.ntmps58
  go_wp2_with fail
  go_quiet ((go_at_call 96; exact Calls.quiet_of_same (CF.out _)))
  go_wp2
  go_ret
  exact ⟨rfl, Wr.szf (Wr.below ⟨H.out, Ch.refl w g⟩ (belQ _ nq)) (4) _⟩
set_option maxRecDepth 100000 in
set_option maxHeartbeats 2000000 in
theorem sz_four_bad (g : Nat) (R : Rd) (W0 w : World) (h : At W0 w g R) (hx : R.rex < 80) (s0 : Int) (fx : Bool) (hfx : fixD R.op R.z.y = (s0, fx)) (hfx2 : fx = false) (hr : ¬ R.rex / 2 ^ 3 % 2 = 1) (hw : R.w = false) (hz : R.z.r ≠ 0) (hle : 4 ≤ R.z.r) :
    Calls Tryd.prog 58 #[.pointer (some ⟨g, 0, none⟩)] w fun e w' => e = .returned (.int .i64 10) ∧ Ch w w' g := by
  have c2 := h.rb.cell 2
  have c3 := h.rb.cell 3
  have c8 := h.rb.cell 8
  have c9 := h.rb.cell 9
  have c13 := h.rb.cell 13
  have c14 := h.rb.cell 14
  have c16 := h.rb.cell 16
  simp only [rdA, List.getElem?_toArray, List.getElem?_cons_zero, List.getElem?_cons_succ] at c2 c3 c8 c9 c13 c14 c16
  have f14 := h.rb.free 14; have f16 := h.rb.free 16
  have CF := Lib.hid (fun w => fixC R.op R.z.y w)
  rw [hfx, hfx2] at CF
  have H := Lib.hid h
  rw [hw] at c2
  have ha := and8 R.rex hx
  rw [if_neg hr] at ha
  have d0 : (R.z.r != 0) = true := bne_iff_ne.mpr hz
  have d1 := decide_eq_true hle
  have hmix := mixedR
  clear h hx hfx hfx2 hw hr hz hle
  go_enter Tryd.func58, Tryd.ntmps58
  go_wp2_with fail
  go_quiet ((go_at_call 96; exact Calls.quiet_of_same (CF.out _)))
  go_wp2
  go_ret
  exact ⟨rfl, (Ch.refl w g).drewN nq⟩
theorem szC (g : Nat) (R : Rd) (W0 w : World) (h : At W0 w g R) (hx : R.rex < 80) : Calls Tryd.prog 58 #[.pointer (some ⟨g, 0, none⟩)] w (StOut W0 w g (stS R)) := by
  obtain ⟨s0, fx, hfx⟩ : ∃ s0 fx, fixD R.op R.z.y = (s0, fx) := ⟨_, _, rfl⟩
  unfold stS sizeV
  rw [hfx]
  simp only
  have fin (S : Int) (c0 : R.z.r = 0 → Calls Tryd.prog 58 #[.pointer (some ⟨g, 0, none⟩)] w fun e w' => e = .returned (.int .i64 0) ∧ Wr W0 w w' g { R with sz := S, fr := R.z.r }) (c1 : R.z.r ≠ 0 → ¬ S ≤ R.z.r → Calls Tryd.prog 58 #[.pointer (some ⟨g, 0, none⟩)] w fun e w' => e = .returned (.int .i64 0) ∧ Wr W0 w w' g { R with sz := S, fr := R.z.r }) (c2 : R.z.r ≠ 0 → S ≤ R.z.r → Calls Tryd.prog 58 #[.pointer (some ⟨g, 0, none⟩)] w fun e w' => e = .returned (.int .i64 10) ∧ Ch w w' g) :
      Calls Tryd.prog 58 #[.pointer (some ⟨g, 0, none⟩)] w (StOut W0 w g (if R.z.r ≠ 0 ∧ S ≤ R.z.r then .error 10 else .ok { R with sz := S, fr := R.z.r })) := by
    by_cases hz : R.z.r = 0
    · rw [if_neg (fun e => e.1 hz)]; exact c0 hz
    · by_cases hle : S ≤ R.z.r
      · rw [if_pos ⟨hz, hle⟩]; exact Calls.mono (c2 hz hle) fun e w' h => StOut.bad (by decide) h
      · rw [if_neg (fun e => hle e.2)]; exact c1 hz hle
  have hw2 (h : ¬ R.w = true) : R.w = false := by simpa using h
  by_cases hfx2 : fx = true
  · by_cases hw : R.w = true
    · rw [if_pos ⟨hfx2, hw⟩]
      exact Calls.mono (sz_fixw g R W0 w h hx s0 fx hfx hfx2 hw) fun e w' h => StOut.bad (by decide) h
    · rw [if_neg (fun e => hw e.2)]
      simp only [if_pos hfx2]
      exact fin s0 (fun hz => sz_fix_ok0 g R W0 w h hx s0 fx hfx hfx2 (hw2 hw) hz) (fun hz hle => sz_fix_ok g R W0 w h hx s0 fx hfx hfx2 (hw2 hw) hz hle) (fun hz hle => sz_fix_bad g R W0 w h hx s0 fx hfx hfx2 (hw2 hw) hz hle)
  · rw [if_neg (fun e => hfx2 e.1)]
    simp only [if_neg hfx2]
    have hfx3 : fx = false := by simpa using hfx2
    by_cases hr : R.rex / 2 ^ 3 % 2 = 1
    · simp only [if_pos hr]
      exact fin 8 (fun hz => sz_rex_ok0 g R W0 w h hx s0 fx hfx hfx3 hr hz) (fun hz hle => sz_rex_ok g R W0 w h hx s0 fx hfx hfx3 hr hz hle) (fun hz hle => sz_rex_bad g R W0 w h hx s0 fx hfx hfx3 hr hz hle)
    · simp only [if_neg hr]
      by_cases hw : R.w = true
      · simp only [if_pos hw]
        exact fin 2 (fun hz => sz_w_ok0 g R W0 w h hx s0 fx hfx hfx3 hr hw hz) (fun hz hle => sz_w_ok g R W0 w h hx s0 fx hfx hfx3 hr hw hz hle) (fun hz hle => sz_w_bad g R W0 w h hx s0 fx hfx hfx3 hr hw hz hle)
      · simp only [if_neg hw]
        exact fin 4 (fun hz => sz_four_ok0 g R W0 w h hx s0 fx hfx hfx3 hr (hw2 hw) hz) (fun hz hle => sz_four_ok g R W0 w h hx s0 fx hfx hfx3 hr (hw2 hw) hz hle) (fun hz hle => sz_four_bad g R W0 w h hx s0 fx hfx hfx3 hr (hw2 hw) hz hle)
/-! lea -/
def stA (R : Rd) : Except Int Rd := if R.op = 25 ∧ R.md = 3 then .error 12 else .ok R
set_option maxHeartbeats 1000000 in
theorem adC (g : Nat) (R : Rd) (W0 w : World) (h : At W0 w g R) : Calls Tryd.prog 59 #[.pointer (some ⟨g, 0, none⟩)] w (StOut W0 w g (stA R)) := by
  unfold stA
  have c10 := h.rb.cell 10
  have c13 := h.rb.cell 13
  simp only [rdA, List.getElem?_toArray, List.getElem?_cons_zero, List.getElem?_cons_succ] at c10 c13
  have H := Lib.hid h
  by_cases h1 : R.op = 25
  · by_cases h2 : R.md = 3
    · rw [if_pos ⟨h1, h2⟩]
      refine Calls.mono (?_ : Calls Tryd.prog 59 #[.pointer (some ⟨g, 0, none⟩)] w fun e w' => e = .returned (.int .i64 12) ∧ Ch w w' g) fun e w' h => StOut.bad (by decide) h
      rw [h1] at c13
      rw [h2] at c10
      clear h h1 h2
      go_enter Tryd.func59, Tryd.ntmps59
      go_wp2
      go_ret
      exact ⟨rfl, Ch.refl _ _⟩
    · rw [if_neg (fun e => h2 e.2)]
      show Calls Tryd.prog 59 #[.pointer (some ⟨g, 0, none⟩)] w fun e w' => e = .returned (.int .i64 0) ∧ Wr W0 w w' g R
      rw [h1] at c13
      have d : ((R.md : Int) == 3) = false := by simp only [beq_eq_false_iff_ne]; omega
      clear h h1 h2
      go_enter Tryd.func59, Tryd.ntmps59
      go_wp2
      go_ret
      exact ⟨rfl, H.out, Ch.refl _ _⟩
  · rw [if_neg (fun e => h1 e.1)]
    show Calls Tryd.prog 59 #[.pointer (some ⟨g, 0, none⟩)] w fun e w' => e = .returned (.int .i64 0) ∧ Wr W0 w w' g R
    have d : (R.op == 25) = false := by simp only [beq_eq_false_iff_ne]; omega
    clear h h1
    go_enter Tryd.func59, Tryd.ntmps59
    go_wp2
    go_ret
    exact ⟨rfl, H.out, Ch.refl _ _⟩
end Go.Proofs.YtinjpobepcenfaaDoor
