/-
  What read of impl's reader does: the steps in their order, each of which may end it with a code or a panic; conditions: those in each head.
-/
import Derived.Test.YtinjpobepcenfaaDoorWalkRd12
import Derived.Test.YtinjpobepcenfaaDoorWalkRd13
namespace Go.Proofs.YtinjpobepcenfaaDoor
open Go.RowKit Go.Sort
set_option linter.unusedVariables false
set_option maxRecDepth 100000 in
set_option maxHeartbeats 4000000 in
theorem rd0bad (g : Nat) (R0 : Rd) (W0 w : World) (h : At W0 w g R0) (c : Int) (hc : c ≠ 0) (CE : Hid (∀ W, At W0 W g R0 → Calls Tryd.prog 55 #[.pointer (some ⟨g, 0, none⟩)] W fun e w' => e = .returned (.int .i64 c) ∧ Ch W w' g)) :
    Calls Tryd.prog 33 #[.pointer (some ⟨g, 0, none⟩)] w fun e w' => e = .returned (.int .i64 c) ∧ Ch w w' g := by
  have hmf := mkFuncD
  have i0 : ∀ w, (Instr.index 73 (.agg #[.func (Fn.func 55) #[.pointer (some ⟨g, 0, none⟩)] #[], .func (Fn.func 56) #[.pointer (some ⟨g, 0, none⟩)] #[], .func (Fn.func 57) #[.pointer (some ⟨g, 0, none⟩)] #[], .func (Fn.func 58) #[.pointer (some ⟨g, 0, none⟩)] #[], .func (Fn.func 59) #[.pointer (some ⟨g, 0, none⟩)] #[]]) (.int .i64 0)).run Tryd.prog w = .ok (.func (Fn.func 55) #[.pointer (some ⟨g, 0, none⟩)] #[]) w := fun _ => by kernel_rfl
  have i1 : ∀ w, (Instr.index 73 (.agg #[.func (Fn.func 55) #[.pointer (some ⟨g, 0, none⟩)] #[], .func (Fn.func 56) #[.pointer (some ⟨g, 0, none⟩)] #[], .func (Fn.func 57) #[.pointer (some ⟨g, 0, none⟩)] #[], .func (Fn.func 58) #[.pointer (some ⟨g, 0, none⟩)] #[], .func (Fn.func 59) #[.pointer (some ⟨g, 0, none⟩)] #[]]) (.int .i64 1)).run Tryd.prog w = .ok (.func (Fn.func 56) #[.pointer (some ⟨g, 0, none⟩)] #[]) w := fun _ => by kernel_rfl
  have i2 : ∀ w, (Instr.index 73 (.agg #[.func (Fn.func 55) #[.pointer (some ⟨g, 0, none⟩)] #[], .func (Fn.func 56) #[.pointer (some ⟨g, 0, none⟩)] #[], .func (Fn.func 57) #[.pointer (some ⟨g, 0, none⟩)] #[], .func (Fn.func 58) #[.pointer (some ⟨g, 0, none⟩)] #[], .func (Fn.func 59) #[.pointer (some ⟨g, 0, none⟩)] #[]]) (.int .i64 2)).run Tryd.prog w = .ok (.func (Fn.func 57) #[.pointer (some ⟨g, 0, none⟩)] #[]) w := fun _ => by kernel_rfl
  have i3 : ∀ w, (Instr.index 73 (.agg #[.func (Fn.func 55) #[.pointer (some ⟨g, 0, none⟩)] #[], .func (Fn.func 56) #[.pointer (some ⟨g, 0, none⟩)] #[], .func (Fn.func 57) #[.pointer (some ⟨g, 0, none⟩)] #[], .func (Fn.func 58) #[.pointer (some ⟨g, 0, none⟩)] #[], .func (Fn.func 59) #[.pointer (some ⟨g, 0, none⟩)] #[]]) (.int .i64 3)).run Tryd.prog w = .ok (.func (Fn.func 58) #[.pointer (some ⟨g, 0, none⟩)] #[]) w := fun _ => by kernel_rfl
  have i4 : ∀ w, (Instr.index 73 (.agg #[.func (Fn.func 55) #[.pointer (some ⟨g, 0, none⟩)] #[], .func (Fn.func 56) #[.pointer (some ⟨g, 0, none⟩)] #[], .func (Fn.func 57) #[.pointer (some ⟨g, 0, none⟩)] #[], .func (Fn.func 58) #[.pointer (some ⟨g, 0, none⟩)] #[], .func (Fn.func 59) #[.pointer (some ⟨g, 0, none⟩)] #[]]) (.int .i64 4)).run Tryd.prog w = .ok (.func (Fn.func 59) #[.pointer (some ⟨g, 0, none⟩)] #[]) w := fun _ => by kernel_rfl
  have hc2 : (c != 0) = true := bne_iff_ne.mpr hc
  clear hc
  have H0 : Hid (Wr W0 w w g R0) := Lib.hid ⟨h, Ch.refl _ _⟩
  clear h
  go_enter Tryd.func33, Tryd.ntmps33
  go_wp2_with fail
  refine wp_loop_rounds 1 ?_
  rw [rounds_succ]
  go_wp2_with fail
  refine Calls.mono (CE.out _ H0.out.1) ?_
  rintro e v ⟨rfl, q⟩
  go_wp2
  go_ret
  exact ⟨rfl, H0.out.2.trans q⟩
set_option maxRecDepth 100000 in
set_option maxHeartbeats 4000000 in
theorem rd1bad (g : Nat) (R0 : Rd) (W0 w : World) (h : At W0 w g R0) (R1 : Rd) (C1 : Hid (∀ W, At W0 W g R0 → Calls Tryd.prog 55 #[.pointer (some ⟨g, 0, none⟩)] W fun e w' => e = .returned (.int .i64 0) ∧ Wr W0 W w' g R1)) (c : Int) (hc : c ≠ 0) (CE : Hid (∀ W, At W0 W g R1 → Calls Tryd.prog 56 #[.pointer (some ⟨g, 0, none⟩)] W fun e w' => e = .returned (.int .i64 c) ∧ Ch W w' g)) :
    Calls Tryd.prog 33 #[.pointer (some ⟨g, 0, none⟩)] w fun e w' => e = .returned (.int .i64 c) ∧ Ch w w' g := by
  have hmf := mkFuncD
  have i0 : ∀ w, (Instr.index 73 (.agg #[.func (Fn.func 55) #[.pointer (some ⟨g, 0, none⟩)] #[], .func (Fn.func 56) #[.pointer (some ⟨g, 0, none⟩)] #[], .func (Fn.func 57) #[.pointer (some ⟨g, 0, none⟩)] #[], .func (Fn.func 58) #[.pointer (some ⟨g, 0, none⟩)] #[], .func (Fn.func 59) #[.pointer (some ⟨g, 0, none⟩)] #[]]) (.int .i64 0)).run Tryd.prog w = .ok (.func (Fn.func 55) #[.pointer (some ⟨g, 0, none⟩)] #[]) w := fun _ => by kernel_rfl
  have i1 : ∀ w, (Instr.index 73 (.agg #[.func (Fn.func 55) #[.pointer (some ⟨g, 0, none⟩)] #[], .func (Fn.func 56) #[.pointer (some ⟨g, 0, none⟩)] #[], .func (Fn.func 57) #[.pointer (some ⟨g, 0, none⟩)] #[], .func (Fn.func 58) #[.pointer (some ⟨g, 0, none⟩)] #[], .func (Fn.func 59) #[.pointer (some ⟨g, 0, none⟩)] #[]]) (.int .i64 1)).run Tryd.prog w = .ok (.func (Fn.func 56) #[.pointer (some ⟨g, 0, none⟩)] #[]) w := fun _ => by kernel_rfl
  have i2 : ∀ w, (Instr.index 73 (.agg #[.func (Fn.func 55) #[.pointer (some ⟨g, 0, none⟩)] #[], .func (Fn.func 56) #[.pointer (some ⟨g, 0, none⟩)] #[], .func (Fn.func 57) #[.pointer (some ⟨g, 0, none⟩)] #[], .func (Fn.func 58) #[.pointer (some ⟨g, 0, none⟩)] #[], .func (Fn.func 59) #[.pointer (some ⟨g, 0, none⟩)] #[]]) (.int .i64 2)).run Tryd.prog w = .ok (.func (Fn.func 57) #[.pointer (some ⟨g, 0, none⟩)] #[]) w := fun _ => by kernel_rfl
  have i3 : ∀ w, (Instr.index 73 (.agg #[.func (Fn.func 55) #[.pointer (some ⟨g, 0, none⟩)] #[], .func (Fn.func 56) #[.pointer (some ⟨g, 0, none⟩)] #[], .func (Fn.func 57) #[.pointer (some ⟨g, 0, none⟩)] #[], .func (Fn.func 58) #[.pointer (some ⟨g, 0, none⟩)] #[], .func (Fn.func 59) #[.pointer (some ⟨g, 0, none⟩)] #[]]) (.int .i64 3)).run Tryd.prog w = .ok (.func (Fn.func 58) #[.pointer (some ⟨g, 0, none⟩)] #[]) w := fun _ => by kernel_rfl
  have i4 : ∀ w, (Instr.index 73 (.agg #[.func (Fn.func 55) #[.pointer (some ⟨g, 0, none⟩)] #[], .func (Fn.func 56) #[.pointer (some ⟨g, 0, none⟩)] #[], .func (Fn.func 57) #[.pointer (some ⟨g, 0, none⟩)] #[], .func (Fn.func 58) #[.pointer (some ⟨g, 0, none⟩)] #[], .func (Fn.func 59) #[.pointer (some ⟨g, 0, none⟩)] #[]]) (.int .i64 4)).run Tryd.prog w = .ok (.func (Fn.func 59) #[.pointer (some ⟨g, 0, none⟩)] #[]) w := fun _ => by kernel_rfl
  have hc2 : (c != 0) = true := bne_iff_ne.mpr hc
  clear hc
  have H0 : Hid (Wr W0 w w g R0) := Lib.hid ⟨h, Ch.refl _ _⟩
  clear h
  go_enter Tryd.func33, Tryd.ntmps33
  go_wp2_with fail
  refine wp_loop_rounds 2 ?_
  rw [rounds_succ]
  go_wp2_with fail
  refine Calls.mono (C1.out _ H0.out.1) ?_
  rintro e v1 ⟨rfl, q1⟩
  have H1 := Lib.hid (H0.out.trans q1)
  clear q1
  go_wp2_with fail
  rw [rounds_succ]
  go_wp2_with fail
  refine Calls.mono (CE.out _ H1.out.1) ?_
  rintro e v ⟨rfl, q⟩
  go_wp2
  go_ret
  exact ⟨rfl, H1.out.2.trans q⟩
set_option maxRecDepth 100000 in
set_option maxHeartbeats 4000000 in
theorem rd2bad (g : Nat) (R0 : Rd) (W0 w : World) (h : At W0 w g R0) (R1 : Rd) (R2 : Rd) (C1 : Hid (∀ W, At W0 W g R0 → Calls Tryd.prog 55 #[.pointer (some ⟨g, 0, none⟩)] W fun e w' => e = .returned (.int .i64 0) ∧ Wr W0 W w' g R1)) (C2 : Hid (∀ W, At W0 W g R1 → Calls Tryd.prog 56 #[.pointer (some ⟨g, 0, none⟩)] W fun e w' => e = .returned (.int .i64 0) ∧ Wr W0 W w' g R2)) (c : Int) (hc : c ≠ 0) (CE : Hid (∀ W, At W0 W g R2 → Calls Tryd.prog 57 #[.pointer (some ⟨g, 0, none⟩)] W fun e w' => e = .returned (.int .i64 c) ∧ Ch W w' g)) :
    Calls Tryd.prog 33 #[.pointer (some ⟨g, 0, none⟩)] w fun e w' => e = .returned (.int .i64 c) ∧ Ch w w' g := by
  have hmf := mkFuncD
  have i0 : ∀ w, (Instr.index 73 (.agg #[.func (Fn.func 55) #[.pointer (some ⟨g, 0, none⟩)] #[], .func (Fn.func 56) #[.pointer (some ⟨g, 0, none⟩)] #[], .func (Fn.func 57) #[.pointer (some ⟨g, 0, none⟩)] #[], .func (Fn.func 58) #[.pointer (some ⟨g, 0, none⟩)] #[], .func (Fn.func 59) #[.pointer (some ⟨g, 0, none⟩)] #[]]) (.int .i64 0)).run Tryd.prog w = .ok (.func (Fn.func 55) #[.pointer (some ⟨g, 0, none⟩)] #[]) w := fun _ => by kernel_rfl
  have i1 : ∀ w, (Instr.index 73 (.agg #[.func (Fn.func 55) #[.pointer (some ⟨g, 0, none⟩)] #[], .func (Fn.func 56) #[.pointer (some ⟨g, 0, none⟩)] #[], .func (Fn.func 57) #[.pointer (some ⟨g, 0, none⟩)] #[], .func (Fn.func 58) #[.pointer (some ⟨g, 0, none⟩)] #[], .func (Fn.func 59) #[.pointer (some ⟨g, 0, none⟩)] #[]]) (.int .i64 1)).run Tryd.prog w = .ok (.func (Fn.func 56) #[.pointer (some ⟨g, 0, none⟩)] #[]) w := fun _ => by kernel_rfl
  have i2 : ∀ w, (Instr.index 73 (.agg #[.func (Fn.func 55) #[.pointer (some ⟨g, 0, none⟩)] #[], .func (Fn.func 56) #[.pointer (some ⟨g, 0, none⟩)] #[], .func (Fn.func 57) #[.pointer (some ⟨g, 0, none⟩)] #[], .func (Fn.func 58) #[.pointer (some ⟨g, 0, none⟩)] #[], .func (Fn.func 59) #[.pointer (some ⟨g, 0, none⟩)] #[]]) (.int .i64 2)).run Tryd.prog w = .ok (.func (Fn.func 57) #[.pointer (some ⟨g, 0, none⟩)] #[]) w := fun _ => by kernel_rfl
  have i3 : ∀ w, (Instr.index 73 (.agg #[.func (Fn.func 55) #[.pointer (some ⟨g, 0, none⟩)] #[], .func (Fn.func 56) #[.pointer (some ⟨g, 0, none⟩)] #[], .func (Fn.func 57) #[.pointer (some ⟨g, 0, none⟩)] #[], .func (Fn.func 58) #[.pointer (some ⟨g, 0, none⟩)] #[], .func (Fn.func 59) #[.pointer (some ⟨g, 0, none⟩)] #[]]) (.int .i64 3)).run Tryd.prog w = .ok (.func (Fn.func 58) #[.pointer (some ⟨g, 0, none⟩)] #[]) w := fun _ => by kernel_rfl
  have i4 : ∀ w, (Instr.index 73 (.agg #[.func (Fn.func 55) #[.pointer (some ⟨g, 0, none⟩)] #[], .func (Fn.func 56) #[.pointer (some ⟨g, 0, none⟩)] #[], .func (Fn.func 57) #[.pointer (some ⟨g, 0, none⟩)] #[], .func (Fn.func 58) #[.pointer (some ⟨g, 0, none⟩)] #[], .func (Fn.func 59) #[.pointer (some ⟨g, 0, none⟩)] #[]]) (.int .i64 4)).run Tryd.prog w = .ok (.func (Fn.func 59) #[.pointer (some ⟨g, 0, none⟩)] #[]) w := fun _ => by kernel_rfl
  have hc2 : (c != 0) = true := bne_iff_ne.mpr hc
  clear hc
  have H0 : Hid (Wr W0 w w g R0) := Lib.hid ⟨h, Ch.refl _ _⟩
  clear h
  go_enter Tryd.func33, Tryd.ntmps33
  go_wp2_with fail
  refine wp_loop_rounds 3 ?_
  rw [rounds_succ]
  go_wp2_with fail
  refine Calls.mono (C1.out _ H0.out.1) ?_
  rintro e v1 ⟨rfl, q1⟩
  have H1 := Lib.hid (H0.out.trans q1)
  clear q1
  go_wp2_with fail
  rw [rounds_succ]
  go_wp2_with fail
  refine Calls.mono (C2.out _ H1.out.1) ?_
  rintro e v2 ⟨rfl, q2⟩
  have H2 := Lib.hid (H1.out.trans q2)
  clear q2
  go_wp2_with fail
  rw [rounds_succ]
  go_wp2_with fail
  refine Calls.mono (CE.out _ H2.out.1) ?_
  rintro e v ⟨rfl, q⟩
  go_wp2
  go_ret
  exact ⟨rfl, H2.out.2.trans q⟩
set_option maxRecDepth 100000 in
set_option maxHeartbeats 4000000 in
theorem rd3bad (g : Nat) (R0 : Rd) (W0 w : World) (h : At W0 w g R0) (R1 : Rd) (R2 : Rd) (R3 : Rd) (C1 : Hid (∀ W, At W0 W g R0 → Calls Tryd.prog 55 #[.pointer (some ⟨g, 0, none⟩)] W fun e w' => e = .returned (.int .i64 0) ∧ Wr W0 W w' g R1)) (C2 : Hid (∀ W, At W0 W g R1 → Calls Tryd.prog 56 #[.pointer (some ⟨g, 0, none⟩)] W fun e w' => e = .returned (.int .i64 0) ∧ Wr W0 W w' g R2)) (C3 : Hid (∀ W, At W0 W g R2 → Calls Tryd.prog 57 #[.pointer (some ⟨g, 0, none⟩)] W fun e w' => e = .returned (.int .i64 0) ∧ Wr W0 W w' g R3)) (c : Int) (hc : c ≠ 0) (CE : Hid (∀ W, At W0 W g R3 → Calls Tryd.prog 58 #[.pointer (some ⟨g, 0, none⟩)] W fun e w' => e = .returned (.int .i64 c) ∧ Ch W w' g)) :
    Calls Tryd.prog 33 #[.pointer (some ⟨g, 0, none⟩)] w fun e w' => e = .returned (.int .i64 c) ∧ Ch w w' g := by
  have hmf := mkFuncD
  have i0 : ∀ w, (Instr.index 73 (.agg #[.func (Fn.func 55) #[.pointer (some ⟨g, 0, none⟩)] #[], .func (Fn.func 56) #[.pointer (some ⟨g, 0, none⟩)] #[], .func (Fn.func 57) #[.pointer (some ⟨g, 0, none⟩)] #[], .func (Fn.func 58) #[.pointer (some ⟨g, 0, none⟩)] #[], .func (Fn.func 59) #[.pointer (some ⟨g, 0, none⟩)] #[]]) (.int .i64 0)).run Tryd.prog w = .ok (.func (Fn.func 55) #[.pointer (some ⟨g, 0, none⟩)] #[]) w := fun _ => by kernel_rfl
  have i1 : ∀ w, (Instr.index 73 (.agg #[.func (Fn.func 55) #[.pointer (some ⟨g, 0, none⟩)] #[], .func (Fn.func 56) #[.pointer (some ⟨g, 0, none⟩)] #[], .func (Fn.func 57) #[.pointer (some ⟨g, 0, none⟩)] #[], .func (Fn.func 58) #[.pointer (some ⟨g, 0, none⟩)] #[], .func (Fn.func 59) #[.pointer (some ⟨g, 0, none⟩)] #[]]) (.int .i64 1)).run Tryd.prog w = .ok (.func (Fn.func 56) #[.pointer (some ⟨g, 0, none⟩)] #[]) w := fun _ => by kernel_rfl
  have i2 : ∀ w, (Instr.index 73 (.agg #[.func (Fn.func 55) #[.pointer (some ⟨g, 0, none⟩)] #[], .func (Fn.func 56) #[.pointer (some ⟨g, 0, none⟩)] #[], .func (Fn.func 57) #[.pointer (some ⟨g, 0, none⟩)] #[], .func (Fn.func 58) #[.pointer (some ⟨g, 0, none⟩)] #[], .func (Fn.func 59) #[.pointer (some ⟨g, 0, none⟩)] #[]]) (.int .i64 2)).run Tryd.prog w = .ok (.func (Fn.func 57) #[.pointer (some ⟨g, 0, none⟩)] #[]) w := fun _ => by kernel_rfl
  have i3 : ∀ w, (Instr.index 73 (.agg #[.func (Fn.func 55) #[.pointer (some ⟨g, 0, none⟩)] #[], .func (Fn.func 56) #[.pointer (some ⟨g, 0, none⟩)] #[], .func (Fn.func 57) #[.pointer (some ⟨g, 0, none⟩)] #[], .func (Fn.func 58) #[.pointer (some ⟨g, 0, none⟩)] #[], .func (Fn.func 59) #[.pointer (some ⟨g, 0, none⟩)] #[]]) (.int .i64 3)).run Tryd.prog w = .ok (.func (Fn.func 58) #[.pointer (some ⟨g, 0, none⟩)] #[]) w := fun _ => by kernel_rfl
  have i4 : ∀ w, (Instr.index 73 (.agg #[.func (Fn.func 55) #[.pointer (some ⟨g, 0, none⟩)] #[], .func (Fn.func 56) #[.pointer (some ⟨g, 0, none⟩)] #[], .func (Fn.func 57) #[.pointer (some ⟨g, 0, none⟩)] #[], .func (Fn.func 58) #[.pointer (some ⟨g, 0, none⟩)] #[], .func (Fn.func 59) #[.pointer (some ⟨g, 0, none⟩)] #[]]) (.int .i64 4)).run Tryd.prog w = .ok (.func (Fn.func 59) #[.pointer (some ⟨g, 0, none⟩)] #[]) w := fun _ => by kernel_rfl
  have hc2 : (c != 0) = true := bne_iff_ne.mpr hc
  clear hc
  have H0 : Hid (Wr W0 w w g R0) := Lib.hid ⟨h, Ch.refl _ _⟩
  clear h
  go_enter Tryd.func33, Tryd.ntmps33
  go_wp2_with fail
  refine wp_loop_rounds 4 ?_
  rw [rounds_succ]
  go_wp2_with fail
  refine Calls.mono (C1.out _ H0.out.1) ?_
  rintro e v1 ⟨rfl, q1⟩
  have H1 := Lib.hid (H0.out.trans q1)
  clear q1
  go_wp2_with fail
  rw [rounds_succ]
  go_wp2_with fail
  refine Calls.mono (C2.out _ H1.out.1) ?_
  rintro e v2 ⟨rfl, q2⟩
  have H2 := Lib.hid (H1.out.trans q2)
  clear q2
  go_wp2_with fail
  rw [rounds_succ]
  go_wp2_with fail
  refine Calls.mono (C3.out _ H2.out.1) ?_
  rintro e v3 ⟨rfl, q3⟩
  have H3 := Lib.hid (H2.out.trans q3)
  clear q3
  go_wp2_with fail
  rw [rounds_succ]
  go_wp2_with fail
  refine Calls.mono (CE.out _ H3.out.1) ?_
  rintro e v ⟨rfl, q⟩
  go_wp2
  go_ret
  exact ⟨rfl, H3.out.2.trans q⟩
set_option maxRecDepth 100000 in
set_option maxHeartbeats 4000000 in
theorem rd4bad (g : Nat) (R0 : Rd) (W0 w : World) (h : At W0 w g R0) (R1 : Rd) (R2 : Rd) (R3 : Rd) (R4 : Rd) (C1 : Hid (∀ W, At W0 W g R0 → Calls Tryd.prog 55 #[.pointer (some ⟨g, 0, none⟩)] W fun e w' => e = .returned (.int .i64 0) ∧ Wr W0 W w' g R1)) (C2 : Hid (∀ W, At W0 W g R1 → Calls Tryd.prog 56 #[.pointer (some ⟨g, 0, none⟩)] W fun e w' => e = .returned (.int .i64 0) ∧ Wr W0 W w' g R2)) (C3 : Hid (∀ W, At W0 W g R2 → Calls Tryd.prog 57 #[.pointer (some ⟨g, 0, none⟩)] W fun e w' => e = .returned (.int .i64 0) ∧ Wr W0 W w' g R3)) (C4 : Hid (∀ W, At W0 W g R3 → Calls Tryd.prog 58 #[.pointer (some ⟨g, 0, none⟩)] W fun e w' => e = .returned (.int .i64 0) ∧ Wr W0 W w' g R4)) (c : Int) (hc : c ≠ 0) (CE : Hid (∀ W, At W0 W g R4 → Calls Tryd.prog 59 #[.pointer (some ⟨g, 0, none⟩)] W fun e w' => e = .returned (.int .i64 c) ∧ Ch W w' g)) :
    Calls Tryd.prog 33 #[.pointer (some ⟨g, 0, none⟩)] w fun e w' => e = .returned (.int .i64 c) ∧ Ch w w' g := by
  have hmf := mkFuncD
  have i0 : ∀ w, (Instr.index 73 (.agg #[.func (Fn.func 55) #[.pointer (some ⟨g, 0, none⟩)] #[], .func (Fn.func 56) #[.pointer (some ⟨g, 0, none⟩)] #[], .func (Fn.func 57) #[.pointer (some ⟨g, 0, none⟩)] #[], .func (Fn.func 58) #[.pointer (some ⟨g, 0, none⟩)] #[], .func (Fn.func 59) #[.pointer (some ⟨g, 0, none⟩)] #[]]) (.int .i64 0)).run Tryd.prog w = .ok (.func (Fn.func 55) #[.pointer (some ⟨g, 0, none⟩)] #[]) w := fun _ => by kernel_rfl
  have i1 : ∀ w, (Instr.index 73 (.agg #[.func (Fn.func 55) #[.pointer (some ⟨g, 0, none⟩)] #[], .func (Fn.func 56) #[.pointer (some ⟨g, 0, none⟩)] #[], .func (Fn.func 57) #[.pointer (some ⟨g, 0, none⟩)] #[], .func (Fn.func 58) #[.pointer (some ⟨g, 0, none⟩)] #[], .func (Fn.func 59) #[.pointer (some ⟨g, 0, none⟩)] #[]]) (.int .i64 1)).run Tryd.prog w = .ok (.func (Fn.func 56) #[.pointer (some ⟨g, 0, none⟩)] #[]) w := fun _ => by kernel_rfl
  have i2 : ∀ w, (Instr.index 73 (.agg #[.func (Fn.func 55) #[.pointer (some ⟨g, 0, none⟩)] #[], .func (Fn.func 56) #[.pointer (some ⟨g, 0, none⟩)] #[], .func (Fn.func 57) #[.pointer (some ⟨g, 0, none⟩)] #[], .func (Fn.func 58) #[.pointer (some ⟨g, 0, none⟩)] #[], .func (Fn.func 59) #[.pointer (some ⟨g, 0, none⟩)] #[]]) (.int .i64 2)).run Tryd.prog w = .ok (.func (Fn.func 57) #[.pointer (some ⟨g, 0, none⟩)] #[]) w := fun _ => by kernel_rfl
  have i3 : ∀ w, (Instr.index 73 (.agg #[.func (Fn.func 55) #[.pointer (some ⟨g, 0, none⟩)] #[], .func (Fn.func 56) #[.pointer (some ⟨g, 0, none⟩)] #[], .func (Fn.func 57) #[.pointer (some ⟨g, 0, none⟩)] #[], .func (Fn.func 58) #[.pointer (some ⟨g, 0, none⟩)] #[], .func (Fn.func 59) #[.pointer (some ⟨g, 0, none⟩)] #[]]) (.int .i64 3)).run Tryd.prog w = .ok (.func (Fn.func 58) #[.pointer (some ⟨g, 0, none⟩)] #[]) w := fun _ => by kernel_rfl
  have i4 : ∀ w, (Instr.index 73 (.agg #[.func (Fn.func 55) #[.pointer (some ⟨g, 0, none⟩)] #[], .func (Fn.func 56) #[.pointer (some ⟨g, 0, none⟩)] #[], .func (Fn.func 57) #[.pointer (some ⟨g, 0, none⟩)] #[], .func (Fn.func 58) #[.pointer (some ⟨g, 0, none⟩)] #[], .func (Fn.func 59) #[.pointer (some ⟨g, 0, none⟩)] #[]]) (.int .i64 4)).run Tryd.prog w = .ok (.func (Fn.func 59) #[.pointer (some ⟨g, 0, none⟩)] #[]) w := fun _ => by kernel_rfl
  have hc2 : (c != 0) = true := bne_iff_ne.mpr hc
  clear hc
  have H0 : Hid (Wr W0 w w g R0) := Lib.hid ⟨h, Ch.refl _ _⟩
  clear h
  go_enter Tryd.func33, Tryd.ntmps33
  go_wp2_with fail
  refine wp_loop_rounds 5 ?_
  rw [rounds_succ]
  go_wp2_with fail
  refine Calls.mono (C1.out _ H0.out.1) ?_
  rintro e v1 ⟨rfl, q1⟩
  have H1 := Lib.hid (H0.out.trans q1)
  clear q1
  go_wp2_with fail
  rw [rounds_succ]
  go_wp2_with fail
  refine Calls.mono (C2.out _ H1.out.1) ?_
  rintro e v2 ⟨rfl, q2⟩
  have H2 := Lib.hid (H1.out.trans q2)
  clear q2
  go_wp2_with fail
  rw [rounds_succ]
  go_wp2_with fail
  refine Calls.mono (C3.out _ H2.out.1) ?_
  rintro e v3 ⟨rfl, q3⟩
  have H3 := Lib.hid (H2.out.trans q3)
  clear q3
  go_wp2_with fail
  rw [rounds_succ]
  go_wp2_with fail
  refine Calls.mono (C4.out _ H3.out.1) ?_
  rintro e v4 ⟨rfl, q4⟩
  have H4 := Lib.hid (H3.out.trans q4)
  clear q4
  go_wp2_with fail
  rw [rounds_succ]
  go_wp2_with fail
  refine Calls.mono (CE.out _ H4.out.1) ?_
  rintro e v ⟨rfl, q⟩
  go_wp2
  go_ret
  exact ⟨rfl, H4.out.2.trans q⟩
set_option maxRecDepth 100000 in
set_option maxHeartbeats 4000000 in
theorem rd0end (g : Nat) (R0 : Rd) (W0 w : World) (h : At W0 w g R0) (CE : Hid (∀ W, At W0 W g R0 → Calls Tryd.prog 55 #[.pointer (some ⟨g, 0, none⟩)] W fun e w' => e = endP ∧ Ch W w' g)) :
    Calls Tryd.prog 33 #[.pointer (some ⟨g, 0, none⟩)] w fun e w' => e = endP ∧ Ch w w' g := by
  have hmf := mkFuncD
  have i0 : ∀ w, (Instr.index 73 (.agg #[.func (Fn.func 55) #[.pointer (some ⟨g, 0, none⟩)] #[], .func (Fn.func 56) #[.pointer (some ⟨g, 0, none⟩)] #[], .func (Fn.func 57) #[.pointer (some ⟨g, 0, none⟩)] #[], .func (Fn.func 58) #[.pointer (some ⟨g, 0, none⟩)] #[], .func (Fn.func 59) #[.pointer (some ⟨g, 0, none⟩)] #[]]) (.int .i64 0)).run Tryd.prog w = .ok (.func (Fn.func 55) #[.pointer (some ⟨g, 0, none⟩)] #[]) w := fun _ => by kernel_rfl
  have i1 : ∀ w, (Instr.index 73 (.agg #[.func (Fn.func 55) #[.pointer (some ⟨g, 0, none⟩)] #[], .func (Fn.func 56) #[.pointer (some ⟨g, 0, none⟩)] #[], .func (Fn.func 57) #[.pointer (some ⟨g, 0, none⟩)] #[], .func (Fn.func 58) #[.pointer (some ⟨g, 0, none⟩)] #[], .func (Fn.func 59) #[.pointer (some ⟨g, 0, none⟩)] #[]]) (.int .i64 1)).run Tryd.prog w = .ok (.func (Fn.func 56) #[.pointer (some ⟨g, 0, none⟩)] #[]) w := fun _ => by kernel_rfl
  have i2 : ∀ w, (Instr.index 73 (.agg #[.func (Fn.func 55) #[.pointer (some ⟨g, 0, none⟩)] #[], .func (Fn.func 56) #[.pointer (some ⟨g, 0, none⟩)] #[], .func (Fn.func 57) #[.pointer (some ⟨g, 0, none⟩)] #[], .func (Fn.func 58) #[.pointer (some ⟨g, 0, none⟩)] #[], .func (Fn.func 59) #[.pointer (some ⟨g, 0, none⟩)] #[]]) (.int .i64 2)).run Tryd.prog w = .ok (.func (Fn.func 57) #[.pointer (some ⟨g, 0, none⟩)] #[]) w := fun _ => by kernel_rfl
  have i3 : ∀ w, (Instr.index 73 (.agg #[.func (Fn.func 55) #[.pointer (some ⟨g, 0, none⟩)] #[], .func (Fn.func 56) #[.pointer (some ⟨g, 0, none⟩)] #[], .func (Fn.func 57) #[.pointer (some ⟨g, 0, none⟩)] #[], .func (Fn.func 58) #[.pointer (some ⟨g, 0, none⟩)] #[], .func (Fn.func 59) #[.pointer (some ⟨g, 0, none⟩)] #[]]) (.int .i64 3)).run Tryd.prog w = .ok (.func (Fn.func 58) #[.pointer (some ⟨g, 0, none⟩)] #[]) w := fun _ => by kernel_rfl
  have i4 : ∀ w, (Instr.index 73 (.agg #[.func (Fn.func 55) #[.pointer (some ⟨g, 0, none⟩)] #[], .func (Fn.func 56) #[.pointer (some ⟨g, 0, none⟩)] #[], .func (Fn.func 57) #[.pointer (some ⟨g, 0, none⟩)] #[], .func (Fn.func 58) #[.pointer (some ⟨g, 0, none⟩)] #[], .func (Fn.func 59) #[.pointer (some ⟨g, 0, none⟩)] #[]]) (.int .i64 4)).run Tryd.prog w = .ok (.func (Fn.func 59) #[.pointer (some ⟨g, 0, none⟩)] #[]) w := fun _ => by kernel_rfl
  unfold endP at *
  have H0 : Hid (Wr W0 w w g R0) := Lib.hid ⟨h, Ch.refl _ _⟩
  clear h
  go_enter Tryd.func33, Tryd.ntmps33
  go_wp2_with fail
  refine wp_loop_rounds 1 ?_
  rw [rounds_succ]
  go_wp2_with fail
  refine Calls.mono (CE.out _ H0.out.1) ?_
  rintro e v ⟨rfl, q⟩
  go_wp2
  exact ⟨rfl, rfl, H0.out.2.trans q⟩
set_option maxRecDepth 100000 in
set_option maxHeartbeats 4000000 in
theorem rd1end (g : Nat) (R0 : Rd) (W0 w : World) (h : At W0 w g R0) (R1 : Rd) (C1 : Hid (∀ W, At W0 W g R0 → Calls Tryd.prog 55 #[.pointer (some ⟨g, 0, none⟩)] W fun e w' => e = .returned (.int .i64 0) ∧ Wr W0 W w' g R1)) (CE : Hid (∀ W, At W0 W g R1 → Calls Tryd.prog 56 #[.pointer (some ⟨g, 0, none⟩)] W fun e w' => e = endP ∧ Ch W w' g)) :
    Calls Tryd.prog 33 #[.pointer (some ⟨g, 0, none⟩)] w fun e w' => e = endP ∧ Ch w w' g := by
  have hmf := mkFuncD
  have i0 : ∀ w, (Instr.index 73 (.agg #[.func (Fn.func 55) #[.pointer (some ⟨g, 0, none⟩)] #[], .func (Fn.func 56) #[.pointer (some ⟨g, 0, none⟩)] #[], .func (Fn.func 57) #[.pointer (some ⟨g, 0, none⟩)] #[], .func (Fn.func 58) #[.pointer (some ⟨g, 0, none⟩)] #[], .func (Fn.func 59) #[.pointer (some ⟨g, 0, none⟩)] #[]]) (.int .i64 0)).run Tryd.prog w = .ok (.func (Fn.func 55) #[.pointer (some ⟨g, 0, none⟩)] #[]) w := fun _ => by kernel_rfl
  have i1 : ∀ w, (Instr.index 73 (.agg #[.func (Fn.func 55) #[.pointer (some ⟨g, 0, none⟩)] #[], .func (Fn.func 56) #[.pointer (some ⟨g, 0, none⟩)] #[], .func (Fn.func 57) #[.pointer (some ⟨g, 0, none⟩)] #[], .func (Fn.func 58) #[.pointer (some ⟨g, 0, none⟩)] #[], .func (Fn.func 59) #[.pointer (some ⟨g, 0, none⟩)] #[]]) (.int .i64 1)).run Tryd.prog w = .ok (.func (Fn.func 56) #[.pointer (some ⟨g, 0, none⟩)] #[]) w := fun _ => by kernel_rfl
  have i2 : ∀ w, (Instr.index 73 (.agg #[.func (Fn.func 55) #[.pointer (some ⟨g, 0, none⟩)] #[], .func (Fn.func 56) #[.pointer (some ⟨g, 0, none⟩)] #[], .func (Fn.func 57) #[.pointer (some ⟨g, 0, none⟩)] #[], .func (Fn.func 58) #[.pointer (some ⟨g, 0, none⟩)] #[], .func (Fn.func 59) #[.pointer (some ⟨g, 0, none⟩)] #[]]) (.int .i64 2)).run Tryd.prog w = .ok (.func (Fn.func 57) #[.pointer (some ⟨g, 0, none⟩)] #[]) w := fun _ => by kernel_rfl
  have i3 : ∀ w, (Instr.index 73 (.agg #[.func (Fn.func 55) #[.pointer (some ⟨g, 0, none⟩)] #[], .func (Fn.func 56) #[.pointer (some ⟨g, 0, none⟩)] #[], .func (Fn.func 57) #[.pointer (some ⟨g, 0, none⟩)] #[], .func (Fn.func 58) #[.pointer (some ⟨g, 0, none⟩)] #[], .func (Fn.func 59) #[.pointer (some ⟨g, 0, none⟩)] #[]]) (.int .i64 3)).run Tryd.prog w = .ok (.func (Fn.func 58) #[.pointer (some ⟨g, 0, none⟩)] #[]) w := fun _ => by kernel_rfl
  have i4 : ∀ w, (Instr.index 73 (.agg #[.func (Fn.func 55) #[.pointer (some ⟨g, 0, none⟩)] #[], .func (Fn.func 56) #[.pointer (some ⟨g, 0, none⟩)] #[], .func (Fn.func 57) #[.pointer (some ⟨g, 0, none⟩)] #[], .func (Fn.func 58) #[.pointer (some ⟨g, 0, none⟩)] #[], .func (Fn.func 59) #[.pointer (some ⟨g, 0, none⟩)] #[]]) (.int .i64 4)).run Tryd.prog w = .ok (.func (Fn.func 59) #[.pointer (some ⟨g, 0, none⟩)] #[]) w := fun _ => by kernel_rfl
  unfold endP at *
  have H0 : Hid (Wr W0 w w g R0) := Lib.hid ⟨h, Ch.refl _ _⟩
  clear h
  go_enter Tryd.func33, Tryd.ntmps33
  go_wp2_with fail
  refine wp_loop_rounds 2 ?_
  rw [rounds_succ]
  go_wp2_with fail
  refine Calls.mono (C1.out _ H0.out.1) ?_
  rintro e v1 ⟨rfl, q1⟩
  have H1 := Lib.hid (H0.out.trans q1)
  clear q1
  go_wp2_with fail
  rw [rounds_succ]
  go_wp2_with fail
  refine Calls.mono (CE.out _ H1.out.1) ?_
  rintro e v ⟨rfl, q⟩
  go_wp2
  exact ⟨rfl, rfl, H1.out.2.trans q⟩
set_option maxRecDepth 100000 in
set_option maxHeartbeats 4000000 in
theorem rd2end (g : Nat) (R0 : Rd) (W0 w : World) (h : At W0 w g R0) (R1 : Rd) (R2 : Rd) (C1 : Hid (∀ W, At W0 W g R0 → Calls Tryd.prog 55 #[.pointer (some ⟨g, 0, none⟩)] W fun e w' => e = .returned (.int .i64 0) ∧ Wr W0 W w' g R1)) (C2 : Hid (∀ W, At W0 W g R1 → Calls Tryd.prog 56 #[.pointer (some ⟨g, 0, none⟩)] W fun e w' => e = .returned (.int .i64 0) ∧ Wr W0 W w' g R2)) (CE : Hid (∀ W, At W0 W g R2 → Calls Tryd.prog 57 #[.pointer (some ⟨g, 0, none⟩)] W fun e w' => e = endP ∧ Ch W w' g)) :
    Calls Tryd.prog 33 #[.pointer (some ⟨g, 0, none⟩)] w fun e w' => e = endP ∧ Ch w w' g := by
  have hmf := mkFuncD
  have i0 : ∀ w, (Instr.index 73 (.agg #[.func (Fn.func 55) #[.pointer (some ⟨g, 0, none⟩)] #[], .func (Fn.func 56) #[.pointer (some ⟨g, 0, none⟩)] #[], .func (Fn.func 57) #[.pointer (some ⟨g, 0, none⟩)] #[], .func (Fn.func 58) #[.pointer (some ⟨g, 0, none⟩)] #[], .func (Fn.func 59) #[.pointer (some ⟨g, 0, none⟩)] #[]]) (.int .i64 0)).run Tryd.prog w = .ok (.func (Fn.func 55) #[.pointer (some ⟨g, 0, none⟩)] #[]) w := fun _ => by kernel_rfl
  have i1 : ∀ w, (Instr.index 73 (.agg #[.func (Fn.func 55) #[.pointer (some ⟨g, 0, none⟩)] #[], .func (Fn.func 56) #[.pointer (some ⟨g, 0, none⟩)] #[], .func (Fn.func 57) #[.pointer (some ⟨g, 0, none⟩)] #[], .func (Fn.func 58) #[.pointer (some ⟨g, 0, none⟩)] #[], .func (Fn.func 59) #[.pointer (some ⟨g, 0, none⟩)] #[]]) (.int .i64 1)).run Tryd.prog w = .ok (.func (Fn.func 56) #[.pointer (some ⟨g, 0, none⟩)] #[]) w := fun _ => by kernel_rfl
  have i2 : ∀ w, (Instr.index 73 (.agg #[.func (Fn.func 55) #[.pointer (some ⟨g, 0, none⟩)] #[], .func (Fn.func 56) #[.pointer (some ⟨g, 0, none⟩)] #[], .func (Fn.func 57) #[.pointer (some ⟨g, 0, none⟩)] #[], .func (Fn.func 58) #[.pointer (some ⟨g, 0, none⟩)] #[], .func (Fn.func 59) #[.pointer (some ⟨g, 0, none⟩)] #[]]) (.int .i64 2)).run Tryd.prog w = .ok (.func (Fn.func 57) #[.pointer (some ⟨g, 0, none⟩)] #[]) w := fun _ => by kernel_rfl
  have i3 : ∀ w, (Instr.index 73 (.agg #[.func (Fn.func 55) #[.pointer (some ⟨g, 0, none⟩)] #[], .func (Fn.func 56) #[.pointer (some ⟨g, 0, none⟩)] #[], .func (Fn.func 57) #[.pointer (some ⟨g, 0, none⟩)] #[], .func (Fn.func 58) #[.pointer (some ⟨g, 0, none⟩)] #[], .func (Fn.func 59) #[.pointer (some ⟨g, 0, none⟩)] #[]]) (.int .i64 3)).run Tryd.prog w = .ok (.func (Fn.func 58) #[.pointer (some ⟨g, 0, none⟩)] #[]) w := fun _ => by kernel_rfl
  have i4 : ∀ w, (Instr.index 73 (.agg #[.func (Fn.func 55) #[.pointer (some ⟨g, 0, none⟩)] #[], .func (Fn.func 56) #[.pointer (some ⟨g, 0, none⟩)] #[], .func (Fn.func 57) #[.pointer (some ⟨g, 0, none⟩)] #[], .func (Fn.func 58) #[.pointer (some ⟨g, 0, none⟩)] #[], .func (Fn.func 59) #[.pointer (some ⟨g, 0, none⟩)] #[]]) (.int .i64 4)).run Tryd.prog w = .ok (.func (Fn.func 59) #[.pointer (some ⟨g, 0, none⟩)] #[]) w := fun _ => by kernel_rfl
  unfold endP at *
  have H0 : Hid (Wr W0 w w g R0) := Lib.hid ⟨h, Ch.refl _ _⟩
  clear h
  go_enter Tryd.func33, Tryd.ntmps33
  go_wp2_with fail
  refine wp_loop_rounds 3 ?_
  rw [rounds_succ]
  go_wp2_with fail
  refine Calls.mono (C1.out _ H0.out.1) ?_
  rintro e v1 ⟨rfl, q1⟩
  have H1 := Lib.hid (H0.out.trans q1)
  clear q1
  go_wp2_with fail
  rw [rounds_succ]
  go_wp2_with fail
  refine Calls.mono (C2.out _ H1.out.1) ?_
  rintro e v2 ⟨rfl, q2⟩
  have H2 := Lib.hid (H1.out.trans q2)
  clear q2
  go_wp2_with fail
  rw [rounds_succ]
  go_wp2_with fail
  refine Calls.mono (CE.out _ H2.out.1) ?_
  rintro e v ⟨rfl, q⟩
  go_wp2
  exact ⟨rfl, rfl, H2.out.2.trans q⟩
set_option maxRecDepth 100000 in
set_option maxHeartbeats 4000000 in
theorem rd5end (g : Nat) (R0 : Rd) (W0 w : World) (h : At W0 w g R0) (R1 : Rd) (R2 : Rd) (R3 : Rd) (R4 : Rd) (R5 : Rd) (C1 : Hid (∀ W, At W0 W g R0 → Calls Tryd.prog 55 #[.pointer (some ⟨g, 0, none⟩)] W fun e w' => e = .returned (.int .i64 0) ∧ Wr W0 W w' g R1)) (C2 : Hid (∀ W, At W0 W g R1 → Calls Tryd.prog 56 #[.pointer (some ⟨g, 0, none⟩)] W fun e w' => e = .returned (.int .i64 0) ∧ Wr W0 W w' g R2)) (C3 : Hid (∀ W, At W0 W g R2 → Calls Tryd.prog 57 #[.pointer (some ⟨g, 0, none⟩)] W fun e w' => e = .returned (.int .i64 0) ∧ Wr W0 W w' g R3)) (C4 : Hid (∀ W, At W0 W g R3 → Calls Tryd.prog 58 #[.pointer (some ⟨g, 0, none⟩)] W fun e w' => e = .returned (.int .i64 0) ∧ Wr W0 W w' g R4)) (C5 : Hid (∀ W, At W0 W g R4 → Calls Tryd.prog 59 #[.pointer (some ⟨g, 0, none⟩)] W fun e w' => e = .returned (.int .i64 0) ∧ Wr W0 W w' g R5)) (CE : Hid (∀ W, At W0 W g R5 → Calls Tryd.prog 60 #[.pointer (some ⟨g, 0, none⟩)] W fun e w' => e = endP ∧ Ch W w' g)) :
    Calls Tryd.prog 33 #[.pointer (some ⟨g, 0, none⟩)] w fun e w' => e = endP ∧ Ch w w' g := by
  have hmf := mkFuncD
  have i0 : ∀ w, (Instr.index 73 (.agg #[.func (Fn.func 55) #[.pointer (some ⟨g, 0, none⟩)] #[], .func (Fn.func 56) #[.pointer (some ⟨g, 0, none⟩)] #[], .func (Fn.func 57) #[.pointer (some ⟨g, 0, none⟩)] #[], .func (Fn.func 58) #[.pointer (some ⟨g, 0, none⟩)] #[], .func (Fn.func 59) #[.pointer (some ⟨g, 0, none⟩)] #[]]) (.int .i64 0)).run Tryd.prog w = .ok (.func (Fn.func 55) #[.pointer (some ⟨g, 0, none⟩)] #[]) w := fun _ => by kernel_rfl
  have i1 : ∀ w, (Instr.index 73 (.agg #[.func (Fn.func 55) #[.pointer (some ⟨g, 0, none⟩)] #[], .func (Fn.func 56) #[.pointer (some ⟨g, 0, none⟩)] #[], .func (Fn.func 57) #[.pointer (some ⟨g, 0, none⟩)] #[], .func (Fn.func 58) #[.pointer (some ⟨g, 0, none⟩)] #[], .func (Fn.func 59) #[.pointer (some ⟨g, 0, none⟩)] #[]]) (.int .i64 1)).run Tryd.prog w = .ok (.func (Fn.func 56) #[.pointer (some ⟨g, 0, none⟩)] #[]) w := fun _ => by kernel_rfl
  have i2 : ∀ w, (Instr.index 73 (.agg #[.func (Fn.func 55) #[.pointer (some ⟨g, 0, none⟩)] #[], .func (Fn.func 56) #[.pointer (some ⟨g, 0, none⟩)] #[], .func (Fn.func 57) #[.pointer (some ⟨g, 0, none⟩)] #[], .func (Fn.func 58) #[.pointer (some ⟨g, 0, none⟩)] #[], .func (Fn.func 59) #[.pointer (some ⟨g, 0, none⟩)] #[]]) (.int .i64 2)).run Tryd.prog w = .ok (.func (Fn.func 57) #[.pointer (some ⟨g, 0, none⟩)] #[]) w := fun _ => by kernel_rfl
  have i3 : ∀ w, (Instr.index 73 (.agg #[.func (Fn.func 55) #[.pointer (some ⟨g, 0, none⟩)] #[], .func (Fn.func 56) #[.pointer (some ⟨g, 0, none⟩)] #[], .func (Fn.func 57) #[.pointer (some ⟨g, 0, none⟩)] #[], .func (Fn.func 58) #[.pointer (some ⟨g, 0, none⟩)] #[], .func (Fn.func 59) #[.pointer (some ⟨g, 0, none⟩)] #[]]) (.int .i64 3)).run Tryd.prog w = .ok (.func (Fn.func 58) #[.pointer (some ⟨g, 0, none⟩)] #[]) w := fun _ => by kernel_rfl
  have i4 : ∀ w, (Instr.index 73 (.agg #[.func (Fn.func 55) #[.pointer (some ⟨g, 0, none⟩)] #[], .func (Fn.func 56) #[.pointer (some ⟨g, 0, none⟩)] #[], .func (Fn.func 57) #[.pointer (some ⟨g, 0, none⟩)] #[], .func (Fn.func 58) #[.pointer (some ⟨g, 0, none⟩)] #[], .func (Fn.func 59) #[.pointer (some ⟨g, 0, none⟩)] #[]]) (.int .i64 4)).run Tryd.prog w = .ok (.func (Fn.func 59) #[.pointer (some ⟨g, 0, none⟩)] #[]) w := fun _ => by kernel_rfl
  unfold endP at *
  have H0 : Hid (Wr W0 w w g R0) := Lib.hid ⟨h, Ch.refl _ _⟩
  clear h
  go_enter Tryd.func33, Tryd.ntmps33
  go_wp2_with fail
  refine wp_loop_rounds 6 ?_
  rw [rounds_succ]
  go_wp2_with fail
  refine Calls.mono (C1.out _ H0.out.1) ?_
  rintro e v1 ⟨rfl, q1⟩
  have H1 := Lib.hid (H0.out.trans q1)
  clear q1
  go_wp2_with fail
  rw [rounds_succ]
  go_wp2_with fail
  refine Calls.mono (C2.out _ H1.out.1) ?_
  rintro e v2 ⟨rfl, q2⟩
  have H2 := Lib.hid (H1.out.trans q2)
  clear q2
  go_wp2_with fail
  rw [rounds_succ]
  go_wp2_with fail
  refine Calls.mono (C3.out _ H2.out.1) ?_
  rintro e v3 ⟨rfl, q3⟩
  have H3 := Lib.hid (H2.out.trans q3)
  clear q3
  go_wp2_with fail
  rw [rounds_succ]
  go_wp2_with fail
  refine Calls.mono (C4.out _ H3.out.1) ?_
  rintro e v4 ⟨rfl, q4⟩
  have H4 := Lib.hid (H3.out.trans q4)
  clear q4
  go_wp2_with fail
  rw [rounds_succ]
  go_wp2_with fail
  refine Calls.mono (C5.out _ H4.out.1) ?_
  rintro e v5 ⟨rfl, q5⟩
  have H5 := Lib.hid (H4.out.trans q5)
  clear q5
  go_wp2_with fail
  rw [rounds_succ]
  go_wp2_with fail
  refine Calls.mono (CE.out _ H5.out.1) ?_
  rintro e v ⟨rfl, q⟩
  go_wp2
  exact ⟨rfl, rfl, H5.out.2.trans q⟩
set_option maxRecDepth 100000 in
set_option maxHeartbeats 4000000 in
theorem rdok (g : Nat) (R0 : Rd) (W0 w : World) (h : At W0 w g R0) (R1 : Rd) (R2 : Rd) (R3 : Rd) (R4 : Rd) (R5 : Rd) (C1 : Hid (∀ W, At W0 W g R0 → Calls Tryd.prog 55 #[.pointer (some ⟨g, 0, none⟩)] W fun e w' => e = .returned (.int .i64 0) ∧ Wr W0 W w' g R1)) (C2 : Hid (∀ W, At W0 W g R1 → Calls Tryd.prog 56 #[.pointer (some ⟨g, 0, none⟩)] W fun e w' => e = .returned (.int .i64 0) ∧ Wr W0 W w' g R2)) (C3 : Hid (∀ W, At W0 W g R2 → Calls Tryd.prog 57 #[.pointer (some ⟨g, 0, none⟩)] W fun e w' => e = .returned (.int .i64 0) ∧ Wr W0 W w' g R3)) (C4 : Hid (∀ W, At W0 W g R3 → Calls Tryd.prog 58 #[.pointer (some ⟨g, 0, none⟩)] W fun e w' => e = .returned (.int .i64 0) ∧ Wr W0 W w' g R4)) (C5 : Hid (∀ W, At W0 W g R4 → Calls Tryd.prog 59 #[.pointer (some ⟨g, 0, none⟩)] W fun e w' => e = .returned (.int .i64 0) ∧ Wr W0 W w' g R5)) (R6 R7 : Rd) (CO : Hid (∀ W, At W0 W g R5 → Calls Tryd.prog 60 #[.pointer (some ⟨g, 0, none⟩)] W fun e w' => e = .returned (.tuple #[]) ∧ Wr W0 W w' g R6)) (CC : Hid (∀ W, At W0 W g R6 → Calls Tryd.prog 61 #[.pointer (some ⟨g, 0, none⟩)] W fun e w' => e = .returned (.tuple #[]) ∧ Wr W0 W w' g R7)) :
    Calls Tryd.prog 33 #[.pointer (some ⟨g, 0, none⟩)] w fun e w' => e = .returned (.int .i64 0) ∧ Wr W0 w w' g R7 := by
  have hmf := mkFuncD
  have i0 : ∀ w, (Instr.index 73 (.agg #[.func (Fn.func 55) #[.pointer (some ⟨g, 0, none⟩)] #[], .func (Fn.func 56) #[.pointer (some ⟨g, 0, none⟩)] #[], .func (Fn.func 57) #[.pointer (some ⟨g, 0, none⟩)] #[], .func (Fn.func 58) #[.pointer (some ⟨g, 0, none⟩)] #[], .func (Fn.func 59) #[.pointer (some ⟨g, 0, none⟩)] #[]]) (.int .i64 0)).run Tryd.prog w = .ok (.func (Fn.func 55) #[.pointer (some ⟨g, 0, none⟩)] #[]) w := fun _ => by kernel_rfl
  have i1 : ∀ w, (Instr.index 73 (.agg #[.func (Fn.func 55) #[.pointer (some ⟨g, 0, none⟩)] #[], .func (Fn.func 56) #[.pointer (some ⟨g, 0, none⟩)] #[], .func (Fn.func 57) #[.pointer (some ⟨g, 0, none⟩)] #[], .func (Fn.func 58) #[.pointer (some ⟨g, 0, none⟩)] #[], .func (Fn.func 59) #[.pointer (some ⟨g, 0, none⟩)] #[]]) (.int .i64 1)).run Tryd.prog w = .ok (.func (Fn.func 56) #[.pointer (some ⟨g, 0, none⟩)] #[]) w := fun _ => by kernel_rfl
  have i2 : ∀ w, (Instr.index 73 (.agg #[.func (Fn.func 55) #[.pointer (some ⟨g, 0, none⟩)] #[], .func (Fn.func 56) #[.pointer (some ⟨g, 0, none⟩)] #[], .func (Fn.func 57) #[.pointer (some ⟨g, 0, none⟩)] #[], .func (Fn.func 58) #[.pointer (some ⟨g, 0, none⟩)] #[], .func (Fn.func 59) #[.pointer (some ⟨g, 0, none⟩)] #[]]) (.int .i64 2)).run Tryd.prog w = .ok (.func (Fn.func 57) #[.pointer (some ⟨g, 0, none⟩)] #[]) w := fun _ => by kernel_rfl
  have i3 : ∀ w, (Instr.index 73 (.agg #[.func (Fn.func 55) #[.pointer (some ⟨g, 0, none⟩)] #[], .func (Fn.func 56) #[.pointer (some ⟨g, 0, none⟩)] #[], .func (Fn.func 57) #[.pointer (some ⟨g, 0, none⟩)] #[], .func (Fn.func 58) #[.pointer (some ⟨g, 0, none⟩)] #[], .func (Fn.func 59) #[.pointer (some ⟨g, 0, none⟩)] #[]]) (.int .i64 3)).run Tryd.prog w = .ok (.func (Fn.func 58) #[.pointer (some ⟨g, 0, none⟩)] #[]) w := fun _ => by kernel_rfl
  have i4 : ∀ w, (Instr.index 73 (.agg #[.func (Fn.func 55) #[.pointer (some ⟨g, 0, none⟩)] #[], .func (Fn.func 56) #[.pointer (some ⟨g, 0, none⟩)] #[], .func (Fn.func 57) #[.pointer (some ⟨g, 0, none⟩)] #[], .func (Fn.func 58) #[.pointer (some ⟨g, 0, none⟩)] #[], .func (Fn.func 59) #[.pointer (some ⟨g, 0, none⟩)] #[]]) (.int .i64 4)).run Tryd.prog w = .ok (.func (Fn.func 59) #[.pointer (some ⟨g, 0, none⟩)] #[]) w := fun _ => by kernel_rfl
  have H0 : Hid (Wr W0 w w g R0) := Lib.hid ⟨h, Ch.refl _ _⟩
  clear h
  go_enter Tryd.func33, Tryd.ntmps33
  go_wp2_with fail
  refine wp_loop_rounds 6 ?_
  rw [rounds_succ]
  go_wp2_with fail
  refine Calls.mono (C1.out _ H0.out.1) ?_
  rintro e v1 ⟨rfl, q1⟩
  have H1 := Lib.hid (H0.out.trans q1)
  clear q1
  go_wp2_with fail
  rw [rounds_succ]
  go_wp2_with fail
  refine Calls.mono (C2.out _ H1.out.1) ?_
  rintro e v2 ⟨rfl, q2⟩
  have H2 := Lib.hid (H1.out.trans q2)
  clear q2
  go_wp2_with fail
  rw [rounds_succ]
  go_wp2_with fail
  refine Calls.mono (C3.out _ H2.out.1) ?_
  rintro e v3 ⟨rfl, q3⟩
  have H3 := Lib.hid (H2.out.trans q3)
  clear q3
  go_wp2_with fail
  rw [rounds_succ]
  go_wp2_with fail
  refine Calls.mono (C4.out _ H3.out.1) ?_
  rintro e v4 ⟨rfl, q4⟩
  have H4 := Lib.hid (H3.out.trans q4)
  clear q4
  go_wp2_with fail
  rw [rounds_succ]
  go_wp2_with fail
  refine Calls.mono (C5.out _ H4.out.1) ?_
  rintro e v5 ⟨rfl, q5⟩
  have H5 := Lib.hid (H4.out.trans q5)
  clear q5
  go_wp2_with fail
  rw [rounds_succ]
  go_wp2_with fail
  refine Calls.mono (CO.out _ H5.out.1) ?_
  rintro e v6 ⟨rfl, q6⟩
  have H6 := Lib.hid (H5.out.trans q6)
  clear q6
  go_wp2_with fail
  refine Calls.mono (CC.out _ H6.out.1) ?_
  rintro e v7 ⟨rfl, q7⟩
  have H7 := Lib.hid (H6.out.trans q7)
  clear q7
  go_wp2
  go_ret
  exact ⟨rfl, H7.out⟩
end Go.Proofs.YtinjpobepcenfaaDoor
