/-
  What the method call of impl.widths does: it asks size and flags, and goes on to the function of the size; conditions: those in each head.
-/
import Derived.Test.YtifpcfhfglkbcaaDoorWalkFlA
import Derived.Stop.LaidErr
import Derived.Stop.LaidTwo
import Derived.LaidSub
namespace Go.Proofs.YtifpcfhfglkbcaaDoor
open Go.RowKit
set_option linter.unusedVariables false
set_option linter.unusedSimpArgs false
theorem belW (w : World) (o : Obj) : Below w.heap.size w (w.alloc o) := (Below.refl _ _).alloc (Nat.le_refl _) _
/-- the sentinel of ranges -/
def SentF (w : World) (aR : Addr) : Prop := w.cell? ⟨0, 0, none⟩ = some (.iface 142 (.pointer (some aR)))
theorem SentF.below {w w' : World} {aR : Addr} (h : SentF w aR) (hb : Below w.heap.size w w') : SentF w' aR := (hb.cell (p := ⟨0, 0, none⟩) (lt_of_cell h)).trans h
theorem sentF_of_laid {W : World} {q : List (String × DataW Unit)} (hq : (q.filter fun x => x.1 == "loop.example/g00664/impl.errRange") = [("loop.example/g00664/impl.errRange", Rows.laid_loop_example_g00664_impl_errRange)]) (h : laidMetH Tryd.prog q W) : ∃ aR, SentF W aR := by
  have h1 := h.filter (fun x => x.1 == "loop.example/g00664/impl.errRange")
  rw [hq, MakeChecks.laidMetH_plain _ _ _ (by kernel_rfl)] at h1
  obtain ⟨a, s, hv, _, _, _⟩ := Go.laid_sentinel h1 gRange tRange Tryd.underlying48 rowES Tryd.underlying142 Tryd.underlying158 rfl rfl Tryd.underlying9 cES cStrE
  exact ⟨a, World.var?_cell gRange hv 0⟩
set_option maxHeartbeats 400000 in
theorem noSizeF (n : Int) (w : World) (aR : Addr) (h : SentF w aR) :
    Calls Tryd.prog 154 #[.int .i64 n] w fun e w' => e = .returned (bErr sizeT n aR) ∧ w = w' := by
  have h1 : w.cell? ⟨0, 0, none⟩ = some (.iface 142 (.pointer (some aR))) := h
  clear h
  go_enter Tryd.func154, Tryd.ntmps154
  go_wp2
  go_ret
  exact ⟨rfl, rfl⟩
set_option maxHeartbeats 400000 in
theorem checkNoF (n : Int) (w : World) (aR : Addr) (hs : SentF w aR) (h : ¬ okSize n) : Calls Tryd.prog 53 #[.int .i64 n] w fun e w' => e = .returned (bErr sizeT n aR) ∧ w = w' := by
  have h1 : (n == 1) = false := beq_eq_false_iff_ne.mpr fun e => h (.inl e)
  have h2 : (n == 2) = false := beq_eq_false_iff_ne.mpr fun e => h (.inr (.inl e))
  have h4 : (n == 4) = false := beq_eq_false_iff_ne.mpr fun e => h (.inr (.inr (.inl e)))
  have h8 : (n == 8) = false := beq_eq_false_iff_ne.mpr fun e => h (.inr (.inr (.inr e)))
  have C := Lib.hid (noSizeF n w aR hs)
  clear h hs
  go_enter Tryd.func53, Tryd.ntmps53
  go_wp2_with (go_at_call 154; refine (C.out).mono ?_; rintro e w' ⟨rfl, rfl⟩)
  go_ret
  exact ⟨rfl, rfl⟩
set_option maxHeartbeats 400000 in
theorem checkYesF (n : Int) (w : World) (h : okSize n) : Calls Tryd.prog 53 #[.int .i64 n] w fun e w' => e = .returned .nilIface ∧ w = w' := by
  rcases h with rfl | rfl | rfl | rfl
  all_goals
    go_enter Tryd.func53, Tryd.ntmps53
    go_wp2
    go_ret
    exact ⟨rfl, rfl⟩
set_option maxRecDepth 100000 in
set_option maxHeartbeats 1000000 in
theorem call1 (F0 F1 F2 F3 : FuncId) (op a b r0 r1 r2 : Int) (c p z s o : Bool) (w : World) (HE : ∀ (args : Array Value) (w : World), (callFunc F0 args).run Tryd.prog w = .ok (.enter F0 args) w) (H : Hid (∀ W, Calls Tryd.prog F0 #[.int .i64 op, .int .i64 a, .int .i64 b, .int .i64 (flV c p z s o)] W fun e w' => e = .returned (.tuple #[.int .i64 r0, .int .i64 r1, .int .i64 r2]) ∧ Below W.heap.size W w')) :
    Calls Tryd.prog 34 #[.agg #[.func (.func F0) #[] #[], .func (.func F1) #[] #[], .func (.func F2) #[] #[], .func (.func F3) #[] #[]], .int .i64 op, .int .i64 1, .int .i64 a, .int .i64 b, .int .i64 (flV c p z s o)] w fun e w' => e = .returned (.tuple #[.int .i64 r0, .int .i64 r1, .int .i64 r2]) ∧ Below w.heap.size w w' := by
  have CZ := Lib.hid (fun w => checkYesF 1 w (by unfold okSize; omega))
  have CF := Lib.hid (flagsYesI c p z s o)
  have CT := Lib.hid (fun w => Tryd.bits_TrailingZeros8 1 w (by decide) (by decide))
  have ht : Lib.trailingZeros8 1 = 0 := by decide
  generalize flV c p z s o = f at *
  have B0 := Lib.hid (belW w (.cells #[.func (.func F0) #[] #[], .func (.func F1) #[] #[], .func (.func F2) #[] #[], .func (.func F3) #[] #[]] 43))
  go_enter Tryd.func34, Tryd.ntmps34
  go_wp2_with fail
  refine (CZ.out _).mono ?_
  rintro e w1 ⟨rfl, rfl⟩
  go_wp2_with fail
  refine (CF.out _).mono ?_
  rintro e w1 ⟨rfl, e1⟩
  obtain rfl := e1
  go_wp2_with fail
  refine (CT.out _).mono ?_
  rintro e w1 ⟨rfl, e1⟩
  obtain rfl := e1
  go_wp2_with fail
  refine (H.out _).mono ?_
  rintro e w1 ⟨rfl, hb⟩
  have B1 := Lib.hid (B0.out.trans (hb.mono B0.out.size))
  clear hb
  go_wp2
  go_ret3
  exact ⟨rfl, B1.out⟩
set_option maxRecDepth 100000 in
set_option maxHeartbeats 1000000 in
theorem call2 (F0 F1 F2 F3 : FuncId) (op a b r0 r1 r2 : Int) (c p z s o : Bool) (w : World) (HE : ∀ (args : Array Value) (w : World), (callFunc F1 args).run Tryd.prog w = .ok (.enter F1 args) w) (H : Hid (∀ W, Calls Tryd.prog F1 #[.int .i64 op, .int .i64 a, .int .i64 b, .int .i64 (flV c p z s o)] W fun e w' => e = .returned (.tuple #[.int .i64 r0, .int .i64 r1, .int .i64 r2]) ∧ Below W.heap.size W w')) :
    Calls Tryd.prog 34 #[.agg #[.func (.func F0) #[] #[], .func (.func F1) #[] #[], .func (.func F2) #[] #[], .func (.func F3) #[] #[]], .int .i64 op, .int .i64 2, .int .i64 a, .int .i64 b, .int .i64 (flV c p z s o)] w fun e w' => e = .returned (.tuple #[.int .i64 r0, .int .i64 r1, .int .i64 r2]) ∧ Below w.heap.size w w' := by
  have CZ := Lib.hid (fun w => checkYesF 2 w (by unfold okSize; omega))
  have CF := Lib.hid (flagsYesI c p z s o)
  have CT := Lib.hid (fun w => Tryd.bits_TrailingZeros8 2 w (by decide) (by decide))
  have ht : Lib.trailingZeros8 2 = 1 := by decide
  generalize flV c p z s o = f at *
  have B0 := Lib.hid (belW w (.cells #[.func (.func F0) #[] #[], .func (.func F1) #[] #[], .func (.func F2) #[] #[], .func (.func F3) #[] #[]] 43))
  go_enter Tryd.func34, Tryd.ntmps34
  go_wp2_with fail
  refine (CZ.out _).mono ?_
  rintro e w1 ⟨rfl, rfl⟩
  go_wp2_with fail
  refine (CF.out _).mono ?_
  rintro e w1 ⟨rfl, e1⟩
  obtain rfl := e1
  go_wp2_with fail
  refine (CT.out _).mono ?_
  rintro e w1 ⟨rfl, e1⟩
  obtain rfl := e1
  go_wp2_with fail
  refine (H.out _).mono ?_
  rintro e w1 ⟨rfl, hb⟩
  have B1 := Lib.hid (B0.out.trans (hb.mono B0.out.size))
  clear hb
  go_wp2
  go_ret3
  exact ⟨rfl, B1.out⟩
set_option maxRecDepth 100000 in
set_option maxHeartbeats 1000000 in
theorem call4 (F0 F1 F2 F3 : FuncId) (op a b r0 r1 r2 : Int) (c p z s o : Bool) (w : World) (HE : ∀ (args : Array Value) (w : World), (callFunc F2 args).run Tryd.prog w = .ok (.enter F2 args) w) (H : Hid (∀ W, Calls Tryd.prog F2 #[.int .i64 op, .int .i64 a, .int .i64 b, .int .i64 (flV c p z s o)] W fun e w' => e = .returned (.tuple #[.int .i64 r0, .int .i64 r1, .int .i64 r2]) ∧ Below W.heap.size W w')) :
    Calls Tryd.prog 34 #[.agg #[.func (.func F0) #[] #[], .func (.func F1) #[] #[], .func (.func F2) #[] #[], .func (.func F3) #[] #[]], .int .i64 op, .int .i64 4, .int .i64 a, .int .i64 b, .int .i64 (flV c p z s o)] w fun e w' => e = .returned (.tuple #[.int .i64 r0, .int .i64 r1, .int .i64 r2]) ∧ Below w.heap.size w w' := by
  have CZ := Lib.hid (fun w => checkYesF 4 w (by unfold okSize; omega))
  have CF := Lib.hid (flagsYesI c p z s o)
  have CT := Lib.hid (fun w => Tryd.bits_TrailingZeros8 4 w (by decide) (by decide))
  have ht : Lib.trailingZeros8 4 = 2 := by decide
  generalize flV c p z s o = f at *
  have B0 := Lib.hid (belW w (.cells #[.func (.func F0) #[] #[], .func (.func F1) #[] #[], .func (.func F2) #[] #[], .func (.func F3) #[] #[]] 43))
  go_enter Tryd.func34, Tryd.ntmps34
  go_wp2_with fail
  refine (CZ.out _).mono ?_
  rintro e w1 ⟨rfl, rfl⟩
  go_wp2_with fail
  refine (CF.out _).mono ?_
  rintro e w1 ⟨rfl, e1⟩
  obtain rfl := e1
  go_wp2_with fail
  refine (CT.out _).mono ?_
  rintro e w1 ⟨rfl, e1⟩
  obtain rfl := e1
  go_wp2_with fail
  refine (H.out _).mono ?_
  rintro e w1 ⟨rfl, hb⟩
  have B1 := Lib.hid (B0.out.trans (hb.mono B0.out.size))
  clear hb
  go_wp2
  go_ret3
  exact ⟨rfl, B1.out⟩
set_option maxRecDepth 100000 in
set_option maxHeartbeats 1000000 in
theorem call8 (F0 F1 F2 F3 : FuncId) (op a b r0 r1 r2 : Int) (c p z s o : Bool) (w : World) (HE : ∀ (args : Array Value) (w : World), (callFunc F3 args).run Tryd.prog w = .ok (.enter F3 args) w) (H : Hid (∀ W, Calls Tryd.prog F3 #[.int .i64 op, .int .i64 a, .int .i64 b, .int .i64 (flV c p z s o)] W fun e w' => e = .returned (.tuple #[.int .i64 r0, .int .i64 r1, .int .i64 r2]) ∧ Below W.heap.size W w')) :
    Calls Tryd.prog 34 #[.agg #[.func (.func F0) #[] #[], .func (.func F1) #[] #[], .func (.func F2) #[] #[], .func (.func F3) #[] #[]], .int .i64 op, .int .i64 8, .int .i64 a, .int .i64 b, .int .i64 (flV c p z s o)] w fun e w' => e = .returned (.tuple #[.int .i64 r0, .int .i64 r1, .int .i64 r2]) ∧ Below w.heap.size w w' := by
  have CZ := Lib.hid (fun w => checkYesF 8 w (by unfold okSize; omega))
  have CF := Lib.hid (flagsYesI c p z s o)
  have CT := Lib.hid (fun w => Tryd.bits_TrailingZeros8 8 w (by decide) (by decide))
  have ht : Lib.trailingZeros8 8 = 3 := by decide
  generalize flV c p z s o = f at *
  have B0 := Lib.hid (belW w (.cells #[.func (.func F0) #[] #[], .func (.func F1) #[] #[], .func (.func F2) #[] #[], .func (.func F3) #[] #[]] 43))
  go_enter Tryd.func34, Tryd.ntmps34
  go_wp2_with fail
  refine (CZ.out _).mono ?_
  rintro e w1 ⟨rfl, rfl⟩
  go_wp2_with fail
  refine (CF.out _).mono ?_
  rintro e w1 ⟨rfl, e1⟩
  obtain rfl := e1
  go_wp2_with fail
  refine (CT.out _).mono ?_
  rintro e w1 ⟨rfl, e1⟩
  obtain rfl := e1
  go_wp2_with fail
  refine (H.out _).mono ?_
  rintro e w1 ⟨rfl, hb⟩
  have B1 := Lib.hid (B0.out.trans (hb.mono B0.out.size))
  clear hb
  go_wp2
  go_ret3
  exact ⟨rfl, B1.out⟩
set_option maxHeartbeats 1000000 in
theorem callBad (F0 F1 F2 F3 : FuncId) (op n a b f : Int) (w : World) (aR : Addr) (hs : SentF w aR) (hw : (Lit.int .i64 f).wf = true) (h : ¬ okSize n ∨ ¬ FlOK f) :
    Calls Tryd.prog 34 #[.agg #[.func (.func F0) #[] #[], .func (.func F1) #[] #[], .func (.func F2) #[] #[], .func (.func F3) #[] #[]], .int .i64 op, .int .i64 n, .int .i64 a, .int .i64 b, .int .i64 f] w fun e w' => e = .returned (.tuple #[.int .i64 0, .int .i64 0, .int .i64 4]) ∧ Below w.heap.size w w' := by
  have B0 := Lib.hid (belW w (.cells #[.func (.func F0) #[] #[], .func (.func F1) #[] #[], .func (.func F2) #[] #[], .func (.func F3) #[] #[]] 43))
  by_cases hn : okSize n
  · have CZ := Lib.hid (fun w => checkYesF n w hn)
    have CF := Lib.hid (fun w => flagsNoI f w hw (h.resolve_left (fun e => e hn)))
    clear h hn hw hs
    go_enter Tryd.func34, Tryd.ntmps34
    go_wp2_with fail
    refine (CZ.out _).mono ?_
    rintro e w1 ⟨rfl, rfl⟩
    go_wp2_with fail
    refine (CF.out _).mono ?_
    rintro e w1 ⟨rfl, e1⟩
    obtain rfl := e1
    go_wp2
    go_ret3
    exact ⟨rfl, B0.out⟩
  · have CZ := checkNoF n _ aR (hs.below B0.out) hn
    unfold bErr at CZ
    replace CZ := Lib.hid CZ
    clear h hn hw hs
    go_enter Tryd.func34, Tryd.ntmps34
    go_wp2_with fail
    refine (CZ.out).mono ?_
    rintro e w1 ⟨rfl, rfl⟩
    go_wp2
    go_ret3
    exact ⟨rfl, B0.out⟩
end Go.Proofs.YtifpcfhfglkbcaaDoor
