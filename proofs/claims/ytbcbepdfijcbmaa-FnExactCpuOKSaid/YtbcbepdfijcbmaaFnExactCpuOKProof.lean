/-
  Proved: for every processor, laws.FnExactCpuOK returns true (impl.CpuOK answers as spec.CpuOK), with no condition.
-/
import Derived.Test.YtbcbepdfijcbmaaRows
import Derived.WalkKit
import Derived.ProofKit
import Derived.OpenShut
import Derived.ShutString
import Derived.Test.YtbcbepdfijcbmaaWalkCpuO
import Derived.ChangeOld
import Derived.Below
import Derived.Test.YtbcbepdfijcbmaaMathCpu
namespace Go.Proofs.Ytbcbepdfijcbmaa.fnExactCpuOK
open Go.ChangeShapes Go.WideShapes Go.ChangeAt Go.RowKit
open Go.ChangeMaps (open_string shut_string)
set_option linter.unusedVariables false

theorem own : ownKnob Try.prog.godebug = none := by kernel_rfl
theorem laidOut : laidOutB Try.prog = true := by kernel_rfl

set_option maxRecDepth 100000 in
set_option maxHeartbeats 1000000 in
theorem both (c : Cp) (v : Bool) (w : World)
    (C1 : Hid (∀ W, Calls Try.prog 4 #[.agg (cpV c)] W fun e w' => e = .returned (.bool v) ∧ Below W.heap.size W w'))
    (C2 : Hid (∀ W, Calls Try.prog 6 #[.agg (cpV c)] W fun e w' => e = .returned (.bool v) ∧ Below W.heap.size W w')) :
    Calls Try.prog 3 #[.agg (cpV c)] w fun e w' => e = .returned (.bool true) ∧ Below w.heap.size w w' := by
  have CT := Lib.hid (toCpuC c)
  have R0 := Lib.hid (heap_alloc_new w (.cells (cpV c) 24))
  have B0 := Lib.hid (show Below w.heap.size w (w.alloc (.cells (cpV c) 24)) from (Below.refl _ _).alloc (Nat.le_refl _) _)
  have sz : (cpV c).size = 18 := rfl
  generalize cpV c = V at *
  have HS := Lib.hid sz
  clear sz
  have I18 := Lib.hid (show (Try.prog.info? 24).map (·.size) = some 18 by kernel_rfl)
  go_enter Try.func3, Try.ntmps3
  go_wp2_with (refine wpList_load_row rfl 24 (.tmp 1) rfl w.heap.size rfl 24 V (0, 0) _ R0.out Try.underlying24 rfl (by rw [HS.out]; exact I18.out) ?_)
  refine (CT.out _).mono ?_
  rintro e w1 ⟨rfl, hb1⟩
  go_wp2_with fail
  refine (C1.out _).mono ?_
  rintro e w2 ⟨rfl, hb2⟩
  have B2 := Lib.hid ((B0.out.trans (hb1.mono B0.out.size)).trans (hb2.mono (Nat.le_trans B0.out.size hb1.size)))
  have R2 := Lib.hid ((hb2.block _ (Nat.lt_of_lt_of_le (lt_of_blk' R0.out) hb1.size)).trans ((hb1.block _ (lt_of_blk' R0.out)).trans R0.out))
  clear hb1 hb2
  go_wp2_with (refine wpList_load_row rfl 24 (.tmp 1) rfl w.heap.size rfl 24 V (0, 0) _ R2.out Try.underlying24 rfl (by rw [HS.out]; exact I18.out) ?_)
  refine (CT.out _).mono ?_
  rintro e w3 ⟨rfl, hb3⟩
  have B3 := Lib.hid (B2.out.trans (hb3.mono B2.out.size))
  clear hb3
  go_wp2_with fail
  refine (C2.out _).mono ?_
  rintro e w4 ⟨rfl, hb4⟩
  have B4 := Lib.hid (B3.out.trans (hb4.mono B3.out.size))
  clear hb4
  go_wp2
  go_ret
  exact ⟨rfl, B4.out⟩
set_option maxHeartbeats 1000000 in
set_option maxRecDepth 100000 in
theorem walk (z0 : Cp) (w : World) (cw0 : CpW z0) :
    Calls Try.prog 3 #[.agg (cpV z0)] w fun e w' => e = .returned (.bool true) ∧ Below w.heap.size w w' := by
  obtain ⟨v, _, hI, hS⟩ := cpuI z0 cw0
  exact both z0 v w (Lib.hid hS) (Lib.hid hI)

/-! ### THE ROW's STEP -/
set_option maxRecDepth 100000 in
theorem lifted (os : Os) (started : os.Started) (H : Type) (enc : TypeId × Value → H) :
    ReturnsInHanded {} Try.checked os 3 .any (Rows.fnExactCpuOKSpec.pre6 enc Try.prog Try.f3 Rows.fnExactCpuOKRow.domain false) (Rows.fnExactCpuOKSpec.post enc Try.prog Try.f3 false true false false) := by
  refine returnsInHanded_of_change (C := Try.checked) own started (by kernel_rfl) Try.func3
    (ChangeSpec.witness6 (enc := enc) (C := Try.checked) false ⟨#[], #[.agg #[.int .i64 0, .int .i64 0, .int .i64 0, .int .i64 0, .int .i64 0, .int .i64 0, .int .i64 0, .int .i64 0, .int .i64 0, .int .i64 0, .int .i64 0, .int .i64 0, .int .i64 0, .int .i64 0, .int .i64 0, .int .i64 0, .int .i64 0, .int .i64 0]], []⟩ 8 (by kernel_rfl) (by kernel_rfl) (by kernel_rfl) (by kernel_rfl)) ?_
  intro W base args ds gs before hval0 hW hcnd _
  have hval : ∀ (j : Nat) t v, Try.f3.params[j]? = some t → args[j]? = some v → Value.okWide Try.prog W .any base t v := hval0
  have hW' := hW
  obtain ⟨p, q, hA0, hV, rfl, hfz, hnd⟩ := hW
  have hA : DataW.TrodAll enc Try.prog W 0 (fun _ => true) true Try.f3.params.toList args.toList ds p := hA0
  rw [Try.params3] at hA hval
  obtain ⟨v0, vs0, d0, ds0, p0, s0, hargs, rfl, rfl, h0, t0⟩ := trodAll_cons hA
  obtain ⟨rfl, rfl, rfl⟩ := trodAll_nil t0
  obtain rfl : args = #[v0] := by cases args; simp_all
  obtain ⟨rfl, rfl⟩ := trodVars_none hV
  have k0 := h0
  have lt0 : ∀ x ∈ p0, x.block < W.heap.size := by obtain ⟨m, hm⟩ := k0; exact DataW.trod_lt m _ _ _ hm
  obtain ⟨z0, cw0, rfl⟩ := open_cpu Try.underlying24 (by kernel_rfl) Try.underlying22 (by kernel_rfl) (by kernel_rfl) Try.underlying3 rfl (by kernel_rfl) Try.underlying3 Try.underlying3 (hval 0 24 v0 rfl rfl) h0
  clear hA0 hval0
  refine (walk z0 W cw0).mono fun e W' ⟨he, bel⟩ => ?_
  subst he
  exact ⟨_, rfl, _, _, _, [], _, [], hW', trodAll_mk1 (shut_bool Try.underlying4 _), (trodAll_cons_mk (Below.trod laidOut (by kernel_rfl) (of_decide_eq_true (by kernel_rfl)) k0 bel lt0) trodAll_mk0), rfl, bel.frame _, fun h => by cases h⟩

theorem over : Rows.fnExactCpuOKRow.holds Try.pinned (OpenSpec.ofChange Rows.fnExactCpuOKSpec) :=
  OpenClaim.holds_of_wide 3 Try.f3 rfl rfl rfl rfl rfl rfl rfl ⟨rfl, rfl, rfl, rfl, rfl⟩ rfl rfl rfl rfl rfl (by kernel_rfl) Try.func3 (by kernel_rfl)
    (of_decide_eq_true (by kernel_rfl)) (by unfold Func.isWrapper; first | (rw [if_pos (by decide +kernel)]; kernel_rfl) | (rw [if_neg (by decide +kernel)]; exact ⟨rfl, rfl⟩))
    (fun os started H enc _ => lifted os started H enc)

/-- ████ THE STATEMENT ████ -/
theorem proved : Rows.FnExactCpuOKSaid := over
#print axioms proved
end Go.Proofs.Ytbcbepdfijcbmaa.fnExactCpuOK
