/-
  Proved: for every memory (a list of pages) and all other arguments, laws.FnExactSpanOK returns true (impl.SpanOK answers as spec.SpanOK, and leaves its argument as it was), with no condition.
-/
import Derived.Test.YtcnmklgcifdmoaaRows
import Derived.WalkKit
import Derived.ProofKit
import Derived.OpenShut
import Derived.ShutString
import Derived.Test.YtcnmklgcifdmoaaWalkSpan
import Derived.ChangeOld
import Derived.Below
import Derived.Test.YtcnmklgcifdmoaaOpenMem
namespace Go.Proofs.Ytcnmklgcifdmoaa.fnExactSpanOK
open Go.ChangeShapes Go.WideShapes Go.ChangeAt Go.RowKit
open Go.ChangeMaps (open_string shut_string)
set_option linter.unusedVariables false

theorem own : ownKnob Try.prog.godebug = none := by kernel_rfl
theorem laidOut : laidOutB Try.prog = true := by kernel_rfl

set_option maxHeartbeats 1000000 in
set_option maxRecDepth 100000 in
theorem walk (q0 : Option Addr) (c0 : Nat) (l0 : List Pg) (a1 : Int) (a2 : Int) (a3 : Int) (w : World) (r0 : Rd w q0 l0) (f0 : Fits l0) (w1 : (Lit.int .i64 a1).wf = true) (w2 : (Lit.int .i64 a2).wf = true) (w3 : (Lit.int .i64 a3).wf = true) :
    Calls Try.prog 5 #[.agg #[.slice q0 l0.length c0], .int .i64 a1, .int .i64 a2, .int .i64 a3] w fun e w' => e = .returned (.bool true) ∧ Below w.heap.size w w' := by
  obtain ⟨W, hW⟩ : ∃ W, W = w.alloc (.cells #[.slice q0 l0.length c0] 24) := ⟨_, rfl⟩
  have L0 : Hid (Below w.heap.size w W) := Lib.hid (by rw [hW]; exact below1 w _)
  have A0 : Hid (Bx W w.heap.size q0 c0 l0) := Lib.hid (by rw [hW]; exact Bx.new _ r0)
  have HW := Lib.hid hW; have HF := Lib.hid f0; have HO1 := Lib.hid w1; have HO2 := Lib.hid w2
  clear r0 f0 hW w1 w2 w3
  go_enter Try.func5, Try.ntmps5
  go_wp2_with fail
  rw [← HW.out]
  refine (szMemoryC q0 c0 l0 1048576 W A0.out.2.2 HF.out (by omega) (by omega)).mono ?_
  rintro e w1 ⟨r, rfl, HQ, b1⟩
  have L1 := Lib.hid (bthen L0.out b1); have A1 := Lib.hid (A0.out.next b1)
  have x1 := A1.out.2.1
  clear b1 L0 A0
  by_cases hneg : r < 0
  · go_wp2
    go_ret
    exact ⟨rfl, L1.out⟩
  · have hd : decide (r < 0) = false := decide_eq_false hneg
    have HS := Lib.hid (sz_small HQ.out hneg)
    clear hneg
    go_wp2_with fail
    refine (toMemoryC q0 c0 l0 w1 A1.out.2.2 HS.out).mono ?_
    rintro e w2 ⟨g2, hg2, rfl, o2, b2⟩
    have L2 := Lib.hid (bthen L1.out b2); have A2 := Lib.hid (A1.out.next b2); have O2 := Lib.hid o2
    have x2 := A2.out.2.1
    clear b2 o2 x1 L1 A1 hg2
    go_wp2_with fail
    refine (spanS _ _ l0 a1 a2 a3 w2 HF.out (Rd.of_own O2.out)).mono ?_
    rintro e w3 ⟨r3, k3, rfl, HO3, b3⟩
    have L3 := Lib.hid (bthen L2.out b3); have A3 := Lib.hid (A2.out.next b3)
    have x3 := A3.out.2.1
    clear b3 x2 L2 A2 O2
    go_wp2_with fail
    refine (toMemoryC q0 c0 l0 w3 A3.out.2.2 HS.out).mono ?_
    rintro e w4 ⟨g4, hg4, rfl, o4, b4⟩
    obtain ⟨V, hV⟩ : ∃ V, V = w4.alloc (.cells #[.slice (some ⟨g4, 0, none⟩) l0.length l0.length] 36) := ⟨_, rfl⟩
    have L4 : Hid (Below w.heap.size w V) := Lib.hid (by rw [hV]; exact bbox (bthen L3.out b4) _)
    have A4 : Hid (Bx V w.heap.size q0 c0 l0) := Lib.hid (by rw [hV]; exact (A3.out.next b4).next (below1 _ _))
    have X4 : Hid (Bx V w4.heap.size (some ⟨g4, 0, none⟩) l0.length l0) := Lib.hid (by rw [hV]; exact Bx.new _ (Rd.of_own o4))
    have HV := Lib.hid hV
    have x4 := (A3.out.next b4).2.1
    clear b4 o4 x3 L3 A3 hg4 hV
    go_wp2_with fail
    rw [← HV.out]
    refine (spanI _ _ l0 a1 a2 a3 V (Ad.own g4) HS.out X4.out.2.2 HO1.out HO2.out).mono ?_
    rintro e w5 ⟨r5, k5, rfl, HO5, b5⟩
    obtain ⟨rfl, rfl⟩ := SpanIs.one HO3.out HO5.out
    have L5 := Lib.hid (bthen L4.out b5); have A5 := Lib.hid (A4.out.next b5); have X5 := Lib.hid (X4.out.next b5)
    have A6 := Lib.hid (A5.out.next (below_drew1 w5)); have X6 := Lib.hid (X5.out.next (below_drew1 w5)); have L6 := Lib.hid (bthen L5.out (below_drew1 w5))
    have x5 := A5.out.2.1; have y5 := X5.out.2.1
    clear b5 x4 L4 A4 X4 A5 X5 L5
    have C6 := Lib.hid (toMemoryC q0 c0 l0 w5.drew A6.out.2.2 HS.out)
    have hm := mixed
    go_wp2_with fail
    go_region_with (first | (go_at_call 22; refine (C6.out).mono ?_; rintro e w6 ⟨g6, hg6, rfl, o6, b6⟩; have X7 := Lib.hid (X6.out.next b6); have y6 := X7.out.2.1; have O6 := Lib.hid o6; have L7 := Lib.hid (bthen L6.out b6); clear o6 b6 hg6) | (go_at_call 24; refine (eqMemoryC _ _ _ _ l0 _ HF.out.1 X7.out.2.2 (Rd.of_own O6.out)).mono ?_; rintro e w7 ⟨rfl, b7⟩))
    all_goals go_wp2
    all_goals go_ret
    all_goals exact ⟨rfl, bthen L7.out b7⟩

/-! ### THE ROW's STEP -/
set_option maxRecDepth 100000 in
theorem lifted (os : Os) (started : os.Started) (H : Type) (enc : TypeId × Value → H) :
    ReturnsInHanded {} Try.checked os 5 .any (Rows.fnExactSpanOKSpec.pre6 enc Try.prog Try.f5 Rows.fnExactSpanOKRow.domain false) (Rows.fnExactSpanOKSpec.post enc Try.prog Try.f5 false true false false) := by
  refine returnsInHanded_of_change (C := Try.checked) own started (by kernel_rfl) Try.func5
    (ChangeSpec.witness6 (enc := enc) (C := Try.checked) false ⟨#[], #[.agg #[.slice none 0 0], .int .i64 0, .int .i64 0, .int .i64 0], []⟩ 8 (by kernel_rfl) (by kernel_rfl) (by kernel_rfl) (by kernel_rfl)) ?_
  intro W base args ds gs before hval0 hW hcnd _
  have hval : ∀ (j : Nat) t v, Try.f5.params[j]? = some t → args[j]? = some v → Value.okWide Try.prog W .any base t v := hval0
  have hW' := hW
  obtain ⟨p, q, hA0, hV, rfl, hfz, hnd⟩ := hW
  have hA : DataW.TrodAll enc Try.prog W 0 (fun _ => true) true Try.f5.params.toList args.toList ds p := hA0
  rw [Try.params5] at hA hval
  obtain ⟨v0, vs0, d0, ds0, p0, s0, hargs, rfl, rfl, h0, t0⟩ := trodAll_cons hA
  obtain ⟨v1, vs1, d1, ds1, p1, s1, rfl, rfl, rfl, h1, t1⟩ := trodAll_cons t0
  obtain ⟨v2, vs2, d2, ds2, p2, s2, rfl, rfl, rfl, h2, t2⟩ := trodAll_cons t1
  obtain ⟨v3, vs3, d3, ds3, p3, s3, rfl, rfl, rfl, h3, t3⟩ := trodAll_cons t2
  obtain ⟨rfl, rfl, rfl⟩ := trodAll_nil t3
  obtain rfl : args = #[v0, v1, v2, v3] := by cases args; simp_all
  obtain ⟨rfl, rfl⟩ := trodVars_none hV
  have k0 := h0
  have lt0 : ∀ x ∈ p0, x.block < W.heap.size := by obtain ⟨m, hm⟩ := k0; exact DataW.trod_lt m _ _ _ hm
  obtain ⟨q0, l0, c0, rfl, r0, f0⟩ := open_mem Try.underlying24 (by kernel_rfl) (by kernel_rfl) Try.underlying22 Try.underlying103 (by kernel_rfl) (by kernel_rfl) Try.underlying3 Try.underlying3 Try.underlying9 (hval 0 24 v0 rfl rfl) h0
  obtain ⟨a1, rfl, rfl, rfl, w1⟩ := open_int Try.underlying3 (hval 1 3 v1 rfl rfl) h1
  obtain ⟨a2, rfl, rfl, rfl, w2⟩ := open_int Try.underlying3 (hval 2 3 v2 rfl rfl) h2
  obtain ⟨a3, rfl, rfl, rfl, w3⟩ := open_int Try.underlying3 (hval 3 3 v3 rfl rfl) h3
  clear hA0 hval0
  refine (walk q0 c0 l0 a1 a2 a3 W r0 f0 w1 w2 w3).mono fun e W' ⟨he, bel⟩ => ?_
  subst he
  exact ⟨_, rfl, _, _, _, [], _, [], hW', trodAll_mk1 (shut_bool Try.underlying4 _), (trodAll_cons_mk (Below.trod laidOut (by kernel_rfl) (of_decide_eq_true (by kernel_rfl)) k0 bel lt0) (trodAll_cons_mk (shut_int Try.underlying3 w1) (trodAll_cons_mk (shut_int Try.underlying3 w2) (trodAll_cons_mk (shut_int Try.underlying3 w3) trodAll_mk0)))), rfl, bel.frame _, fun h => by cases h⟩

theorem over : Rows.fnExactSpanOKRow.holds Try.pinned (OpenSpec.ofChange Rows.fnExactSpanOKSpec) :=
  OpenClaim.holds_of_wide 5 Try.f5 rfl rfl rfl rfl rfl rfl rfl ⟨rfl, rfl, rfl, rfl, rfl⟩ rfl rfl rfl rfl rfl (by kernel_rfl) Try.func5 (by kernel_rfl)
    (of_decide_eq_true (by kernel_rfl)) (by unfold Func.isWrapper; first | (rw [if_pos (by decide +kernel)]; kernel_rfl) | (rw [if_neg (by decide +kernel)]; exact ⟨rfl, rfl⟩))
    (fun os started H enc _ => lifted os started H enc)

/-- ████ THE STATEMENT ████ -/
theorem proved : Rows.FnExactSpanOKSaid := over
#print axioms proved
end Go.Proofs.Ytcnmklgcifdmoaa.fnExactSpanOK
