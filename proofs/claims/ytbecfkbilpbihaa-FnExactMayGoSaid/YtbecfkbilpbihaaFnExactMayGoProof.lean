/-
  Proved: for every report (three lists of ints and an int) and every two ints, laws.FnExactMayGo returns true (impl.MayGo answers as spec.MayGo, and leaves its argument as it was), with no condition.
-/
import Derived.Test.YtbecfkbilpbihaaRows
import Derived.WalkKit
import Derived.ProofKit
import Derived.OpenShut
import Derived.ShutString
import Derived.Test.YtbecfkbilpbihaaWalkRep
import Derived.Deep.RegionHeld3
import Derived.ChangeOld
import Derived.Below
import Derived.Test.YtbecfkbilpbihaaOpenRep
namespace Go.Proofs.Ytbecfkbilpbihaa.fnExactMayGo
open Go.ChangeShapes Go.WideShapes Go.ChangeAt Go.RowKit
open Go.ChangeMaps (open_string shut_string)
set_option linter.unusedVariables false

theorem own : ownKnob Try.prog.godebug = none := by kernel_rfl
theorem laidOut : laidOutB Try.prog = true := by kernel_rfl

theorem loadR {W : World} {b : Nat} {V : Array Value} (h : W.heap[b]? = some (.cells V 30 (0, 0))) (hV : V.size = 4 := by rfl) : (Instr.loadAt 30 (.pointer (some ⟨b, 0, none⟩))).run Try.prog W = .ok (.agg V) W := by
  simp only [Instr.loadAt, Instr.sureAddr, Sem.run_bind, Sem.run_pure, Result.andThen_ok]
  exact run_loadVar_row W b 30 30 V (0, 0) _ h Try.underlying30 rfl (by rw [hV]; kernel_rfl)
theorem loadR2 {W : World} {b : Nat} {V : Array Value} (h : W.heap[b]? = some (.cells V 33 (0, 0))) (hV : V.size = 4 := by rfl) : (Instr.loadAt 33 (.pointer (some ⟨b, 0, none⟩))).run Try.prog W = .ok (.agg V) W := by
  simp only [Instr.loadAt, Instr.sureAddr, Sem.run_bind, Sem.run_pure, Result.andThen_ok]
  exact run_loadVar_row W b 33 33 V (0, 0) _ h Try.underlying33 rfl (by rw [hV]; kernel_rfl)
attribute [-go_sem] Instr.loadAt in
set_option maxHeartbeats 2000000 in
theorem small (qa qb qc : Option Addr) (la lb lc : List Int) (ca cb cc : Nat) (n a1 a2 : Int) (w : World) (ra : RdA w qa la) (rb : RdA w qb lb) (rc : RdA w qc lc) (w1 : (Lit.int .i64 a1).wf = true) (hs : la.length + lb.length + lc.length ≤ 1048576) :
    Calls Try.prog 6 #[.agg #[.slice qa la.length ca, .slice qb lb.length cb, .slice qc lc.length cc, .int .i64 n], .int .i64 a1, .int .i64 a2] w fun e w' => e = .returned (.bool true) ∧ Below w.heap.size w w' := by
  have la0 : la.length ≤ 1048576 := by omega
  have lc0 : lc.length ≤ 1048576 := by omega
  have lb0 : lb.length ≤ 1048576 := by omega
  have hneg : decide ((1048576 : Int) - la.length - lb.length - lc.length < 0) = false := decide_eq_false (by omega)
  obtain ⟨W, hW⟩ : ∃ W, W = w.alloc (.cells #[.slice qa la.length ca, .slice qb lb.length cb, .slice qc lc.length cc, .int .i64 n] 30) := ⟨_, rfl⟩
  have L0 : Hid (Below w.heap.size w W) := Lib.hid (by rw [hW]; exact (Below.refl _ _).alloc (Nat.le_refl _) _)
  have A0 : Hid (W.heap[w.heap.size]? = some (.cells #[.slice qa la.length ca, .slice qb lb.length cb, .slice qc lc.length cc, .int .i64 n] 30 (0, 0))) := Lib.hid (by rw [hW]; exact heap_alloc_new _ _)
  have RA := Lib.hid (ra.below L0.out); have RB := Lib.hid (rb.below L0.out); have RC := Lib.hid (rc.below L0.out)
  have HW := Lib.hid hW; have W1 := Lib.hid w1; have HS := Lib.hid hs
  clear ra rb rc hW w1 hs
  have hl := loadR (heap_alloc_new w (.cells #[.slice qa la.length ca, .slice qb lb.length cb, .slice qc lc.length cc, .int .i64 n] 30))
  go_enter Try.func6, Try.ntmps6
  go_wp2_with fail
  clear hl
  rw [← HW.out]
  refine (szRepYes qa qb qc la.length lb.length lc.length ca cb cc n W HS.out).mono ?_
  rintro e w1 ⟨rfl, b1⟩
  have L1 := Lib.hid (L0.out.trans (b1.mono L0.out.size)); have A1 := Lib.hid ((b1.block _ (lt_of_heap A0.out)).trans A0.out)
  have RA1 := Lib.hid (RA.out.below b1); have RB1 := Lib.hid (RB.out.below b1); have RC1 := Lib.hid (RC.out.below b1)
  clear b1 A0 RA RB RC L0
  have hl := loadR A1.out
  go_wp2_with fail
  clear hl
  refine (toRepC qa qb qc la lb lc ca cb cc n w1 RA1.out RB1.out RC1.out HS.out).mono ?_
  rintro e w2 ⟨x0, x1, x2, rfl, z0, z1, z2, b2⟩
  have L2 := Lib.hid (L1.out.trans (b2.mono L1.out.size)); have A2 := Lib.hid ((b2.block _ (lt_of_heap A1.out)).trans A1.out)
  have RA2 := Lib.hid (RA1.out.below b2); have RB2 := Lib.hid (RB1.out.below b2); have RC2 := Lib.hid (RC1.out.below b2)
  have HZ2 := Lib.hid (Rz.mk z0 z1 z2)
  clear b2 A1 RA1 RB1 RC1 z0 z1 z2 L1
  go_wp2_with fail
  refine (mayS x0 x1 x2 _ _ _ _ _ _ la lb lc n a1 a2 w2 HZ2.out rfl rfl la0 lb0).mono ?_
  rintro e w3 ⟨rfl, b3⟩
  have L3 := Lib.hid (L2.out.trans (b3.mono L2.out.size)); have A3 := Lib.hid ((b3.block _ (lt_of_heap A2.out)).trans A2.out)
  have RA3 := Lib.hid (RA2.out.below b3); have RB3 := Lib.hid (RB2.out.below b3); have RC3 := Lib.hid (RC2.out.below b3)
  clear b3 A2 RA2 RB2 RC2 HZ2 L2
  have hl := loadR A3.out
  go_wp2_with fail
  clear hl
  refine (toRepC qa qb qc la lb lc ca cb cc n w3 RA3.out RB3.out RC3.out HS.out).mono ?_
  rintro e w4 ⟨y0, y1, y2, rfl, z0, z1, z2, b4⟩
  have L4 := Lib.hid (L3.out.trans (b4.mono L3.out.size)); have A4 := Lib.hid ((b4.block _ (lt_of_heap A3.out)).trans A3.out)
  have RA4 := Lib.hid (RA3.out.below b4); have RB4 := Lib.hid (RB3.out.below b4); have RC4 := Lib.hid (RC3.out.below b4)
  have HZ4 := Lib.hid (Rz.mk z0 z1 z2)
  clear b4 A3 RA3 RB3 RC3 z0 z1 z2 L3
  obtain ⟨V, hV⟩ : ∃ V, V = w4.alloc (.cells #[.slice (some y0) la.length la.length, .slice (some y1) lb.length lb.length, .slice (some y2) lc.length lc.length, .int .i64 n] 33) := ⟨_, rfl⟩
  have bV : Below w4.heap.size w4 V := by rw [hV]; exact (Below.refl _ _).alloc (Nat.le_refl _) _
  have LV := Lib.hid (L4.out.trans (bV.mono L4.out.size)); have AV := Lib.hid ((bV.block _ (lt_of_heap A4.out)).trans A4.out)
  have RAV := Lib.hid (RA4.out.below bV); have RBV := Lib.hid (RB4.out.below bV); have RCV := Lib.hid (RC4.out.below bV)
  have HZV := Lib.hid (HZ4.out.below bV)
  have XV : Hid (V.heap[w4.heap.size]? = some (.cells #[.slice (some y0) la.length la.length, .slice (some y1) lb.length lb.length, .slice (some y2) lc.length lc.length, .int .i64 n] 33 (0, 0))) := Lib.hid (by rw [hV]; exact heap_alloc_new _ _)
  have hl := loadR2 (heap_alloc_new w4 (.cells #[.slice (some y0) la.length la.length, .slice (some y1) lb.length lb.length, .slice (some y2) lc.length lc.length, .int .i64 n] 33))
  have HV := Lib.hid hV
  clear hV bV L4 A4 RA4 RB4 RC4 HZ4
  go_wp2_with fail
  clear hl
  rw [← HV.out]
  refine (mayI y0 y1 y2 _ _ _ _ _ _ la lb lc n a1 a2 V HZV.out rfl rfl la0 lb0 W1.out).mono ?_
  rintro e w5 ⟨rfl, b5'⟩
  have b5 : Below V.heap.size V w5.drew := b5'.drew
  have L5 := Lib.hid (LV.out.trans (b5.mono LV.out.size)); have A5 := Lib.hid ((b5.block _ (lt_of_heap AV.out)).trans AV.out)
  have RA5 := Lib.hid (RAV.out.below b5); have RB5 := Lib.hid (RBV.out.below b5); have RC5 := Lib.hid (RCV.out.below b5)
  have HZ5 := Lib.hid (HZV.out.below b5)
  have X5 := Lib.hid ((b5.block _ (lt_of_heap XV.out)).trans XV.out)
  clear b5 b5' LV AV RAV RBV RCV HZV XV
  have hla := loadR A5.out
  have hlx := loadR2 X5.out
  have C6 := Lib.hid (toRepC qa qb qc la lb lc ca cb cc n w5.drew RA5.out RB5.out RC5.out HS.out)
  go_wp2_with fail
  go_region_with (first | (go_at_call 16; refine (C6.out).mono ?_; rintro e w6 ⟨v0, v1, v2, rfl, z0, z1, z2, b6⟩; have HZ6 := Lib.hid (Rz.mk z0 z1 z2); have HY6 := Lib.hid (HZ5.out.below b6); have L6 := Lib.hid (L5.out.trans (b6.mono L5.out.size)); have hlx6 := loadR2 ((b6.block _ (lt_of_heap X5.out)).trans X5.out); clear z0 z1 z2 b6) | (go_at_call 18; refine (eqRepC _ _ _ _ _ _ _ _ _ _ _ _ la lb lc n _ HY6.out.z0 HY6.out.z1 HY6.out.z2 HZ6.out.z0 HZ6.out.z1 HZ6.out.z2 (by unfold maxLen; omega) (by unfold maxLen; omega) (by unfold maxLen; omega)).mono ?_; rintro e w7 ⟨rfl, b7⟩))
  all_goals go_wp2
  all_goals go_ret
  all_goals exact ⟨rfl, L6.out.trans (b7.mono L6.out.size)⟩
set_option maxHeartbeats 1000000 in
set_option maxRecDepth 100000 in
theorem walk (qa0 qb0 qc0 : Option Addr) (la0 lb0 lc0 : List Int) (ca0 cb0 cc0 : Nat) (n0 : Int) (a1 : Int) (a2 : Int) (w : World) (ra0 : RdA w qa0 la0) (rb0 : RdA w qb0 lb0) (rc0 : RdA w qc0 lc0) (w1 : (Lit.int .i64 a1).wf = true) (w2 : (Lit.int .i64 a2).wf = true) :
    Calls Try.prog 6 #[.agg #[.slice qa0 la0.length ca0, .slice qb0 lb0.length cb0, .slice qc0 lc0.length cc0, .int .i64 n0], .int .i64 a1, .int .i64 a2] w fun e w' => e = .returned (.bool true) ∧ Below w.heap.size w w' := by
  by_cases hs : la0.length + lb0.length + lc0.length ≤ 1048576
  · exact small qa0 qb0 qc0 la0 lb0 lc0 ca0 cb0 cc0 n0 a1 a2 w ra0 rb0 rc0 w1 hs
  · have C := Lib.hid (szRepNo qa0 qb0 qc0 la0.length lb0.length lc0.length ca0 cb0 cc0 n0 (w.alloc (.cells #[.slice qa0 la0.length ca0, .slice qb0 lb0.length cb0, .slice qc0 lc0.length cc0, .int .i64 n0] 30)) hs ra0.2 rb0.2 rc0.2)
    clear hs ra0 rb0 rc0 w1 w2
    go_enter Try.func6, Try.ntmps6
    go_wp2_with fail
    refine (C.out).mono ?_
    rintro e w1 ⟨rfl, hb⟩
    have HB := Lib.hid hb
    clear hb
    go_wp2
    go_ret
    exact ⟨rfl, ((Below.refl _ _).alloc (Nat.le_refl _) _).trans (HB.out.mono (by simp))⟩

/-! ### THE ROW's STEP -/
set_option maxRecDepth 100000 in
theorem lifted (os : Os) (started : os.Started) (H : Type) (enc : TypeId × Value → H) :
    ReturnsInHanded {} Try.checked os 6 .any (Rows.fnExactMayGoSpec.pre6 enc Try.prog Try.f6 Rows.fnExactMayGoRow.domain false) (Rows.fnExactMayGoSpec.post enc Try.prog Try.f6 false true false false) := by
  refine returnsInHanded_of_change (C := Try.checked) own started (by kernel_rfl) Try.func6
    (ChangeSpec.witness6 (enc := enc) (C := Try.checked) false ⟨#[], #[.agg #[.slice none 0 0, .slice none 0 0, .slice none 0 0, .int .i64 0], .int .i64 0, .int .i64 0], []⟩ 8 (by kernel_rfl) (by kernel_rfl) (by kernel_rfl) (by kernel_rfl)) ?_
  intro W base args ds gs before hval0 hW hcnd _
  have hval : ∀ (j : Nat) t v, Try.f6.params[j]? = some t → args[j]? = some v → Value.okWide Try.prog W .any base t v := hval0
  have hW' := hW
  obtain ⟨p, q, hA0, hV, rfl, hfz, hnd⟩ := hW
  have hA : DataW.TrodAll enc Try.prog W 0 (fun _ => true) true Try.f6.params.toList args.toList ds p := hA0
  rw [Try.params6] at hA hval
  obtain ⟨v0, vs0, d0, ds0, p0, s0, hargs, rfl, rfl, h0, t0⟩ := trodAll_cons hA
  obtain ⟨v1, vs1, d1, ds1, p1, s1, rfl, rfl, rfl, h1, t1⟩ := trodAll_cons t0
  obtain ⟨v2, vs2, d2, ds2, p2, s2, rfl, rfl, rfl, h2, t2⟩ := trodAll_cons t1
  obtain ⟨rfl, rfl, rfl⟩ := trodAll_nil t2
  obtain rfl : args = #[v0, v1, v2] := by cases args; simp_all
  obtain ⟨rfl, rfl⟩ := trodVars_none hV
  have k0 := h0
  have lt0 : ∀ x ∈ p0, x.block < W.heap.size := by obtain ⟨m, hm⟩ := k0; exact DataW.trod_lt m _ _ _ hm
  obtain ⟨qa0, qb0, qc0, la0, lb0, lc0, ca0, cb0, cc0, n0, rfl, ra0, rb0, rc0⟩ := open_rep Try.underlying30 (by kernel_rfl) (by kernel_rfl) Try.underlying28 Try.underlying28 Try.underlying28 Try.underlying3 Try.underlying3 (by kernel_rfl) (hval 0 30 v0 rfl rfl) h0
  obtain ⟨a1, rfl, rfl, rfl, w1⟩ := open_int Try.underlying3 (hval 1 3 v1 rfl rfl) h1
  obtain ⟨a2, rfl, rfl, rfl, w2⟩ := open_int Try.underlying3 (hval 2 3 v2 rfl rfl) h2
  clear hA0 hval0
  refine (walk qa0 qb0 qc0 la0 lb0 lc0 ca0 cb0 cc0 n0 a1 a2 W ra0 rb0 rc0 w1 w2).mono fun e W' ⟨he, bel⟩ => ?_
  subst he
  exact ⟨_, rfl, _, _, _, [], _, [], hW', trodAll_mk1 (shut_bool Try.underlying4 _), (trodAll_cons_mk (Below.trod laidOut (by kernel_rfl) (of_decide_eq_true (by kernel_rfl)) k0 bel lt0) (trodAll_cons_mk (shut_int Try.underlying3 w1) (trodAll_cons_mk (shut_int Try.underlying3 w2) trodAll_mk0))), rfl, bel.frame _, fun h => by cases h⟩

theorem over : Rows.fnExactMayGoRow.holds Try.pinned (OpenSpec.ofChange Rows.fnExactMayGoSpec) :=
  OpenClaim.holds_of_wide 6 Try.f6 rfl rfl rfl rfl rfl rfl rfl ⟨rfl, rfl, rfl, rfl, rfl⟩ rfl rfl rfl rfl rfl (by kernel_rfl) Try.func6 (by kernel_rfl)
    (of_decide_eq_true (by kernel_rfl)) (by unfold Func.isWrapper; first | (rw [if_pos (by decide +kernel)]; kernel_rfl) | (rw [if_neg (by decide +kernel)]; exact ⟨rfl, rfl⟩))
    (fun os started H enc _ => lifted os started H enc)

/-- ████ THE STATEMENT ████ -/
theorem proved : Rows.FnExactMayGoSaid := over
#print axioms proved
end Go.Proofs.Ytbecfkbilpbihaa.fnExactMayGo
