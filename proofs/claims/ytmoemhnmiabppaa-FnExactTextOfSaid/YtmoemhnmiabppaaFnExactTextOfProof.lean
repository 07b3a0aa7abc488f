/-
  Proved: for every image (an int and a list of segments), laws.FnExactTextOf returns true (impl.TextOf answers as spec.TextOf, and leaves its argument as it was), with no condition.
-/
import Derived.Test.YtmoemhnmiabppaaRows
import Derived.WalkKit
import Derived.ProofKit
import Derived.OpenShut
import Derived.ShutString
import Derived.Test.YtmoemhnmiabppaaWalkImT
import Derived.Deep.RegionHeld3
import Derived.ChangeOld
import Derived.Below
import Derived.Test.YtmoemhnmiabppaaOpenImg
namespace Go.Proofs.Ytmoemhnmiabppaa.fnExactTextOf
open Go.ChangeShapes Go.WideShapes Go.ChangeAt Go.RowKit
open Go.ChangeMaps (open_string shut_string)
set_option linter.unusedVariables false

theorem own : ownKnob Try.prog.godebug = none := by kernel_rfl
theorem laidOut : laidOutB Try.prog = true := by kernel_rfl

set_option maxHeartbeats 1000000 in
set_option maxRecDepth 100000 in
theorem walk (n0 : Int) (q0 : Option Addr) (c0 : Nat) (l0 : List Sg) (w : World) (r0 : RdS w q0 l0) (f0 : FitsS l0) (wn0 : (Lit.int .i64 n0).wf = true) (y0 : ∀ (k : Nat) x, l0[k]? = some x → (Lit.int .i64 x.f).wf = true ∧ (Lit.int .i64 x.v).wf = true ∧ (Lit.int .i64 x.m).wf = true) :
    Calls Try.prog 5 #[.agg #[.int .i64 n0, .slice q0 l0.length c0]] w fun e w' => e = .returned (.bool true) ∧ Below w.heap.size w w' := by
  obtain ⟨W, hW⟩ : ∃ W, W = w.alloc (.cells #[.int .i64 n0, .slice q0 l0.length c0] 27) := ⟨_, rfl⟩
  have L0 : Hid (Below w.heap.size w W) := Lib.hid (by rw [hW]; go_grown)
  have A0 : Hid (BI W w.heap.size n0 q0 c0 l0) := Lib.hid (by rw [hW]; exact BI.new _ r0)
  have HW := Lib.hid hW; have HF := Lib.hid f0; have HY := Lib.hid y0
  clear r0 f0 y0 hW
  go_enter Try.func5, Try.ntmps5
  go_wp2_with fail
  rw [← HW.out]
  refine (szImgC n0 q0 c0 l0 1048576 W A0.out.2 HF.out (by omega) (by omega)).mono ?_
  rintro e w1 ⟨r, rfl, HQ, b1⟩
  have L1 := Lib.hid (bthenS L0.out b1); have A1 := Lib.hid (A0.out.next b1)
  obtain ⟨x0, x1, x2⟩ := A1.out.1
  clear b1 L0 A0
  by_cases hneg : r < 0
  · go_wp2
    go_ret
    exact ⟨rfl, L1.out⟩
  have hd : decide (r < 0) = false := decide_eq_false hneg
  have HS := Lib.hid (sz_smallS HQ.out hneg)
  have HL : l0.length ≤ 9223372036854775807 := by have := HS.out.1; omega
  obtain ⟨k, c, hc⟩ := chk_all n0 l0
  have HC := Lib.hid hc
  clear hneg hc
  go_wp2_with fail
  refine (toImgC n0 q0 c0 l0 w1 A1.out.2 HS.out).mono ?_
  rintro e w2 ⟨g2, hg2, rfl, o2, b2⟩
  have L2 := Lib.hid (bthenS L1.out b2); have A2 := Lib.hid (A1.out.next b2)
  have R2 := Lib.hid (RdS.of_own o2)
  clear x0 x1 x2 b2 o2 hg2 L1 A1
  go_wp2_with fail
  refine (textS n0 (some ⟨g2, 0, none⟩) l0.length l0 w2 R2.out HS.out HY.out k c HC.out).mono ?_
  rintro e w3 ⟨HT, b3⟩
  have L3 := Lib.hid (bthenS L2.out b3); have A3 := Lib.hid (A2.out.next b3)
  have HT' : ∃ (t : ByteArray) (a b : Int), e = .returned (.tuple #[.string t, .int .i64 a, .int .i64 b]) ∧ TextIs n0 l0 c (.returned (.tuple #[.string t, .int .i64 a, .int .i64 b])) := by
    have h := HT
    rcases h with ⟨_, rfl⟩ | ⟨_, j, x, _, rfl⟩
    · exact ⟨_, _, _, rfl, HT⟩
    · exact ⟨_, _, _, rfl, HT⟩
  obtain ⟨t, a, b, rfl, ht⟩ := HT'
  have HT2 := Lib.hid ht
  clear b3 L2 A2 R2 HT ht
  obtain ⟨x0, x1, x2⟩ := A3.out.1
  go_wp2_with fail
  refine (toImgC n0 q0 c0 l0 w3 A3.out.2 HS.out).mono ?_
  rintro e w4 ⟨g4, hg4, rfl, o4, b4⟩
  obtain ⟨V, hV⟩ : ∃ V, V = w4.alloc (.cells #[.int .i64 n0, .slice (some ⟨g4, 0, none⟩) l0.length l0.length] 32) := ⟨_, rfl⟩
  have L4 : Hid (Below w.heap.size w V) := Lib.hid (by rw [hV]; exact (bthenS L3.out b4).alloc (bthenS L3.out b4).size _)
  have A4 : Hid (BI V w.heap.size n0 q0 c0 l0) := Lib.hid (by rw [hV]; exact (A3.out.next b4).next (belowA _ _))
  have X4 : Hid (BI V w4.heap.size n0 (some ⟨g4, 0, none⟩) l0.length l0) := Lib.hid (by rw [hV]; exact BI.new _ (RdS.of_own o4))
  have HV := Lib.hid hV
  clear b4 o4 hg4 x0 x1 x2 L3 A3 hV
  obtain ⟨s0, s1, s2⟩ := X4.out.1
  go_upto_region 7 with fail
  rw [← HV.out]
  go_wp2_with fail
  refine (textI n0 (some ⟨g4, 0, none⟩) l0.length l0 V (Nat.le_refl _) X4.out.2 HS.out k c HC.out).mono ?_
  rintro e w5 ⟨hi, b5⟩
  obtain rfl := hi.one HT2.out
  have L5 := Lib.hid (bthenS L4.out b5); have A5 := Lib.hid (A4.out.next b5); have X5 := Lib.hid (X4.out.next b5)
  clear s0 s1 s2 b5 L4 A4 X4 HT2 hi
  have K5 : (w5.cell? ⟨w4.heap.size, 0, none⟩ = some (.int .i64 n0) ∧ w5.cell? ⟨w4.heap.size, 1, none⟩ = some (.slice (some ⟨g4, 0, none⟩) l0.length l0.length)) ∧ w5.cell? ⟨w.heap.size, 0, none⟩ = some (.int .i64 n0) ∧ w5.cell? ⟨w.heap.size, 1, none⟩ = some (.slice q0 l0.length c0) := ⟨X5.out.1.2, A5.out.1.2⟩
  have C6 := Lib.hid (toImgC n0 q0 c0 l0 w5.drew (A5.out.next (belowD w5)).2 HS.out)
  go_upto_region 10 with fail
  go_region_held3 (fun w' => (w'.cell? ⟨w4.heap.size, 0, none⟩ = some (.int .i64 n0) ∧ w'.cell? ⟨w4.heap.size, 1, none⟩ = some (.slice (some ⟨g4, 0, none⟩) l0.length l0.length)) ∧ w'.cell? ⟨w.heap.size, 0, none⟩ = some (.int .i64 n0) ∧ w'.cell? ⟨w.heap.size, 1, none⟩ = some (.slice q0 l0.length c0)) (first | (with_reducible exact K5) | (with_reducible exact keep4S K5) | (with_reducible exact K6) | (with_reducible exact keep4S K6) | (with_reducible exact K7) | (with_reducible exact keep4S K7) | go_keep) (first | (go_at_call 11; (with_reducible refine Calls.mono (C6.out) ?_); rintro e w6 ⟨g6, hg6, rfl, o6, b6⟩; have b6' : Below w5.heap.size w5 w6 := (belowD w5).trans b6; have L6 := Lib.hid (bthenS L5.out b6'); have A6 := Lib.hid (A5.out.next b6'); have X6 := Lib.hid (X5.out.next b6'); have K6 : (w6.cell? ⟨w4.heap.size, 0, none⟩ = some (.int .i64 n0) ∧ w6.cell? ⟨w4.heap.size, 1, none⟩ = some (.slice (some ⟨g4, 0, none⟩) l0.length l0.length)) ∧ w6.cell? ⟨w.heap.size, 0, none⟩ = some (.int .i64 n0) ∧ w6.cell? ⟨w.heap.size, 1, none⟩ = some (.slice q0 l0.length c0) := ⟨X6.out.1.2, A6.out.1.2⟩; have C7 := Lib.hid (eqImgC n0 (some ⟨g4, 0, none⟩) (some ⟨g6, 0, none⟩) l0.length l0.length l0 w6 HL X6.out.2 (RdS.of_own o6)); clear hg6 o6 b6 b6') | (go_at_call 13; (with_reducible refine Calls.mono (C7.out) ?_); rintro e w7 ⟨rfl, b7⟩; have L7 := Lib.hid (bthenS L6.out b7); have K7 : (w7.cell? ⟨w4.heap.size, 0, none⟩ = some (.int .i64 n0) ∧ w7.cell? ⟨w4.heap.size, 1, none⟩ = some (.slice (some ⟨g4, 0, none⟩) l0.length l0.length)) ∧ w7.cell? ⟨w.heap.size, 0, none⟩ = some (.int .i64 n0) ∧ w7.cell? ⟨w.heap.size, 1, none⟩ = some (.slice q0 l0.length c0) := ⟨(X6.out.next b7).1.2, (A6.out.next b7).1.2⟩; clear b7))
  go_wp2
  go_ret
  exact ⟨rfl, L7.out⟩

/-! ### THE ROW's STEP -/
set_option maxRecDepth 100000 in
theorem lifted (os : Os) (started : os.Started) (H : Type) (enc : TypeId × Value → H) :
    ReturnsInHanded {} Try.checked os 5 .any (Rows.fnExactTextOfSpec.pre6 enc Try.prog Try.f5 Rows.fnExactTextOfRow.domain false) (Rows.fnExactTextOfSpec.post enc Try.prog Try.f5 false true false false) := by
  refine returnsInHanded_of_change (C := Try.checked) own started (by kernel_rfl) Try.func5
    (ChangeSpec.witness6 (enc := enc) (C := Try.checked) false ⟨#[], #[.agg #[.int .i64 0, .slice none 0 0]], []⟩ 8 (by kernel_rfl) (by kernel_rfl) (by kernel_rfl) (by kernel_rfl)) ?_
  intro W base args ds gs before hval0 hW hcnd _
  have hval : ∀ (j : Nat) t v, Try.f5.params[j]? = some t → args[j]? = some v → Value.okWide Try.prog W .any base t v := hval0
  have hW' := hW
  obtain ⟨p, q, hA0, hV, rfl, hfz, hnd⟩ := hW
  have hA : DataW.TrodAll enc Try.prog W 0 (fun _ => true) true Try.f5.params.toList args.toList ds p := hA0
  rw [Try.params5] at hA hval
  obtain ⟨v0, vs0, d0, ds0, p0, s0, hargs, rfl, rfl, h0, t0⟩ := trodAll_cons hA
  obtain ⟨rfl, rfl, rfl⟩ := trodAll_nil t0
  obtain rfl : args = #[v0] := by cases args; simp_all
  obtain ⟨rfl, rfl⟩ := trodVars_none hV
  have k0 := h0
  have lt0 : ∀ x ∈ p0, x.block < W.heap.size := by obtain ⟨m, hm⟩ := k0; exact DataW.trod_lt m _ _ _ hm
  obtain ⟨n0, q0, l0, c0, rfl, r0, f0, wn0, y0⟩ := open_img Try.underlying27 (by kernel_rfl) (by kernel_rfl) Try.underlying3 Try.underlying25 Try.underlying69 (by kernel_rfl) (by kernel_rfl) Try.underlying3 Try.underlying3 Try.underlying3 Try.underlying9 (hval 0 27 v0 rfl rfl) h0
  clear hA0 hval0
  refine (walk n0 q0 c0 l0 W r0 f0 wn0 y0).mono fun e W' ⟨he, bel⟩ => ?_
  subst he
  exact ⟨_, rfl, _, _, _, [], _, [], hW', trodAll_mk1 (shut_bool Try.underlying4 _), (trodAll_cons_mk (Below.trod laidOut (by kernel_rfl) (of_decide_eq_true (by kernel_rfl)) k0 bel lt0) trodAll_mk0), rfl, bel.frame _, fun h => by cases h⟩

theorem over : Rows.fnExactTextOfRow.holds Try.pinned (OpenSpec.ofChange Rows.fnExactTextOfSpec) :=
  OpenClaim.holds_of_wide 5 Try.f5 rfl rfl rfl rfl rfl rfl rfl ⟨rfl, rfl, rfl, rfl, rfl⟩ rfl rfl rfl rfl rfl (by kernel_rfl) Try.func5 (by kernel_rfl)
    (of_decide_eq_true (by kernel_rfl)) (by unfold Func.isWrapper; first | (rw [if_pos (by decide +kernel)]; kernel_rfl) | (rw [if_neg (by decide +kernel)]; exact ⟨rfl, rfl⟩))
    (fun os started H enc _ => lifted os started H enc)

/-- ████ THE STATEMENT ████ -/
theorem proved : Rows.FnExactTextOfSaid := over
#print axioms proved
end Go.Proofs.Ytmoemhnmiabppaa.fnExactTextOf
