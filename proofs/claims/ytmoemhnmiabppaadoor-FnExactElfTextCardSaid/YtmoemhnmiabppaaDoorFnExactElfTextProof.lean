/-
  Proved: for every image (an int and a list of segments), laws.FnExactElfText returns true (impl.ElfText answers as spec.ElfText, and leaves its argument as it was), with no condition.
-/
import Derived.Test.YtmoemhnmiabppaaDoorCards
import Derived.Test.YtmoemhnmiabppaaDoorTie
import Derived.LaidMore
import Derived.Stop.Joined
import Derived.OpenVars
import Derived.WalkKit
import Derived.ProofKit
import Derived.OpenShut
import Derived.ShutString
import Derived.Test.YtmoemhnmiabppaaDoorWalkEl2
import Derived.Deep.RegionHeld3
import Derived.ChangeOld
import Derived.Below
import Derived.Test.YtmoemhnmiabppaaDoorOpenImg
namespace Go.Proofs.YtmoemhnmiabppaaDoor.fnExactElfText
open Go.ChangeShapes Go.WideShapes Go.ChangeAt Go.RowKit
open Go.ChangeMaps (open_string shut_string)
set_option linter.unusedVariables false

theorem own : ownKnob Tryd.prog.godebug = none := by kernel_rfl
theorem laidOut : laidOutB Tryd.prog = true := by kernel_rfl

set_option maxHeartbeats 1000000 in
set_option maxRecDepth 100000 in
theorem walk (n0 : Int) (q0 : Option Addr) (c0 : Nat) (l0 : List Sg) (w : World) (r0 : RdS w q0 l0) (f0 : FitsS l0) (wn0 : (Lit.int .i64 n0).wf = true) (y0 : ∀ (k : Nat) x, l0[k]? = some x → (Lit.int .i64 x.f).wf = true ∧ (Lit.int .i64 x.v).wf = true ∧ (Lit.int .i64 x.m).wf = true) (hL : laidMetH Tryd.prog Rows.fnExactElfTextRow.laid w) :
    Calls Tryd.prog 4 #[.agg #[.int .i64 n0, .slice q0 l0.length c0]] w fun e w' => e = .returned (.bool true) ∧ Below w.heap.size w w' := by
  obtain ⟨W, hW⟩ : ∃ W, W = w.alloc (.cells #[.int .i64 n0, .slice q0 l0.length c0] 24) := ⟨_, rfl⟩
  have L0 : Hid (Below w.heap.size w W) := Lib.hid (by rw [hW]; go_grown)
  have A0 : Hid (BI W w.heap.size n0 q0 c0 l0) := Lib.hid (by rw [hW]; exact BI.new _ r0)
  have HW := Lib.hid hW; have HF := Lib.hid f0; have HY := Lib.hid y0
  clear r0 f0 y0 hW
  go_enter Tryd.func4, Tryd.ntmps4
  go_wp2_with fail
  rw [← HW.out]
  refine (szImgC n0 q0 c0 l0 1048576 W A0.out.2 HF.out (by omega) (by omega)).mono ?_
  rintro e w1 ⟨r, rfl, HQ, b1⟩
  have L1 := Lib.hid (bthenS L0.out b1); have A1 := Lib.hid (A0.out.next b1)
  obtain ⟨x0, x1, x2⟩ := A1.out.1
  clear b1 L0 A0
  by_cases hneg : r < 0
  · go_wp2
    go_ret
    exact ⟨rfl, L1.out⟩
  have hd : decide (r < 0) = false := decide_eq_false hneg
  have HS := Lib.hid (sz_smallS HQ.out hneg)
  have HL : l0.length ≤ 9223372036854775807 := by have := HS.out.1; omega
  obtain ⟨k, c, hc⟩ := chk_all n0 l0
  have HC := Lib.hid hc
  clear hneg hc
  go_wp2_with fail
  refine (toImgC n0 q0 c0 l0 w1 A1.out.2 HS.out).mono ?_
  rintro e w2 ⟨g2, hg2, rfl, o2, b2⟩
  have L2 := Lib.hid (bthenS L1.out b2); have A2 := Lib.hid (A1.out.next b2)
  have R2 := Lib.hid (RdS.of_own o2)
  clear x0 x1 x2 b2 o2 hg2 L1 A1
  go_wp2_with fail
  refine (elfS n0 (some ⟨g2, 0, none⟩) l0.length l0 w2 R2.out HS.out HY.out k c HC.out).mono ?_
  rintro e w3 ⟨HT, b3⟩
  have L3 := Lib.hid (bthenS L2.out b3); have A3 := Lib.hid (A2.out.next b3)
  have HT' : ∃ (t : ByteArray) (a : Int), e = .returned (.tuple #[.string t, .int .i64 a]) ∧ ElfIs n0 l0 c (.returned (.tuple #[.string t, .int .i64 a])) := by
    have h := HT
    rcases h with ⟨_, rfl⟩ | ⟨_, rfl⟩
    · exact ⟨_, _, rfl, HT⟩
    · exact ⟨_, _, rfl, HT⟩
  obtain ⟨t, a, rfl, ht⟩ := HT'
  have HT2 := Lib.hid ht
  clear b3 L2 A2 R2 HT ht
  obtain ⟨x0, x1, x2⟩ := A3.out.1
  go_wp2_with fail
  refine (toImgC n0 q0 c0 l0 w3 A3.out.2 HS.out).mono ?_
  rintro e w4 ⟨g4, hg4, rfl, o4, b4⟩
  obtain ⟨V, hV⟩ : ∃ V, V = w4.alloc (.cells #[.int .i64 n0, .slice (some ⟨g4, 0, none⟩) l0.length l0.length] 30) := ⟨_, rfl⟩
  have L4 : Hid (Below w.heap.size w V) := Lib.hid (by rw [hV]; exact (bthenS L3.out b4).alloc (bthenS L3.out b4).size _)
  have A4 : Hid (BI V w.heap.size n0 q0 c0 l0) := Lib.hid (by rw [hV]; exact (A3.out.next b4).next (belowA _ _))
  have X4 : Hid (BI V w4.heap.size n0 (some ⟨g4, 0, none⟩) l0.length l0) := Lib.hid (by rw [hV]; exact BI.new _ (RdS.of_own o4))
  have HV := Lib.hid hV
  clear b4 o4 hg4 x0 x1 x2 L3 A3 hV
  obtain ⟨s0, s1, s2⟩ := X4.out.1
  go_upto_region 7 with fail
  rw [← HV.out]
  go_wp2_with fail
  refine (elfI n0 (some ⟨g4, 0, none⟩) l0.length l0 V (Nat.le_refl _) X4.out.2 HS.out k c HC.out).mono ?_
  rintro e w5 ⟨hi, b5⟩
  obtain rfl := hi.one HT2.out
  have L5 := Lib.hid (bthenS L4.out b5); have A5 := Lib.hid (A4.out.next b5); have X5 := Lib.hid (X4.out.next b5)
  clear s0 s1 s2 b5 L4 A4 X4 HT2 hi
  have K5 : (w5.cell? ⟨w4.heap.size, 0, none⟩ = some (.int .i64 n0) ∧ w5.cell? ⟨w4.heap.size, 1, none⟩ = some (.slice (some ⟨g4, 0, none⟩) l0.length l0.length)) ∧ w5.cell? ⟨w.heap.size, 0, none⟩ = some (.int .i64 n0) ∧ w5.cell? ⟨w.heap.size, 1, none⟩ = some (.slice q0 l0.length c0) := ⟨X5.out.1.2, A5.out.1.2⟩
  have C6 := Lib.hid (toImgC n0 q0 c0 l0 w5.drew (A5.out.next (belowD w5)).2 HS.out)
  go_upto_region 10 with fail
  go_region_held3 (fun w' => (w'.cell? ⟨w4.heap.size, 0, none⟩ = some (.int .i64 n0) ∧ w'.cell? ⟨w4.heap.size, 1, none⟩ = some (.slice (some ⟨g4, 0, none⟩) l0.length l0.length)) ∧ w'.cell? ⟨w.heap.size, 0, none⟩ = some (.int .i64 n0) ∧ w'.cell? ⟨w.heap.size, 1, none⟩ = some (.slice q0 l0.length c0)) (first | (with_reducible exact K5) | (with_reducible exact keep4S K5) | (with_reducible exact K6) | (with_reducible exact keep4S K6) | (with_reducible exact K7) | (with_reducible exact keep4S K7) | go_keep) (first | (go_at_call 8; (with_reducible refine Calls.mono (C6.out) ?_); rintro e w6 ⟨g6, hg6, rfl, o6, b6⟩; have b6' : Below w5.heap.size w5 w6 := (belowD w5).trans b6; have L6 := Lib.hid (bthenS L5.out b6'); have A6 := Lib.hid (A5.out.next b6'); have X6 := Lib.hid (X5.out.next b6'); have K6 : (w6.cell? ⟨w4.heap.size, 0, none⟩ = some (.int .i64 n0) ∧ w6.cell? ⟨w4.heap.size, 1, none⟩ = some (.slice (some ⟨g4, 0, none⟩) l0.length l0.length)) ∧ w6.cell? ⟨w.heap.size, 0, none⟩ = some (.int .i64 n0) ∧ w6.cell? ⟨w.heap.size, 1, none⟩ = some (.slice q0 l0.length c0) := ⟨X6.out.1.2, A6.out.1.2⟩; have C7 := Lib.hid (eqImgC n0 (some ⟨g4, 0, none⟩) (some ⟨g6, 0, none⟩) l0.length l0.length l0 w6 HL X6.out.2 (RdS.of_own o6)); clear hg6 o6 b6 b6') | (go_at_call 10; (with_reducible refine Calls.mono (C7.out) ?_); rintro e w7 ⟨rfl, b7⟩; have L7 := Lib.hid (bthenS L6.out b7); have K7 : (w7.cell? ⟨w4.heap.size, 0, none⟩ = some (.int .i64 n0) ∧ w7.cell? ⟨w4.heap.size, 1, none⟩ = some (.slice (some ⟨g4, 0, none⟩) l0.length l0.length)) ∧ w7.cell? ⟨w.heap.size, 0, none⟩ = some (.int .i64 n0) ∧ w7.cell? ⟨w.heap.size, 1, none⟩ = some (.slice q0 l0.length c0) := ⟨(X6.out.next b7).1.2, (A6.out.next b7).1.2⟩; clear b7))
  go_wp2
  go_ret
  exact ⟨rfl, L7.out⟩

theorem door_met (os : Os) (args : Array Value) : laidMetH Tryd.prog Rows.fnExactElfTextRow.laid ((World.doorLaid Tryd.prog 400 os).forCall (fun _ _ => 0) ⟨#[], args, []⟩).memory :=
  laidMetH_of_parts3 (fuel := 8) (laidMet_of_run' 8 (by kernel_rfl) (by kernel_rfl)) (by kernel_rfl) (by kernel_rfl)
theorem n_vars {H : Type} {enc : TypeId × Value → H} {P : Program} {w : World} {sp : Nat → Bool} {n1 n2 : String} {gs : List (DataW H)} {ps : List MemPlace} (h : DataW.TrodVars enc P w sp [n1, n2] gs ps) : ∃ g1 g2, gs = [g1, g2] := by
  match gs, h with
  | [], h => exact h.elim
  | [a1], ⟨_, _, _, _, _, _, _, _, _, _, h, _⟩ => exact h.elim
  | [a1, a2], _ => exact ⟨a1, a2, rfl⟩
  | a1 :: a2 :: b :: r, ⟨_, _, _, _, _, _, _, _, _, _, ⟨_, _, _, _, _, _, _, _, _, _, h, _⟩, _⟩ => exact h.elim
/-! ### THE ROW's STEP -/
set_option maxRecDepth 100000 in
theorem lifted (os : Os) (started : os.Started) (H : Type) (enc : TypeId × Value → H) :
    ReturnsInHanded {} Tryd.checked os 4 .any (fun w args => (Rows.fnExactElfTextSpec.pre enc Tryd.prog Tryd.f4 [] false w args ∧ laidMetH Tryd.prog Rows.fnExactElfTextRow.laid w) ∧ sizedMet enc Tryd.prog Tryd.f4 (OpenSpec.ofChange Rows.fnExactElfTextSpec) false w args)
      (Rows.fnExactElfTextSpec.post enc Tryd.prog Tryd.f4 false true false false) := by
  refine returnsInHanded_of_change_and (C := Tryd.checked) (X := fun w _ => laidMetH Tryd.prog Rows.fnExactElfTextRow.laid w) (fun _ _ _ hh h => h.of_heap hh) own started (by kernel_rfl) Tryd.func4
    (ChangeSpec.witness_shaped (enc := enc) (C := Tryd.checked) (os := os) (X := fun w _ => laidMetH Tryd.prog Rows.fnExactElfTextRow.laid w) false (World.doorLaid Tryd.prog 400 os) #[.agg #[.int .i64 0, .slice none 0 0]] 8 rfl (World.shaped_of_RefB (by kernel_rfl) (by kernel_rfl)) (by kernel_rfl) (by kernel_rfl) (by kernel_rfl) (door_met os _)) ?_
  intro W base args ds gs before hval0 hW _ _ hL _
  have hval : ∀ (j : Nat) t v, Tryd.f4.params[j]? = some t → args[j]? = some v → Value.okWide Tryd.prog W .any base t v := hval0
  have hW' := hW
  obtain ⟨p, q, hA0, hV, rfl, hfz, hnd⟩ := hW
  have hA : DataW.TrodAll enc Tryd.prog W 0 (fun _ => true) true Tryd.f4.params.toList args.toList ds p := hA0
  rw [Tryd.params4] at hA hval
  obtain ⟨v0, vs0, d0, ds0, p0, s0, hargs, rfl, rfl, h0, t0⟩ := trodAll_cons hA
  obtain ⟨rfl, rfl, rfl⟩ := trodAll_nil t0
  obtain rfl : args = #[v0] := by cases args; simp_all
  obtain ⟨g1, g2, rfl⟩ : ∃ g1 g2, gs = [g1, g2] := n_vars hV
  have k0 := h0
  have lt0 : ∀ x ∈ p0, x.block < W.heap.size := by obtain ⟨m, hm⟩ := k0; exact DataW.trod_lt m _ _ _ hm
  obtain ⟨n0, q0, l0, c0, rfl, r0, f0, wn0, y0⟩ := open_img Tryd.underlying24 (by kernel_rfl) (by kernel_rfl) Tryd.underlying3 Tryd.underlying22 Tryd.underlying59 (by kernel_rfl) (by kernel_rfl) Tryd.underlying3 Tryd.underlying3 Tryd.underlying3 Tryd.underlying9 (hval 0 24 v0 rfl rfl) h0
  clear hA0 hval0
  refine (walk n0 q0 c0 l0 W r0 f0 wn0 y0 hL).mono fun e W' ⟨he, hg⟩ => ?_
  subst he
  exact ⟨_, rfl, _, _, _, [], _, _, hW', trodAll_mk1 (shut_bool Tryd.underlying4 _), (trodAll_cons_mk (Below.trod laidOut (by kernel_rfl) (of_decide_eq_true (by kernel_rfl)) k0 hg lt0) trodAll_mk0), Below.trodVars laidOut hg (by kernel_rfl) hV, hg.frame _, fun h => by cases h⟩

theorem over : Rows.fnExactElfTextRow.holds Tryd.pinned (OpenSpec.ofChange Rows.fnExactElfTextSpec) :=
  OpenClaim.holds_of_wide 4 Tryd.f4 rfl rfl rfl rfl rfl rfl rfl ⟨rfl, rfl, rfl, rfl, rfl⟩ rfl rfl rfl rfl rfl (by kernel_rfl) Tryd.func4 (by kernel_rfl)
    (of_decide_eq_true (by kernel_rfl)) (by unfold Func.isWrapper; first | (rw [if_pos (by decide +kernel)]; kernel_rfl) | (rw [if_neg (by decide +kernel)]; exact ⟨rfl, rfl⟩))
    (fun os started H enc _ => lifted os started H enc)

theorem plain (f : FuncId) (fn : Func) (hf : Tryd.pinned.checked.prog.funcNamed "loop.example/g00664/laws.FnExactElfText" = some f) (hfn : Tryd.pinned.checked.prog.funcs[f]? = some fn) :
    true = Tryd.pinned.checked.prog.looks [] ∧ ∀ (j : Nat) t, fn.params[j]? = some t → Tryd.pinned.checked.prog.wantsStandIn t = false := by
  obtain rfl : f = 4 := Option.some.inj ((show Tryd.prog.funcNamed "loop.example/g00664/laws.FnExactElfText" = some 4 by kernel_rfl).symm.trans hf) |>.symm
  obtain rfl : fn = Tryd.f4 := (Option.some.inj (Tryd.func4.symm.trans hfn)).symm
  refine ⟨by kernel_rfl, fun j t ht => ?_⟩
  rw [Tryd.params4] at ht
  have hm := Array.mem_of_getElem? ht
  simp only [List.mem_toArray, List.mem_cons, List.not_mem_nil, or_false] at hm
  rcases hm with rfl
  · exact (show Tryd.prog.wantsStandIn 24 = false by kernel_rfl)
/-- THE CARD -/
theorem card : Rows.FnExactElfTextCardSaid :=
  Claim7.holds_tied_plain_at .later [] _ _ _ _ over (fun _ h => by cases h) (by kernel_rfl) (fun _ h => by cases h) fnExactElfText_row_tie rfl ⟨rfl, rfl⟩ (by kernel_rfl) rfl plain (by kernel_rfl)
#print axioms card
end Go.Proofs.YtmoemhnmiabppaaDoor.fnExactElfText
