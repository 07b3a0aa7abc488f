/-
  Proved: for every memory (a list of pages) and all other arguments, laws.FnExactLoadAt returns true (impl.LoadAt answers as spec.LoadAt, and leaves its argument as it was); condition: the two sentinel errors hold what the program's text lays there, which the card ties to that text.
-/
import Derived.Test.YtceoomihncchfaaDoorCards
import Derived.Test.YtceoomihncchfaaDoorTie
import Derived.LaidMore
import Derived.Stop.Joined
import Derived.OpenVars
import Derived.WalkKit
import Derived.ProofKit
import Derived.OpenShut
import Derived.ShutString
import Derived.Test.YtceoomihncchfaaDoorWalkLoad
import Derived.ChangeOld
import Derived.Below
import Derived.Test.YtceoomihncchfaaDoorOpenMem
namespace Go.Proofs.YtceoomihncchfaaDoor.fnExactLoadAt
open Go.ChangeShapes Go.WideShapes Go.ChangeAt Go.RowKit
open Go.ChangeMaps (open_string shut_string)
set_option linter.unusedVariables false

theorem own : ownKnob Tryd.prog.godebug = none := by kernel_rfl
theorem laidOut : laidOutB Tryd.prog = true := by kernel_rfl

set_option maxHeartbeats 1000000 in
set_option maxRecDepth 100000 in
theorem walk (q0 : Option Addr) (c0 : Nat) (l0 : List Pg) (a1 : Int) (a2 : Int) (w : World) (r0 : Rd w q0 l0) (f0 : Fits l0) (w1 : (Lit.int .i64 a1).wf = true) (w2 : (Lit.int .i64 a2).wf = true) (hL : laidMetH Tryd.prog Rows.fnExactLoadAtRow.laid w) :
    Calls Tryd.prog 5 #[.agg #[.slice q0 l0.length c0], .int .i64 a1, .int .i64 a2] w fun e w' => e = .returned (.bool true) ∧ Below w.heap.size w w' := by
  obtain ⟨aE, aR, hs⟩ := sent_of_laid (W := w) rfl hL
  clear hL
  obtain ⟨ha1, ha2⟩ := bounds_i64 w1
  clear w1 w2
  have HSent := Lib.hid hs
  clear hs
  obtain ⟨W, hW⟩ : ∃ W, W = w.alloc (.cells #[.slice q0 l0.length c0] 47) := ⟨_, rfl⟩
  have L0 : Hid (Below w.heap.size w W) := Lib.hid (by rw [hW]; exact below1 w _)
  have A0 : Hid (Bx W w.heap.size q0 c0 l0) := Lib.hid (by rw [hW]; exact Bx.new _ r0)
  have HW := Lib.hid hW; have HF := Lib.hid f0
  clear r0 f0 hW
  go_enter Tryd.func5, Tryd.ntmps5
  go_wp2_with fail
  rw [← HW.out]
  refine (szMemoryC q0 c0 l0 1048576 W A0.out.2.2 HF.out (by omega) (by omega)).mono ?_
  rintro e w1 ⟨r, rfl, HQ, b1⟩
  have L1 := Lib.hid (bthen L0.out b1); have A1 := Lib.hid (A0.out.next b1)
  have x1 := A1.out.2.1
  clear b1 L0 A0
  by_cases hneg : r < 0
  · go_wp2
    go_ret
    exact ⟨rfl, L1.out⟩
  · have hd : decide (r < 0) = false := decide_eq_false hneg
    have HS := Lib.hid (sz_small HQ.out hneg)
    clear hneg
    go_wp2_with fail
    refine (toMemoryC q0 c0 l0 w1 A1.out.2.2 HS.out).mono ?_
    rintro e w2 ⟨g2, hg2, rfl, o2, b2⟩
    have L2 := Lib.hid (bthen L1.out b2); have A2 := Lib.hid (A1.out.next b2); have O2 := Lib.hid o2
    have x2 := A2.out.2.1
    clear b2 o2 x1 L1 A1 hg2
    go_wp2_with fail
    refine (loadS _ _ l0 a1 a2 w2 HF.out (Rd.of_own O2.out)).mono ?_
    rintro e w3 ⟨r3, k3, rfl, HO3, b3⟩
    have L3 := Lib.hid (bthen L2.out b3); have A3 := Lib.hid (A2.out.next b3)
    have x3 := A3.out.2.1
    clear b3 x2 L2 A2 O2
    go_wp2_with fail
    refine (toMemoryC q0 c0 l0 w3 A3.out.2.2 HS.out).mono ?_
    rintro e w4 ⟨g4, hg4, rfl, o4, b4⟩
    obtain ⟨V, hV⟩ : ∃ V, V = w4.alloc (.cells #[.slice (some ⟨g4, 0, none⟩) l0.length l0.length] 25) := ⟨_, rfl⟩
    have L4 : Hid (Below w.heap.size w V) := Lib.hid (by rw [hV]; exact bbox (bthen L3.out b4) _)
    have A4 : Hid (Bx V w.heap.size q0 c0 l0) := Lib.hid (by rw [hV]; exact (A3.out.next b4).next (below1 _ _))
    have X4 : Hid (Bx V w4.heap.size (some ⟨g4, 0, none⟩) l0.length l0) := Lib.hid (by rw [hV]; exact Bx.new _ (Rd.of_own o4))
    have HV := Lib.hid hV
    have x4 := (A3.out.next b4).2.1
    clear b4 o4 x3 L3 A3 hg4 hV
    go_wp2_with fail
    rw [← HV.out]
    refine (loadI _ _ l0 a1 a2 V aE aR (HSent.out.below L4.out) (Ad.own g4) HS.out X4.out.2.2 ha1 ha2).mono ?_
    rintro e w5 ⟨r5, k5, rfl, HO5, b5⟩
    obtain ⟨rfl, rfl⟩ := LoadOut.one HO3.out HO5.out
    have L5 := Lib.hid (bthen L4.out b5); have A5 := Lib.hid (A4.out.next b5); have X5 := Lib.hid (X4.out.next b5)
    have A6 := Lib.hid (A5.out.next (below_drew1 w5)); have X6 := Lib.hid (X5.out.next (below_drew1 w5)); have L6 := Lib.hid (bthen L5.out (below_drew1 w5))
    have x5 := A5.out.2.1; have y5 := X5.out.2.1
    clear b5 x4 L4 A4 X4 A5 X5 L5
    have C6 := Lib.hid (toMemoryC q0 c0 l0 w5.drew A6.out.2.2 HS.out)
    have hm := mixed
    go_wp2_with fail
    go_region_with (first | (go_at_call 25; refine (C6.out).mono ?_; rintro e w6 ⟨g6, hg6, rfl, o6, b6⟩; have X7 := Lib.hid (X6.out.next b6); have y6 := X7.out.2.1; have O6 := Lib.hid o6; have L7 := Lib.hid (bthen L6.out b6); clear o6 b6 hg6) | (go_at_call 26; refine (eqMemoryC _ _ _ _ l0 _ HF.out.1 X7.out.2.2 (Rd.of_own O6.out)).mono ?_; rintro e w7 ⟨rfl, b7⟩))
    all_goals go_wp2
    all_goals go_ret
    all_goals exact ⟨rfl, bthen L7.out b7⟩

theorem door_met (os : Os) (args : Array Value) : laidMetH Tryd.prog Rows.fnExactLoadAtRow.laid ((World.doorLaid Tryd.prog 400 os).forCall (fun _ _ => 0) ⟨#[], args, []⟩).memory :=
  laidMetH_of_parts3 (fuel := 8) (laidMet_of_run' 8 (by kernel_rfl) (by kernel_rfl)) (by kernel_rfl) (by kernel_rfl)
theorem two_vars {H : Type} {enc : TypeId × Value → H} {P : Program} {w : World} {sp : Nat → Bool} {n1 n2 : String} {gs : List (DataW H)} {ps : List MemPlace} (h : DataW.TrodVars enc P w sp [n1, n2] gs ps) : ∃ g1 g2, gs = [g1, g2] := by
  match gs, h with
  | [], h => exact h.elim
  | [a], ⟨_, _, _, _, _, _, _, _, _, _, h, _⟩ => exact h.elim
  | [a, b], _ => exact ⟨a, b, rfl⟩
  | a :: b :: c :: r, ⟨_, _, _, _, _, _, _, _, _, _, ⟨_, _, _, _, _, _, _, _, _, _, h, _⟩, _⟩ => exact h.elim
/-! ### THE ROW's STEP -/
set_option maxRecDepth 100000 in
theorem lifted (os : Os) (started : os.Started) (H : Type) (enc : TypeId × Value → H) :
    ReturnsInHanded {} Tryd.checked os 5 .any (fun w args => (Rows.fnExactLoadAtSpec.pre enc Tryd.prog Tryd.f5 [] false w args ∧ laidMetH Tryd.prog Rows.fnExactLoadAtRow.laid w) ∧ sizedMet enc Tryd.prog Tryd.f5 (OpenSpec.ofChange Rows.fnExactLoadAtSpec) false w args)
      (Rows.fnExactLoadAtSpec.post enc Tryd.prog Tryd.f5 false true false false) := by
  refine returnsInHanded_of_change_and (C := Tryd.checked) (X := fun w _ => laidMetH Tryd.prog Rows.fnExactLoadAtRow.laid w) (fun _ _ _ hh h => h.of_heap hh) own started (by kernel_rfl) Tryd.func5
    (ChangeSpec.witness_shaped (enc := enc) (C := Tryd.checked) (os := os) (X := fun w _ => laidMetH Tryd.prog Rows.fnExactLoadAtRow.laid w) false (World.doorLaid Tryd.prog 400 os) #[.agg #[.slice none 0 0], .int .i64 0, .int .i64 0] 8 rfl (World.shaped_of_RefB (by kernel_rfl) (by kernel_rfl)) (by kernel_rfl) (by kernel_rfl) (by kernel_rfl) (door_met os _)) ?_
  intro W base args ds gs before hval0 hW _ _ hL _
  have hval : ∀ (j : Nat) t v, Tryd.f5.params[j]? = some t → args[j]? = some v → Value.okWide Tryd.prog W .any base t v := hval0
  have hW' := hW
  obtain ⟨p, q, hA0, hV, rfl, hfz, hnd⟩ := hW
  have hA : DataW.TrodAll enc Tryd.prog W 0 (fun _ => true) true Tryd.f5.params.toList args.toList ds p := hA0
  rw [Tryd.params5] at hA hval
  obtain ⟨v0, vs0, d0, ds0, p0, s0, hargs, rfl, rfl, h0, t0⟩ := trodAll_cons hA
  obtain ⟨v1, vs1, d1, ds1, p1, s1, rfl, rfl, rfl, h1, t1⟩ := trodAll_cons t0
  obtain ⟨v2, vs2, d2, ds2, p2, s2, rfl, rfl, rfl, h2, t2⟩ := trodAll_cons t1
  obtain ⟨rfl, rfl, rfl⟩ := trodAll_nil t2
  obtain rfl : args = #[v0, v1, v2] := by cases args; simp_all
  obtain ⟨g1, g2, rfl⟩ : ∃ g1 g2, gs = [g1, g2] := two_vars hV
  have k0 := h0
  have lt0 : ∀ x ∈ p0, x.block < W.heap.size := by obtain ⟨m, hm⟩ := k0; exact DataW.trod_lt m _ _ _ hm
  obtain ⟨q0, l0, c0, rfl, r0, f0⟩ := open_mem Tryd.underlying47 (by kernel_rfl) (by kernel_rfl) Tryd.underlying45 Tryd.underlying116 (by kernel_rfl) (by kernel_rfl) Tryd.underlying3 Tryd.underlying3 Tryd.underlying9 (hval 0 47 v0 rfl rfl) h0
  obtain ⟨a1, rfl, rfl, rfl, w1⟩ := open_int Tryd.underlying3 (hval 1 3 v1 rfl rfl) h1
  obtain ⟨a2, rfl, rfl, rfl, w2⟩ := open_int Tryd.underlying3 (hval 2 3 v2 rfl rfl) h2
  clear hA0 hval0
  refine (walk q0 c0 l0 a1 a2 W r0 f0 w1 w2 hL).mono fun e W' ⟨he, hg⟩ => ?_
  subst he
  exact ⟨_, rfl, _, _, _, [], _, _, hW', trodAll_mk1 (shut_bool Tryd.underlying4 _), (trodAll_cons_mk (Below.trod laidOut (by kernel_rfl) (of_decide_eq_true (by kernel_rfl)) k0 hg lt0) (trodAll_cons_mk (shut_int Tryd.underlying3 w1) (trodAll_cons_mk (shut_int Tryd.underlying3 w2) trodAll_mk0))), Below.trodVars laidOut hg (by kernel_rfl) hV, hg.frame _, fun h => by cases h⟩

theorem over : Rows.fnExactLoadAtRow.holds Tryd.pinned (OpenSpec.ofChange Rows.fnExactLoadAtSpec) :=
  OpenClaim.holds_of_wide 5 Tryd.f5 rfl rfl rfl rfl rfl rfl rfl ⟨rfl, rfl, rfl, rfl, rfl⟩ rfl rfl rfl rfl rfl (by kernel_rfl) Tryd.func5 (by kernel_rfl)
    (of_decide_eq_true (by kernel_rfl)) (by unfold Func.isWrapper; first | (rw [if_pos (by decide +kernel)]; kernel_rfl) | (rw [if_neg (by decide +kernel)]; exact ⟨rfl, rfl⟩))
    (fun os started H enc _ => lifted os started H enc)

theorem plain (f : FuncId) (fn : Func) (hf : Tryd.pinned.checked.prog.funcNamed "loop.example/g00664/laws.FnExactLoadAt" = some f) (hfn : Tryd.pinned.checked.prog.funcs[f]? = some fn) :
    true = Tryd.pinned.checked.prog.looks [] ∧ ∀ (j : Nat) t, fn.params[j]? = some t → Tryd.pinned.checked.prog.wantsStandIn t = false := by
  obtain rfl : f = 5 := Option.some.inj ((show Tryd.prog.funcNamed "loop.example/g00664/laws.FnExactLoadAt" = some 5 by kernel_rfl).symm.trans hf) |>.symm
  obtain rfl : fn = Tryd.f5 := (Option.some.inj (Tryd.func5.symm.trans hfn)).symm
  refine ⟨by kernel_rfl, fun j t ht => ?_⟩
  rw [Tryd.params5] at ht
  have hm := Array.mem_of_getElem? ht
  simp only [List.mem_toArray, List.mem_cons, List.not_mem_nil, or_false] at hm
  rcases hm with rfl | rfl | rfl
  · exact (show Tryd.prog.wantsStandIn 47 = false by kernel_rfl)
  · exact (show Tryd.prog.wantsStandIn 3 = false by kernel_rfl)
  · exact (show Tryd.prog.wantsStandIn 3 = false by kernel_rfl)
/-- THE CARD -/
theorem card : Rows.FnExactLoadAtCardSaid :=
  Claim7.holds_tied_plain_at .later [] _ _ _ _ over (fun _ h => by cases h) (by kernel_rfl) (fun _ h => by cases h) fnExactLoadAt_row_tie rfl ⟨rfl, rfl⟩ (by kernel_rfl) rfl plain (by kernel_rfl)
#print axioms card
end Go.Proofs.YtceoomihncchfaaDoor.fnExactLoadAt
