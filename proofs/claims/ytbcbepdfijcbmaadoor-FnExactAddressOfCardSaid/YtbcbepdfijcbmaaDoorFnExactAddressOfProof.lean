/-
  Proved: for every processor, operand and number, laws.FnExactAddressOf returns true (impl.AddressOf answers as spec.AddressOf); condition: the tables of registers' names and the sentinel of ranges hold what the program's text lays there, which the card ties to that text.
-/
import Derived.Test.YtbcbepdfijcbmaaDoorCards
import Derived.Test.YtbcbepdfijcbmaaDoorTie
import Derived.LaidMore
import Derived.Stop.Joined
import Derived.OpenVars
import Derived.WalkKit
import Derived.ProofKit
import Derived.OpenShut
import Derived.ShutString
import Derived.Test.YtbcbepdfijcbmaaDoorWalkAddrO
import Derived.Test.YtbcbepdfijcbmaaDoorWalkToI
import Derived.Deep.RegionHeld3
import Derived.ChangeOld
import Derived.Below
import Derived.Test.YtbcbepdfijcbmaaDoorOpenOpd
import Derived.Test.YtbcbepdfijcbmaaDoorMathCpu
namespace Go.Proofs.YtbcbepdfijcbmaaDoor.fnExactAddressOf
open Go.ChangeShapes Go.WideShapes Go.ChangeAt Go.RowKit
open Go.ChangeMaps (open_string shut_string)
set_option linter.unusedVariables false

theorem own : ownKnob Tryd.prog.godebug = none := by kernel_rfl
theorem laidOut : laidOutB Tryd.prog = true := by kernel_rfl

/-- the law's boxes -/
def AL (w : World) (V : Array Value) (x : Opd) (W : World) : Prop := W.heap[w.heap.size]? = some (.cells V 24 (0, 0)) ∧ W.heap[w.heap.size + 1]? = some (.cells #[.int .i64 x.k, .int .i64 x.r, .int .i64 x.b, .int .i64 x.i, .int .i64 x.s, .int .i64 x.d, .int .i64 x.m] 35 (0, 0)) ∧ Below w.heap.size w W
theorem AL.new (w : World) (V : Array Value) (x : Opd) : AL w V x ((w.alloc (.cells V 24)).alloc (.cells #[.int .i64 x.k, .int .i64 x.r, .int .i64 x.b, .int .i64 x.i, .int .i64 x.s, .int .i64 x.d, .int .i64 x.m] 35)) := by
  have e1 := heap_alloc_new w (.cells V 24)
  have e2 := heap_alloc_new (w.alloc (.cells V 24)) (.cells #[.int .i64 x.k, .int .i64 x.r, .int .i64 x.b, .int .i64 x.i, .int .i64 x.s, .int .i64 x.d, .int .i64 x.m] 35)
  have z2 : (w.alloc (.cells V 24)).heap.size = w.heap.size + 1 := by simp
  rw [z2] at e2
  exact ⟨(Below.heap_alloc _ _ _ (by simp)).trans e1, e2, ((Below.refl _ _).alloc (Nat.le_refl _) _).alloc (by simp) _⟩
theorem AL.drew {w W : World} {V : Array Value} {x : Opd} (h : AL w V x W) : AL w V x W.drew := ⟨h.1, h.2.1, h.2.2.drew⟩
theorem AL.call {w W W' : World} {V : Array Value} {x : Opd} (h : AL w V x W) (hb : Below W.heap.size W W') : AL w V x W' := ⟨(hb.block _ (lt_of_blk' h.1)).trans h.1, (hb.block _ (lt_of_blk' h.2.1)).trans h.2.1, h.2.2.trans (hb.mono h.2.2.size)⟩
theorem AL.be {w W : World} {V : Array Value} {x : Opd} (h : AL w V x W) : Below w.heap.size w W := h.2.2
theorem AL.loadC {w W : World} {V : Array Value} {x : Opd} (h : AL w V x W) (hV : V.size = 18) : (Instr.loadAt 24 (.pointer (some ⟨w.heap.size, 0, none⟩))).run Tryd.prog W = .ok (.agg V) W := by
  simp only [Instr.loadAt, Instr.sureAddr, Sem.run_bind, Sem.run_pure, Result.andThen_ok]
  exact run_loadVar_row W w.heap.size 24 24 V (0, 0) _ h.1 Tryd.underlying24 rfl (by rw [hV]; kernel_rfl)
theorem AL.loadX {w W : World} {V : Array Value} {x : Opd} (h : AL w V x W) : (Instr.loadAt 35 (.pointer (some ⟨w.heap.size + 1, 0, none⟩))).run Tryd.prog W = .ok (.agg #[.int .i64 x.k, .int .i64 x.r, .int .i64 x.b, .int .i64 x.i, .int .i64 x.s, .int .i64 x.d, .int .i64 x.m]) W := by
  simp only [Instr.loadAt, Instr.sureAddr, Sem.run_bind, Sem.run_pure, Result.andThen_ok]
  exact run_loadVar_row W (w.heap.size + 1) 35 35 _ (0, 0) _ h.2.1 Tryd.underlying35 rfl (by kernel_rfl)
attribute [-go_sem] Instr.loadAt in
set_option maxRecDepth 100000 in
set_option maxHeartbeats 2000000 in
theorem both (c : Cp) (x : Opd) (nx v k : Int) (w : World)
    (C1 : Hid (∀ W, Calls Tryd.prog 15 #[.agg (cpV c), .agg #[.int .i64 x.k, .int .i64 x.r, .int .i64 x.b, .int .i64 x.i, .int .i64 x.s, .int .i64 x.d, .int .i64 x.m], .int .i64 nx] W fun e w' => e = .returned (.tuple #[.int .i64 v, .int .i64 k]) ∧ Below W.heap.size W w'))
    (C2 : Hid (∀ W, Below w.heap.size w W → Calls Tryd.prog 17 #[.agg (cpV c), .agg #[.int .i64 x.k, .int .i64 x.r, .int .i64 x.b, .int .i64 x.i, .int .i64 x.s, .int .i64 x.d, .int .i64 x.m], .int .i64 nx] W fun e w' => e = .returned (.tuple #[.int .i64 v, .int .i64 k]) ∧ Below W.heap.size W w')) :
    Calls Tryd.prog 5 #[.agg (cpV c), .agg #[.int .i64 x.k, .int .i64 x.r, .int .i64 x.b, .int .i64 x.i, .int .i64 x.s, .int .i64 x.d, .int .i64 x.m], .int .i64 nx] w fun e w' => e = .returned (.bool true) ∧ Below w.heap.size w w' := by
  have CT := Lib.hid (toCpuC c)
  have CX := Lib.hid (toOpdC x)
  have N0 := AL.new w (cpV c) x
  have sz : (cpV c).size = 18 := rfl
  generalize cpV c = V at *
  have HLc : ∀ u, AL w V x u → (Instr.loadAt 24 (.pointer (some ⟨w.heap.size, 0, none⟩))).run Tryd.prog u = .ok (.agg V) u := fun u h => h.loadC sz
  have HLx : ∀ u, AL w V x u → (Instr.loadAt 35 (.pointer (some ⟨w.heap.size + 1, 0, none⟩))).run Tryd.prog u = .ok (.agg #[.int .i64 x.k, .int .i64 x.r, .int .i64 x.b, .int .i64 x.i, .int .i64 x.s, .int .i64 x.d, .int .i64 x.m]) u := fun u h => h.loadX
  obtain ⟨xk, xr, xb, xi, xs, xd, xm⟩ := x
  simp only at *
  go_enter Tryd.func5, Tryd.ntmps5
  go_wp2_with fail
  go_region_held3 (fun W' => AL w V ⟨xk, xr, xb, xi, xs, xd, xm⟩ W') (first | assumption | (exact AL.drew (by assumption))) (first | (go_at_call 10; (with_reducible refine Calls.mono (CT.out _) ?_); rintro e w1 ⟨rfl, h1⟩; have j1 := AL.call (by assumption) h1; clear h1) | (go_at_call 16; (with_reducible refine Calls.mono (CX.out _) ?_); rintro e w1 ⟨rfl, h1⟩; have j1 := AL.call (by assumption) h1; clear h1) | (go_at_call 15; (with_reducible refine Calls.mono (C1.out _) ?_); rintro e w1 ⟨rfl, h1⟩; have j1 := AL.call (by assumption) h1; clear h1))
  go_wp2_with fail
  go_region_held3 (fun W' => AL w V ⟨xk, xr, xb, xi, xs, xd, xm⟩ W') (first | assumption | (exact AL.drew (by assumption))) (first | (go_at_call 10; (with_reducible refine Calls.mono (CT.out _) ?_); rintro e w1 ⟨rfl, h1⟩; have j1 := AL.call (by assumption) h1; clear h1) | (go_at_call 16; (with_reducible refine Calls.mono (CX.out _) ?_); rintro e w1 ⟨rfl, h1⟩; have j1 := AL.call (by assumption) h1; clear h1) | (go_at_call 17; (with_reducible refine Calls.mono (C2.out _ (AL.be (by assumption))) ?_); rintro e w1 ⟨rfl, h1⟩; have j1 := AL.call (by assumption) h1; clear h1))
  have B := Lib.hid (AL.be (by assumption : AL w V ⟨xk, xr, xb, xi, xs, xd, xm⟩ _))
  clear HLc HLx
  go_wp2
  go_ret
  exact ⟨rfl, B.out⟩
set_option maxHeartbeats 1000000 in
set_option maxRecDepth 100000 in
theorem walk (z0 : Cp) (o1 : Opd) (a2 : Int) (w : World) (cw0 : CpW z0)  (w2 : (Lit.int .i64 a2).wf = true) (hL : laidMetH Tryd.prog Rows.fnExactAddressOfRow.laid w) :
    Calls Tryd.prog 5 #[.agg (cpV z0), .agg #[.int .i64 o1.k, .int .i64 o1.r, .int .i64 o1.b, .int .i64 o1.i, .int .i64 o1.s, .int .i64 o1.d, .int .i64 o1.m], .int .i64 a2] w fun e w' => e = .returned (.bool true) ∧ Below w.heap.size w w' := by
  have hn : Regs w := ⟨met_byteNames (q := Rows.fnExactAddressOfRow.laid) (by kernel_rfl) hL, met_wordNames (q := Rows.fnExactAddressOfRow.laid) (by kernel_rfl) hL, met_dwordNames (q := Rows.fnExactAddressOfRow.laid) (by kernel_rfl) hL, met_qwordNames (q := Rows.fnExactAddressOfRow.laid) (by kernel_rfl) hL⟩
  obtain ⟨aR, hs⟩ := sentR_of_laid (W := w) (q := Rows.fnExactAddressOfRow.laid) (by kernel_rfl) hL
  obtain ⟨v, hv, hI, hS⟩ := cpuI z0 cw0
  cases v
  · exact both z0 o1 a2 0 1 w (Lib.hid fun W => adrSCpu z0 _ _ _ _ _ _ _ a2 0 W hS) (Lib.hid fun W _ => adrICpu z0 _ _ _ _ _ _ _ a2 0 W hI)
  · by_cases hk : o1.k = 2
    · have hk' : (o1.k != 2) = false := by rw [hk]; rfl
      by_cases hm : MemOk' o1
      · obtain ⟨g1, g2⟩ := adrBoth z0 o1 a2 hm
        exact both z0 o1 a2 _ 0 w (Lib.hid fun W => adrSYes z0 _ _ _ _ _ _ _ a2 _ W hS hk' (fun W' _ => by have := memDecS o1 8 W' hk; rwa [decide_eq_true hm] at this) g2) (Lib.hid fun W hW => adrIYes z0 _ _ _ _ _ _ _ a2 _ W hI hk' (fun W' hW' => by have hb := hW.trans (hW'.mono hW.size); have := memOperandI o1 W' (hn.below hb) aR (hs.below hb); rwa [decide_eq_true hm] at this) g1)
      · exact both z0 o1 a2 0 1 w (Lib.hid fun W => adrSMem z0 _ _ _ _ _ _ _ a2 0 W hS hk' (fun W' _ => by have := memDecS o1 8 W' hk; rwa [decide_eq_false hm] at this)) (Lib.hid fun W hW => adrIMem z0 _ _ _ _ _ _ _ a2 0 W hI hk' (fun W' hW' => by have hb := hW.trans (hW'.mono hW.size); have := memOperandI o1 W' (hn.below hb) aR (hs.below hb); rwa [decide_eq_false hm] at this))
    · have hk' : (o1.k != 2) = true := bne_iff_ne.mpr hk
      exact both z0 o1 a2 0 1 w (Lib.hid fun W => adrSKind z0 _ _ _ _ _ _ _ a2 0 W hS hk') (Lib.hid fun W _ => adrIKind z0 _ _ _ _ _ _ _ a2 0 W hI hk')

theorem door_met (os : Os) (args : Array Value) : laidMetH Tryd.prog Rows.fnExactAddressOfRow.laid ((World.doorLaid Tryd.prog 400 os).forCall (fun _ _ => 0) ⟨#[], args, []⟩).memory :=
  laidMetH_of_parts3 (fuel := 8) (laidMet_of_run' 8 (by kernel_rfl) (by kernel_rfl)) (by kernel_rfl) (by kernel_rfl)
theorem n_vars {H : Type} {enc : TypeId × Value → H} {P : Program} {w : World} {sp : Nat → Bool} {n1 n2 n3 n4 n5 : String} {gs : List (DataW H)} {ps : List MemPlace} (h : DataW.TrodVars enc P w sp [n1, n2, n3, n4, n5] gs ps) : ∃ g1 g2 g3 g4 g5, gs = [g1, g2, g3, g4, g5] := by
  match gs, h with
  | [], h => exact h.elim
  | [a1], ⟨_, _, _, _, _, _, _, _, _, _, h, _⟩ => exact h.elim
  | [a1, a2], ⟨_, _, _, _, _, _, _, _, _, _, ⟨_, _, _, _, _, _, _, _, _, _, h, _⟩, _⟩ => exact h.elim
  | [a1, a2, a3], ⟨_, _, _, _, _, _, _, _, _, _, ⟨_, _, _, _, _, _, _, _, _, _, ⟨_, _, _, _, _, _, _, _, _, _, h, _⟩, _⟩, _⟩ => exact h.elim
  | [a1, a2, a3, a4], ⟨_, _, _, _, _, _, _, _, _, _, ⟨_, _, _, _, _, _, _, _, _, _, ⟨_, _, _, _, _, _, _, _, _, _, ⟨_, _, _, _, _, _, _, _, _, _, h, _⟩, _⟩, _⟩, _⟩ => exact h.elim
  | [a1, a2, a3, a4, a5], _ => exact ⟨a1, a2, a3, a4, a5, rfl⟩
  | a1 :: a2 :: a3 :: a4 :: a5 :: b :: r, ⟨_, _, _, _, _, _, _, _, _, _, ⟨_, _, _, _, _, _, _, _, _, _, ⟨_, _, _, _, _, _, _, _, _, _, ⟨_, _, _, _, _, _, _, _, _, _, ⟨_, _, _, _, _, _, _, _, _, _, h, _⟩, _⟩, _⟩, _⟩, _⟩ => exact h.elim
/-! ### THE ROW's STEP -/
set_option maxRecDepth 100000 in
theorem lifted (os : Os) (started : os.Started) (H : Type) (enc : TypeId × Value → H) :
    ReturnsInHanded {} Tryd.checked os 5 .any (fun w args => (Rows.fnExactAddressOfSpec.pre enc Tryd.prog Tryd.f5 [] false w args ∧ laidMetH Tryd.prog Rows.fnExactAddressOfRow.laid w) ∧ sizedMet enc Tryd.prog Tryd.f5 (OpenSpec.ofChange Rows.fnExactAddressOfSpec) false w args)
      (Rows.fnExactAddressOfSpec.post enc Tryd.prog Tryd.f5 false true false false) := by
  refine returnsInHanded_of_change_and (C := Tryd.checked) (X := fun w _ => laidMetH Tryd.prog Rows.fnExactAddressOfRow.laid w) (fun _ _ _ hh h => h.of_heap hh) own started (by kernel_rfl) Tryd.func5
    (ChangeSpec.witness_shaped (enc := enc) (C := Tryd.checked) (os := os) (X := fun w _ => laidMetH Tryd.prog Rows.fnExactAddressOfRow.laid w) false (World.doorLaid Tryd.prog 400 os) #[.agg #[.int .i64 0, .int .i64 0, .int .i64 0, .int .i64 0, .int .i64 0, .int .i64 0, .int .i64 0, .int .i64 0, .int .i64 0, .int .i64 0, .int .i64 0, .int .i64 0, .int .i64 0, .int .i64 0, .int .i64 0, .int .i64 0, .int .i64 0, .int .i64 0], .agg #[.int .i64 0, .int .i64 0, .int .i64 0, .int .i64 0, .int .i64 0, .int .i64 0, .int .i64 0], .int .i64 0] 8 rfl (World.shaped_of_RefB (by kernel_rfl) (by kernel_rfl)) (by kernel_rfl) (by kernel_rfl) (by kernel_rfl) (door_met os _)) ?_
  intro W base args ds gs before hval0 hW _ _ hL _
  have hval : ∀ (j : Nat) t v, Tryd.f5.params[j]? = some t → args[j]? = some v → Value.okWide Tryd.prog W .any base t v := hval0
  have hW' := hW
  obtain ⟨p, q, hA0, hV, rfl, hfz, hnd⟩ := hW
  have hA : DataW.TrodAll enc Tryd.prog W 0 (fun _ => true) true Tryd.f5.params.toList args.toList ds p := hA0
  rw [Tryd.params5] at hA hval
  obtain ⟨v0, vs0, d0, ds0, p0, s0, hargs, rfl, rfl, h0, t0⟩ := trodAll_cons hA
  obtain ⟨v1, vs1, d1, ds1, p1, s1, rfl, rfl, rfl, h1, t1⟩ := trodAll_cons t0
  obtain ⟨v2, vs2, d2, ds2, p2, s2, rfl, rfl, rfl, h2, t2⟩ := trodAll_cons t1
  obtain ⟨rfl, rfl, rfl⟩ := trodAll_nil t2
  obtain rfl : args = #[v0, v1, v2] := by cases args; simp_all
  obtain ⟨g1, g2, g3, g4, g5, rfl⟩ : ∃ g1 g2 g3 g4 g5, gs = [g1, g2, g3, g4, g5] := n_vars hV
  have k0 := h0
  have lt0 : ∀ x ∈ p0, x.block < W.heap.size := by obtain ⟨m, hm⟩ := k0; exact DataW.trod_lt m _ _ _ hm
  obtain ⟨z0, cw0, rfl⟩ := open_cpu Tryd.underlying24 (by kernel_rfl) Tryd.underlying22 (by kernel_rfl) (by kernel_rfl) Tryd.underlying3 rfl (by kernel_rfl) Tryd.underlying3 Tryd.underlying3 (hval 0 24 v0 rfl rfl) h0
  have k1 := h1
  have lt1 : ∀ x ∈ p1, x.block < W.heap.size := by obtain ⟨m, hm⟩ := k1; exact DataW.trod_lt m _ _ _ hm
  obtain ⟨o1, rfl⟩ := open_opd Tryd.underlying35 (by kernel_rfl) (by kernel_rfl) Tryd.underlying3 Tryd.underlying3 Tryd.underlying3 Tryd.underlying3 Tryd.underlying3 Tryd.underlying3 Tryd.underlying3 (hval 1 35 v1 rfl rfl) h1
  obtain ⟨a2, rfl, rfl, rfl, w2⟩ := open_int Tryd.underlying3 (hval 2 3 v2 rfl rfl) h2
  clear hA0 hval0
  refine (walk z0 o1 a2 W cw0  w2 hL).mono fun e W' ⟨he, hg⟩ => ?_
  subst he
  exact ⟨_, rfl, _, _, _, [], _, _, hW', trodAll_mk1 (shut_bool Tryd.underlying4 _), (trodAll_cons_mk (Below.trod laidOut (by kernel_rfl) (of_decide_eq_true (by kernel_rfl)) k0 hg lt0) (trodAll_cons_mk (Below.trod laidOut (by kernel_rfl) (of_decide_eq_true (by kernel_rfl)) k1 hg lt1) (trodAll_cons_mk (shut_int Tryd.underlying3 w2) trodAll_mk0))), Below.trodVars laidOut hg (by kernel_rfl) hV, hg.frame _, fun h => by cases h⟩

theorem over : Rows.fnExactAddressOfRow.holds Tryd.pinned (OpenSpec.ofChange Rows.fnExactAddressOfSpec) :=
  OpenClaim.holds_of_wide 5 Tryd.f5 rfl rfl rfl rfl rfl rfl rfl ⟨rfl, rfl, rfl, rfl, rfl⟩ rfl rfl rfl rfl rfl (by kernel_rfl) Tryd.func5 (by kernel_rfl)
    (of_decide_eq_true (by kernel_rfl)) (by unfold Func.isWrapper; first | (rw [if_pos (by decide +kernel)]; kernel_rfl) | (rw [if_neg (by decide +kernel)]; exact ⟨rfl, rfl⟩))
    (fun os started H enc _ => lifted os started H enc)

theorem plain (f : FuncId) (fn : Func) (hf : Tryd.pinned.checked.prog.funcNamed "loop.example/g00664/laws.FnExactAddressOf" = some f) (hfn : Tryd.pinned.checked.prog.funcs[f]? = some fn) :
    true = Tryd.pinned.checked.prog.looks [] ∧ ∀ (j : Nat) t, fn.params[j]? = some t → Tryd.pinned.checked.prog.wantsStandIn t = false := by
  obtain rfl : f = 5 := Option.some.inj ((show Tryd.prog.funcNamed "loop.example/g00664/laws.FnExactAddressOf" = some 5 by kernel_rfl).symm.trans hf) |>.symm
  obtain rfl : fn = Tryd.f5 := (Option.some.inj (Tryd.func5.symm.trans hfn)).symm
  refine ⟨by kernel_rfl, fun j t ht => ?_⟩
  rw [Tryd.params5] at ht
  have hm := Array.mem_of_getElem? ht
  simp only [List.mem_toArray, List.mem_cons, List.not_mem_nil, or_false] at hm
  rcases hm with rfl | rfl | rfl
  · exact (show Tryd.prog.wantsStandIn 24 = false by kernel_rfl)
  · exact (show Tryd.prog.wantsStandIn 35 = false by kernel_rfl)
  · exact (show Tryd.prog.wantsStandIn 3 = false by kernel_rfl)
/-- THE CARD -/
theorem card : Rows.FnExactAddressOfCardSaid :=
  Claim7.holds_tied_plain_at .later [] _ _ _ _ over (fun _ h => by cases h) (by kernel_rfl) (fun _ h => by cases h) fnExactAddressOf_row_tie rfl ⟨rfl, rfl⟩ (by kernel_rfl) rfl plain (by kernel_rfl)
#print axioms card
end Go.Proofs.YtbcbepdfijcbmaaDoor.fnExactAddressOf
