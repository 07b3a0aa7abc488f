/-
  Proved: for every processor, register, size and number, laws.FnExactSetReg returns true (impl.SetReg answers as spec.SetReg); condition: the tables of registers' names hold what the program's text lays there, which the card ties to that text.
-/
import Derived.Test.YtbcbepdfijcbmaaDoorCards
import Derived.Test.YtbcbepdfijcbmaaDoorTie
import Derived.LaidMore
import Derived.Stop.Joined
import Derived.OpenVars
import Derived.WalkKit
import Derived.ProofKit
import Derived.OpenShut
import Derived.ShutString
import Derived.Test.YtbcbepdfijcbmaaDoorWalkCpuX
import Derived.Test.YtbcbepdfijcbmaaDoorWalkCpuE
import Derived.Deep.WholeRow
import Derived.ChangeOld
import Derived.Below
import Derived.Test.YtbcbepdfijcbmaaDoorMathCpu
namespace Go.Proofs.YtbcbepdfijcbmaaDoor.fnExactSetReg
open Go.ChangeShapes Go.WideShapes Go.ChangeAt Go.RowKit
open Go.ChangeMaps (open_string shut_string)
set_option linter.unusedVariables false

theorem own : ownKnob Tryd.prog.godebug = none := by kernel_rfl
theorem laidOut : laidOutB Tryd.prog = true := by kernel_rfl

set_option maxRecDepth 100000 in
set_option maxHeartbeats 1000000 in
theorem both (c d : Cp) (a n v k : Int) (w : World)
    (C1 : Hid (∀ W, Calls Tryd.prog 12 #[.agg (cpV c), .int .i64 a, .int .i64 n, .int .i64 v] W fun e w' => e = .returned (.tuple #[.agg (cpV d), .int .i64 k]) ∧ Below W.heap.size W w'))
    (C2 : Hid (∀ W, Below w.heap.size w W → Calls Tryd.prog 13 #[.agg (cpV c), .int .i64 a, .int .i64 n, .int .i64 v] W fun e w' => e = .returned (.tuple #[.agg (cpV d), .int .i64 k]) ∧ Below W.heap.size W w')) :
    Calls Tryd.prog 4 #[.agg (cpV c), .int .i64 a, .int .i64 n, .int .i64 v] w fun e w' => e = .returned (.bool true) ∧ Below w.heap.size w w' := by
  have CT := Lib.hid (toCpuC c)
  have CE := Lib.hid (eqCpuC d)
  have R0 := Lib.hid (heap_alloc_new w (.cells (cpV c) 24))
  have B0 := Lib.hid (show Below w.heap.size w (w.alloc (.cells (cpV c) 24)) from (Below.refl _ _).alloc (Nat.le_refl _) _)
  have sz : (cpV c).size = 18 := rfl
  have szD : (cpV d).size = 18 := rfl
  have oD := cpV_one d
  generalize cpV c = V at *
  generalize cpV d = D at *
  have HS := Lib.hid sz; have HSD := Lib.hid szD; have hOD := Lib.hid oD
  clear sz szD oD
  have I18 := Lib.hid (show (Tryd.prog.info? 24).map (·.size) = some 18 by kernel_rfl)
  have J18 := Lib.hid (show (Tryd.prog.info? 27).map (·.size) = some 18 by kernel_rfl)
  go_enter Tryd.func4, Tryd.ntmps4
  go_wp2_with (refine wpList_load_row rfl 24 (.tmp 4) rfl w.heap.size rfl 24 V (0, 0) _ R0.out Tryd.underlying24 rfl (by rw [HS.out]; exact I18.out) ?_)
  refine (CT.out _).mono ?_
  rintro e w1 ⟨rfl, hb1⟩
  go_wp2_with fail
  refine (C1.out _).mono ?_
  rintro e w2 ⟨rfl, hb2⟩
  have B2 := Lib.hid ((B0.out.trans (hb1.mono B0.out.size)).trans (hb2.mono (Nat.le_trans B0.out.size hb1.size)))
  have R2 := Lib.hid ((hb2.block _ (Nat.lt_of_lt_of_le (lt_of_blk' R0.out) hb1.size)).trans ((hb1.block _ (lt_of_blk' R0.out)).trans R0.out))
  clear hb1 hb2
  have N2 := Lib.hid (heap_alloc_new w2 (.cells #[.int .i64 0, .int .i64 0, .int .i64 0, .int .i64 0, .int .i64 0, .int .i64 0, .int .i64 0, .int .i64 0, .int .i64 0, .int .i64 0, .int .i64 0, .int .i64 0, .int .i64 0, .int .i64 0, .int .i64 0, .int .i64 0, .int .i64 0, .int .i64 0] 27))
  have E2 := Lib.hid (World.setRow_alloc_new w2 #[.int .i64 0, .int .i64 0, .int .i64 0, .int .i64 0, .int .i64 0, .int .i64 0, .int .i64 0, .int .i64 0, .int .i64 0, .int .i64 0, .int .i64 0, .int .i64 0, .int .i64 0, .int .i64 0, .int .i64 0, .int .i64 0, .int .i64 0, .int .i64 0] D 27)
  have P9 := Lib.hid (heap_alloc_new w2 (.cells D 27))
  have B3 := Lib.hid (B2.out.alloc B2.out.size (.cells D 27))
  have R3 := Lib.hid ((Below.heap_alloc w2 (.cells D 27) _ (lt_of_blk' R2.out)).trans R2.out)
  go_upto_region 2 with ((refine wpList_store_row rfl 27 (.tmp 9) (.tmp 20) rfl w2.heap.size D rfl rfl 27 _ N2.out (by rw [HSD.out]; exact J18.out) (by rw [HSD.out]; rfl) hOD.out ?_; rw [E2.out]; generalize w2.alloc (.cells D 27) = w3 at *))
  go_wp2_with (refine wpList_load_row rfl 24 (.tmp 4) rfl w.heap.size rfl 24 V (0, 0) _ R3.out Tryd.underlying24 rfl (by rw [HS.out]; exact I18.out) ?_)
  refine (CT.out _).mono ?_
  rintro e w4 ⟨rfl, hb4⟩
  have B4 := Lib.hid (B3.out.trans (hb4.mono B3.out.size))
  have P9' := Lib.hid ((hb4.block _ (lt_of_blk' P9.out)).trans P9.out)
  clear hb4
  go_wp2_with fail
  refine (C2.out _ B4.out).mono ?_
  rintro e w5 ⟨rfl, hb5⟩
  have B5 := Lib.hid (B4.out.trans (hb5.mono B4.out.size))
  have Q9 := Lib.hid ((hb5.block _ (lt_of_blk' P9'.out)).trans P9'.out)
  clear hb5
  have N5 := Lib.hid (heap_alloc_new w5 (.cells #[.int .i64 0, .int .i64 0, .int .i64 0, .int .i64 0, .int .i64 0, .int .i64 0, .int .i64 0, .int .i64 0, .int .i64 0, .int .i64 0, .int .i64 0, .int .i64 0, .int .i64 0, .int .i64 0, .int .i64 0, .int .i64 0, .int .i64 0, .int .i64 0] 27))
  have E5 := Lib.hid (World.setRow_alloc_new w5 #[.int .i64 0, .int .i64 0, .int .i64 0, .int .i64 0, .int .i64 0, .int .i64 0, .int .i64 0, .int .i64 0, .int .i64 0, .int .i64 0, .int .i64 0, .int .i64 0, .int .i64 0, .int .i64 0, .int .i64 0, .int .i64 0, .int .i64 0, .int .i64 0] D 27)
  have P11 := Lib.hid (heap_alloc_new w5 (.cells D 27))
  have S9 := Lib.hid ((Below.heap_alloc w5 (.cells D 27) _ (lt_of_blk' Q9.out)).trans Q9.out)
  have B6 := Lib.hid (B5.out.alloc B5.out.size (.cells D 27))
  go_upto_region 3 with ((refine wpList_store_row rfl 27 (.tmp 11) (.tmp 29) rfl w5.heap.size D rfl rfl 27 _ N5.out (by rw [HSD.out]; exact J18.out) (by rw [HSD.out]; rfl) hOD.out ?_; rw [E5.out]; generalize w5.alloc (.cells D 27) = w6 at *))
  go_wp2_with (first | (refine wpList_load_row rfl 27 (.tmp 11) rfl w5.heap.size rfl 27 D (0, 0) _ P11.out Tryd.underlying27 rfl (by rw [HSD.out]; exact J18.out) ?_) | (refine wpList_load_row rfl 27 (.tmp 9) rfl w2.heap.size rfl 27 D (0, 0) _ S9.out Tryd.underlying27 rfl (by rw [HSD.out]; exact J18.out) ?_))
  refine (CE.out _).mono ?_
  rintro e w7 ⟨rfl, hb7⟩
  have B7 := Lib.hid (B6.out.trans (hb7.mono B6.out.size))
  clear hb7
  go_wp2
  go_ret
  exact ⟨rfl, B7.out⟩
set_option maxHeartbeats 1000000 in
set_option maxRecDepth 100000 in
theorem walk (z0 : Cp) (a1 : Int) (a2 : Int) (a3 : Int) (w : World) (cw0 : CpW z0) (w1 : (Lit.int .i64 a1).wf = true) (w2 : (Lit.int .i64 a2).wf = true) (w3 : (Lit.int .i64 a3).wf = true) (hL : laidMetH Tryd.prog Rows.fnExactSetRegRow.laid w) :
    Calls Tryd.prog 4 #[.agg (cpV z0), .int .i64 a1, .int .i64 a2, .int .i64 a3] w fun e w' => e = .returned (.bool true) ∧ Below w.heap.size w w' := by
  have hn : Regs w := ⟨met_byteNames (q := Rows.fnExactSetRegRow.laid) (by kernel_rfl) hL, met_wordNames (q := Rows.fnExactSetRegRow.laid) (by kernel_rfl) hL, met_dwordNames (q := Rows.fnExactSetRegRow.laid) (by kernel_rfl) hL, met_qwordNames (q := Rows.fnExactSetRegRow.laid) (by kernel_rfl) hL⟩
  obtain ⟨v, hv, hI, hS⟩ := cpuI z0 cw0
  cases v
  · exact both z0 cp0 a1 a2 a3 1 w (Lib.hid fun W => setRegSBad z0 cp0 a1 a2 a3 W hS) (Lib.hid fun W _ => setRegIBad z0 cp0 a1 a2 a3 W hI)
  · by_cases hr : okSize a2 ∧ 0 ≤ a1 ∧ a1 ≤ topReg a2
    · obtain ⟨k, y, _, g1, g2⟩ := setBoth z0 a1 a2 a3 cw0 hr
      exact both z0 (z0.set k y) a1 a2 a3 0 w (Lib.hid fun W => setRegSYes z0 _ a1 a2 a3 W hS (fun W' _ => by have := regOKS a1 a2 W'; rwa [decide_eq_true hr] at this) g2) (Lib.hid fun W hW => setRegIYes z0 _ a1 a2 a3 W hI (fun W' hW' => by have := isRegAll a1 a2 W' (hn.below (hW.trans (hW'.mono hW.size))); rwa [decide_eq_true hr] at this) g1)
    · exact both z0 cp0 a1 a2 a3 4 w (Lib.hid fun W => setRegSRange z0 cp0 a1 a2 a3 W hS (fun W' _ => by have := regOKS a1 a2 W'; rwa [decide_eq_false hr] at this)) (Lib.hid fun W hW => setRegIRange z0 cp0 a1 a2 a3 W hI (fun W' hW' => by have := isRegAll a1 a2 W' (hn.below (hW.trans (hW'.mono hW.size))); rwa [decide_eq_false hr] at this))

theorem door_met (os : Os) (args : Array Value) : laidMetH Tryd.prog Rows.fnExactSetRegRow.laid ((World.doorLaid Tryd.prog 400 os).forCall (fun _ _ => 0) ⟨#[], args, []⟩).memory :=
  laidMetH_of_parts3 (fuel := 8) (laidMet_of_run' 8 (by kernel_rfl) (by kernel_rfl)) (by kernel_rfl) (by kernel_rfl)
theorem n_vars {H : Type} {enc : TypeId × Value → H} {P : Program} {w : World} {sp : Nat → Bool} {n1 n2 n3 n4 n5 : String} {gs : List (DataW H)} {ps : List MemPlace} (h : DataW.TrodVars enc P w sp [n1, n2, n3, n4, n5] gs ps) : ∃ g1 g2 g3 g4 g5, gs = [g1, g2, g3, g4, g5] := by
  match gs, h with
  | [], h => exact h.elim
  | [a1], ⟨_, _, _, _, _, _, _, _, _, _, h, _⟩ => exact h.elim
  | [a1, a2], ⟨_, _, _, _, _, _, _, _, _, _, ⟨_, _, _, _, _, _, _, _, _, _, h, _⟩, _⟩ => exact h.elim
  | [a1, a2, a3], ⟨_, _, _, _, _, _, _, _, _, _, ⟨_, _, _, _, _, _, _, _, _, _, ⟨_, _, _, _, _, _, _, _, _, _, h, _⟩, _⟩, _⟩ => exact h.elim
  | [a1, a2, a3, a4], ⟨_, _, _, _, _, _, _, _, _, _, ⟨_, _, _, _, _, _, _, _, _, _, ⟨_, _, _, _, _, _, _, _, _, _, ⟨_, _, _, _, _, _, _, _, _, _, h, _⟩, _⟩, _⟩, _⟩ => exact h.elim
  | [a1, a2, a3, a4, a5], _ => exact ⟨a1, a2, a3, a4, a5, rfl⟩
  | a1 :: a2 :: a3 :: a4 :: a5 :: b :: r, ⟨_, _, _, _, _, _, _, _, _, _, ⟨_, _, _, _, _, _, _, _, _, _, ⟨_, _, _, _, _, _, _, _, _, _, ⟨_, _, _, _, _, _, _, _, _, _, ⟨_, _, _, _, _, _, _, _, _, _, h, _⟩, _⟩, _⟩, _⟩, _⟩ => exact h.elim
/-! ### THE ROW's STEP -/
set_option maxRecDepth 100000 in
theorem lifted (os : Os) (started : os.Started) (H : Type) (enc : TypeId × Value → H) :
    ReturnsInHanded {} Tryd.checked os 4 .any (fun w args => (Rows.fnExactSetRegSpec.pre enc Tryd.prog Tryd.f4 [] false w args ∧ laidMetH Tryd.prog Rows.fnExactSetRegRow.laid w) ∧ sizedMet enc Tryd.prog Tryd.f4 (OpenSpec.ofChange Rows.fnExactSetRegSpec) false w args)
      (Rows.fnExactSetRegSpec.post enc Tryd.prog Tryd.f4 false true false false) := by
  refine returnsInHanded_of_change_and (C := Tryd.checked) (X := fun w _ => laidMetH Tryd.prog Rows.fnExactSetRegRow.laid w) (fun _ _ _ hh h => h.of_heap hh) own started (by kernel_rfl) Tryd.func4
    (ChangeSpec.witness_shaped (enc := enc) (C := Tryd.checked) (os := os) (X := fun w _ => laidMetH Tryd.prog Rows.fnExactSetRegRow.laid w) false (World.doorLaid Tryd.prog 400 os) #[.agg #[.int .i64 0, .int .i64 0, .int .i64 0, .int .i64 0, .int .i64 0, .int .i64 0, .int .i64 0, .int .i64 0, .int .i64 0, .int .i64 0, .int .i64 0, .int .i64 0, .int .i64 0, .int .i64 0, .int .i64 0, .int .i64 0, .int .i64 0, .int .i64 0], .int .i64 0, .int .i64 0, .int .i64 0] 8 rfl (World.shaped_of_RefB (by kernel_rfl) (by kernel_rfl)) (by kernel_rfl) (by kernel_rfl) (by kernel_rfl) (door_met os _)) ?_
  intro W base args ds gs before hval0 hW _ _ hL _
  have hval : ∀ (j : Nat) t v, Tryd.f4.params[j]? = some t → args[j]? = some v → Value.okWide Tryd.prog W .any base t v := hval0
  have hW' := hW
  obtain ⟨p, q, hA0, hV, rfl, hfz, hnd⟩ := hW
  have hA : DataW.TrodAll enc Tryd.prog W 0 (fun _ => true) true Tryd.f4.params.toList args.toList ds p := hA0
  rw [Tryd.params4] at hA hval
  obtain ⟨v0, vs0, d0, ds0, p0, s0, hargs, rfl, rfl, h0, t0⟩ := trodAll_cons hA
  obtain ⟨v1, vs1, d1, ds1, p1, s1, rfl, rfl, rfl, h1, t1⟩ := trodAll_cons t0
  obtain ⟨v2, vs2, d2, ds2, p2, s2, rfl, rfl, rfl, h2, t2⟩ := trodAll_cons t1
  obtain ⟨v3, vs3, d3, ds3, p3, s3, rfl, rfl, rfl, h3, t3⟩ := trodAll_cons t2
  obtain ⟨rfl, rfl, rfl⟩ := trodAll_nil t3
  obtain rfl : args = #[v0, v1, v2, v3] := by cases args; simp_all
  obtain ⟨g1, g2, g3, g4, g5, rfl⟩ : ∃ g1 g2 g3 g4 g5, gs = [g1, g2, g3, g4, g5] := n_vars hV
  have k0 := h0
  have lt0 : ∀ x ∈ p0, x.block < W.heap.size := by obtain ⟨m, hm⟩ := k0; exact DataW.trod_lt m _ _ _ hm
  obtain ⟨z0, cw0, rfl⟩ := open_cpu Tryd.underlying24 (by kernel_rfl) Tryd.underlying22 (by kernel_rfl) (by kernel_rfl) Tryd.underlying3 rfl (by kernel_rfl) Tryd.underlying3 Tryd.underlying3 (hval 0 24 v0 rfl rfl) h0
  obtain ⟨a1, rfl, rfl, rfl, w1⟩ := open_int Tryd.underlying3 (hval 1 3 v1 rfl rfl) h1
  obtain ⟨a2, rfl, rfl, rfl, w2⟩ := open_int Tryd.underlying3 (hval 2 3 v2 rfl rfl) h2
  obtain ⟨a3, rfl, rfl, rfl, w3⟩ := open_int Tryd.underlying3 (hval 3 3 v3 rfl rfl) h3
  clear hA0 hval0
  refine (walk z0 a1 a2 a3 W cw0 w1 w2 w3 hL).mono fun e W' ⟨he, hg⟩ => ?_
  subst he
  exact ⟨_, rfl, _, _, _, [], _, _, hW', trodAll_mk1 (shut_bool Tryd.underlying4 _), (trodAll_cons_mk (Below.trod laidOut (by kernel_rfl) (of_decide_eq_true (by kernel_rfl)) k0 hg lt0) (trodAll_cons_mk (shut_int Tryd.underlying3 w1) (trodAll_cons_mk (shut_int Tryd.underlying3 w2) (trodAll_cons_mk (shut_int Tryd.underlying3 w3) trodAll_mk0)))), Below.trodVars laidOut hg (by kernel_rfl) hV, hg.frame _, fun h => by cases h⟩

theorem over : Rows.fnExactSetRegRow.holds Tryd.pinned (OpenSpec.ofChange Rows.fnExactSetRegSpec) :=
  OpenClaim.holds_of_wide 4 Tryd.f4 rfl rfl rfl rfl rfl rfl rfl ⟨rfl, rfl, rfl, rfl, rfl⟩ rfl rfl rfl rfl rfl (by kernel_rfl) Tryd.func4 (by kernel_rfl)
    (of_decide_eq_true (by kernel_rfl)) (by unfold Func.isWrapper; first | (rw [if_pos (by decide +kernel)]; kernel_rfl) | (rw [if_neg (by decide +kernel)]; exact ⟨rfl, rfl⟩))
    (fun os started H enc _ => lifted os started H enc)

theorem plain (f : FuncId) (fn : Func) (hf : Tryd.pinned.checked.prog.funcNamed "loop.example/g00664/laws.FnExactSetReg" = some f) (hfn : Tryd.pinned.checked.prog.funcs[f]? = some fn) :
    true = Tryd.pinned.checked.prog.looks [] ∧ ∀ (j : Nat) t, fn.params[j]? = some t → Tryd.pinned.checked.prog.wantsStandIn t = false := by
  obtain rfl : f = 4 := Option.some.inj ((show Tryd.prog.funcNamed "loop.example/g00664/laws.FnExactSetReg" = some 4 by kernel_rfl).symm.trans hf) |>.symm
  obtain rfl : fn = Tryd.f4 := (Option.some.inj (Tryd.func4.symm.trans hfn)).symm
  refine ⟨by kernel_rfl, fun j t ht => ?_⟩
  rw [Tryd.params4] at ht
  have hm := Array.mem_of_getElem? ht
  simp only [List.mem_toArray, List.mem_cons, List.not_mem_nil, or_false] at hm
  rcases hm with rfl | rfl | rfl | rfl
  · exact (show Tryd.prog.wantsStandIn 24 = false by kernel_rfl)
  · exact (show Tryd.prog.wantsStandIn 3 = false by kernel_rfl)
  · exact (show Tryd.prog.wantsStandIn 3 = false by kernel_rfl)
  · exact (show Tryd.prog.wantsStandIn 3 = false by kernel_rfl)
/-- THE CARD -/
theorem card : Rows.FnExactSetRegCardSaid :=
  Claim7.holds_tied_plain_at .later [] _ _ _ _ over (fun _ h => by cases h) (by kernel_rfl) (fun _ h => by cases h) fnExactSetReg_row_tie rfl ⟨rfl, rfl⟩ (by kernel_rfl) rfl plain (by kernel_rfl)
#print axioms card
end Go.Proofs.YtbcbepdfijcbmaaDoor.fnExactSetReg
