/-
  Proved: for every instruction, laws.FnExactInstrOK returns true (impl.InstrOK answers as spec.InstrOK); condition: the tables of conditions and registers and the sentinel hold what the program's text lays there, which the card ties to that text.
-/
import Derived.Test.YtifpcfhfglkbcabDoorCards
import Derived.Test.YtifpcfhfglkbcabDoorTie
import Derived.LaidMore
import Derived.Stop.Joined
import Derived.Test.YtifpcfhfglkbcabDoorOpenShape
import Derived.OpenVars
import Derived.WalkKit
import Derived.ProofKit
import Derived.OpenShut
import Derived.ShutString
import Derived.Test.YtifpcfhfglkbcabDoorWalkOkT14
import Derived.Test.YtifpcfhfglkbcabDoorWalkToI
import Derived.Laws.CopyOwn
import Derived.ChangeOld
import Derived.Below
import Derived.Test.YtifpcfhfglkbcabDoorOpenIns
namespace Go.Proofs.YtifpcfhfglkbcabDoor.fnExactInstrOK
open Go.ChangeShapes Go.WideShapes Go.ChangeAt Go.RowKit
open Go.ChangeMaps (open_string shut_string)
set_option linter.unusedVariables false

theorem own : ownKnob Tryd.prog.godebug = none := by kernel_rfl
theorem laidOut : laidOutB Tryd.prog = true := by kernel_rfl

theorem maxL_of {W : World} (h : W.ShapedOpen Tryd.prog) : MaxL W :=
  Go.Proofs.cell_of_shapedOpen_int (zero := #[.int .i64 0]) (t := 3) h (of_decide_eq_true (by kernel_rfl)) (by kernel_rfl) rfl (by kernel_rfl) (by kernel_rfl) Tryd.underlying3
set_option maxRecDepth 100000 in
set_option maxHeartbeats 2000000 in
theorem toInsC (x : Ins) (w : World) : Calls Tryd.prog 5 #[.agg (insV x)] w fun e w' => e = .returned (.agg (insV x)) ∧ Below w.heap.size w w' := by
  have CT := Lib.hid toOpdC
  have T0 := Lib.hid (toI0 w x)
  obtain ⟨op, sz, cd, fr, d, s, ln⟩ := x
  simp only at T0
  unfold insV insA
  simp only
  go_enter Tryd.func5, Tryd.ntmps5
  go_wp2_with fail
  refine (CT.out d _).mono ?_
  rintro e w1 ⟨rfl, hb⟩
  have T1 := Lib.hid (T0.out.call hb)
  clear hb
  have T2h := Lib.hid (show ToI w (w1.setCells (w.heap.size + 1 + 1) 4 (opdL d).toArray.toList) _ _ from T1.out.dst d)
  have H2 := Lib.hid (T1.out.y.there 4 7 (by decide))
  have K11 := Lib.hid (show (w1.setCells (w.heap.size + 1 + 1) 4 (opdL d).toArray.toList).cell? ⟨w.heap.size, 11, none⟩ = some (.int .i64 s.k) from cell_of_row _ _ 11 _ _ _ T2h.out.a)
  have K12 := Lib.hid (show (w1.setCells (w.heap.size + 1 + 1) 4 (opdL d).toArray.toList).cell? ⟨w.heap.size, 12, none⟩ = some (.int .i64 s.r) from cell_of_row _ _ 12 _ _ _ T2h.out.a)
  have K13 := Lib.hid (show (w1.setCells (w.heap.size + 1 + 1) 4 (opdL d).toArray.toList).cell? ⟨w.heap.size, 13, none⟩ = some (.int .i64 s.b) from cell_of_row _ _ 13 _ _ _ T2h.out.a)
  have K14 := Lib.hid (show (w1.setCells (w.heap.size + 1 + 1) 4 (opdL d).toArray.toList).cell? ⟨w.heap.size, 14, none⟩ = some (.int .i64 s.i) from cell_of_row _ _ 14 _ _ _ T2h.out.a)
  have K15 := Lib.hid (show (w1.setCells (w.heap.size + 1 + 1) 4 (opdL d).toArray.toList).cell? ⟨w.heap.size, 15, none⟩ = some (.int .i64 s.s) from cell_of_row _ _ 15 _ _ _ T2h.out.a)
  have K16 := Lib.hid (show (w1.setCells (w.heap.size + 1 + 1) 4 (opdL d).toArray.toList).cell? ⟨w.heap.size, 16, none⟩ = some (.int .i64 s.d) from cell_of_row _ _ 16 _ _ _ T2h.out.a)
  have K17 := Lib.hid (show (w1.setCells (w.heap.size + 1 + 1) 4 (opdL d).toArray.toList).cell? ⟨w.heap.size, 17, none⟩ = some (.int .i64 s.m) from cell_of_row _ _ 17 _ _ _ T2h.out.a)
  go_wp2_with (first | (refine wpList_store_mid rfl 27 (.tmp 19) (.tmp 18) rfl (w.heap.size + 1 + 1) 4 (opdL d).toArray rfl rfl H2.out (by kernel_rfl) (by kernel_rfl) ?_; generalize w1.setCells (w.heap.size + 1 + 1) 4 (opdL d).toArray.toList = W2 at *; (have k11 := K11.out); (have k12 := K12.out); (have k13 := K13.out); (have k14 := K14.out); (have k15 := K15.out); (have k16 := K16.out); (have k17 := K17.out)))
  refine (CT.out s _).mono ?_
  rintro e w3 ⟨rfl, hb⟩
  have T3 := Lib.hid (T2h.out.call hb)
  clear hb
  have T4h := Lib.hid (show ToI w (w3.setCells (w.heap.size + 1 + 1) 11 (opdL s).toArray.toList) _ _ from T3.out.src s)
  have H4 := Lib.hid (T3.out.y.there 11 7 (by decide))
  have T5h := Lib.hid (show ToI w ((w3.setCells (w.heap.size + 1 + 1) 11 (opdL s).toArray.toList).setCell ⟨w.heap.size + 1 + 1, 18, none⟩ (.int .i64 ln)) ⟨op, sz, cd, fr, d, s, ln⟩ ⟨op, sz, cd, fr, d, s, ln⟩ from T4h.out.len ln)
  have K18 := Lib.hid (show (w3.setCells (w.heap.size + 1 + 1) 11 (opdL s).toArray.toList).cell? ⟨w.heap.size, 18, none⟩ = some (.int .i64 ln) from cell_of_row _ _ 18 _ _ _ T4h.out.a)
  have F18 := Lib.hid (show (w3.setCells (w.heap.size + 1 + 1) 11 (opdL s).toArray.toList).frozen? ⟨w.heap.size + 1 + 1, 18, none⟩ = false from T4h.out.y.free 18)
  have S18 := Lib.hid (show (w3.setCells (w.heap.size + 1 + 1) 11 (opdL s).toArray.toList).cell? ⟨w.heap.size + 1 + 1, 18, none⟩ = some (.int .i64 0) from T4h.out.y.cell 18)
  have D6 := Lib.hid (show Below w.heap.size w (((w3.setCells (w.heap.size + 1 + 1) 11 (opdL s).toArray.toList).setCell ⟨w.heap.size + 1 + 1, 18, none⟩ (.int .i64 ln)).setRow (w.heap.size + 1) (insA op sz cd fr d s ln)) from Go.below_setRow T5h.out.be (by omega) _)
  have Z6 := Lib.hid (show (((w3.setCells (w.heap.size + 1 + 1) 11 (opdL s).toArray.toList).setCell ⟨w.heap.size + 1 + 1, 18, none⟩ (.int .i64 ln)).setRow (w.heap.size + 1) (insA op sz cd fr d s ln)).heap[w.heap.size + 1]? = some (.cells (insA op sz cd fr d s ln) 29 (0, 0)) from setRow_heap _ _ _ _ _ _ T5h.out.z)
  have R5 := Lib.hid (show ((w3.setCells (w.heap.size + 1 + 1) 11 (opdL s).toArray.toList).setCell ⟨w.heap.size + 1 + 1, 18, none⟩ (.int .i64 ln)).heap[w.heap.size + 1 + 1]? = some (.cells (insA op sz cd fr d s ln) 29 (0, 0)) from T5h.out.y)
  have Z5 := Lib.hid (show ((w3.setCells (w.heap.size + 1 + 1) 11 (opdL s).toArray.toList).setCell ⟨w.heap.size + 1 + 1, 18, none⟩ (.int .i64 ln)).heap[w.heap.size + 1]? = some (.cells zIns 29 (0, 0)) from T5h.out.z)
  clear T5h CT T0 T1 T2h T3 T4h H2 K11 k11 K12 k12 K13 k13 K14 k14 K15 k15 K16 k16 K17 k17
  go_upto_region 9 with ((refine wpList_store_mid rfl 27 (.tmp 23) (.tmp 22) rfl (w.heap.size + 1 + 1) 11 (opdL s).toArray rfl rfl H4.out (by kernel_rfl) (by kernel_rfl) ?_; generalize w3.setCells (w.heap.size + 1 + 1) 11 (opdL s).toArray.toList = W4 at *; (have k18 := K18.out); (have g18 := F18.out); (have h18 := S18.out)))
  go_wp2_with (first | (refine wpList_load_row rfl 29 (.tmp 3) rfl (w.heap.size + 1 + 1) rfl 29 (insA op sz cd fr d s ln) (0, 0) _ R5.out Tryd.underlying29 rfl (by kernel_rfl) ?_) | (refine wpList_store_row rfl 29 (.tmp 2) (.tmp 27) rfl (w.heap.size + 1) (insA op sz cd fr d s ln) rfl rfl 29 _ Z5.out (by kernel_rfl) rfl (ins_one _ _ _ _ _ _ _) ?_))
  refine bodyPost_ret (v := .agg (insA op sz cd fr d s ln)) (by exact results_cell_row Tryd.results5 _ _ (w.heap.size + 1) 29 (insA op sz cd fr d s ln) (0, 0) _ rfl Z6.out Tryd.underlying29 rfl (by kernel_rfl)) (by rfl) ⟨rfl, D6.out⟩
set_option maxRecDepth 100000 in
set_option maxHeartbeats 2000000 in
theorem both (x : Ins) (v : Bool) (w : World)
    (C1 : Hid (∀ W, Calls Tryd.prog 4 #[.agg (insV x)] W fun e w' => e = .returned (.bool v) ∧ Below W.heap.size W w'))
    (C2 : Hid (∀ W, Below w.heap.size w W → Calls Tryd.prog 6 #[.agg (insV x)] W fun e w' => e = .returned (.bool v) ∧ Below W.heap.size W w')) :
    Calls Tryd.prog 3 #[.agg (insV x)] w fun e w' => e = .returned (.bool true) ∧ Below w.heap.size w w' := by
  have CT := Lib.hid (toInsC x)
  generalize hV : insV x = V at *
  have hO : V.all (·.oneCell') = true := by rw [← hV]; exact insV_one x
  have hS : V.size = 19 := by rw [← hV]; rfl
  have HO := Lib.hid hO; have HS := Lib.hid hS
  clear hV hO hS
  have R0 := Lib.hid (heap_alloc_new w (.cells V 25))
  have B0 := Lib.hid (show Below w.heap.size w (w.alloc (.cells V 25)) from (Below.refl _ _).alloc (Nat.le_refl _) _)
  have I19 := Lib.hid (show (Tryd.prog.info? 25).map (·.size) = some 19 by kernel_rfl)
  go_enter Tryd.func3, Tryd.ntmps3
  go_wp2_with (refine wpList_load_row rfl 25 (.tmp 1) rfl w.heap.size rfl 25 V (0, 0) _ R0.out Tryd.underlying25 rfl (by rw [HS.out]; exact I19.out) ?_)
  refine (CT.out _).mono ?_
  rintro e w1 ⟨rfl, hb1⟩
  go_wp2_with fail
  refine (C1.out _).mono ?_
  rintro e w2 ⟨rfl, hb2⟩
  have B2 := Lib.hid (ins_nest (ins_nest B0.out hb1) hb2)
  have R2 := Lib.hid ((hb2.block _ (Nat.lt_of_lt_of_le (lt_of_blk R0.out) hb1.size)).trans ((hb1.block _ (lt_of_blk R0.out)).trans R0.out))
  clear hb1 hb2
  go_wp2_with (refine wpList_load_row rfl 25 (.tmp 1) rfl w.heap.size rfl 25 V (0, 0) _ R2.out Tryd.underlying25 rfl (by rw [HS.out]; exact I19.out) ?_)
  refine (CT.out _).mono ?_
  rintro e w3 ⟨rfl, hb3⟩
  have B3 := Lib.hid (ins_nest B2.out hb3)
  clear hb3
  go_wp2_with fail
  refine (C2.out _ B3.out).mono ?_
  rintro e w4 ⟨rfl, hb4⟩
  have B4 := Lib.hid (ins_nest B3.out hb4)
  clear hb4
  go_wp2
  go_ret
  exact ⟨rfl, B4.out⟩
set_option maxHeartbeats 1000000 in
set_option maxRecDepth 100000 in
theorem walk (x0 : Ins) (w : World)  (hL : laidMetH Tryd.prog Rows.fnExactInstrOKRow.laid w) (hM : MaxL w) :
    Calls Tryd.prog 3 #[.agg (insV x0)] w fun e w' => e = .returned (.bool true) ∧ Below w.heap.size w w' := by
  obtain ⟨aR, hs⟩ := sentR_of_laid (W := w) (q := Rows.fnExactInstrOKRow.laid) (by kernel_rfl) hL
  have hn : Regs w := ⟨met_byteNames (q := Rows.fnExactInstrOKRow.laid) (by kernel_rfl) hL, met_wordNames (q := Rows.fnExactInstrOKRow.laid) (by kernel_rfl) hL, met_dwordNames (q := Rows.fnExactInstrOKRow.laid) (by kernel_rfl) hL, met_qwordNames (q := Rows.fnExactInstrOKRow.laid) (by kernel_rfl) hL⟩
  have hc := met_condNames (q := Rows.fnExactInstrOKRow.laid) (by kernel_rfl) hL
  have he : Env w aR := ⟨hs, hn, hc, hM⟩
  exact both x0 (insK x0) w (Lib.hid (fun W => instrS x0 W)) (Lib.hid (fun W hW => instrI x0 W aR (he.below hW)))

theorem door_met (os : Os) (args : Array Value) : laidMetH Tryd.prog Rows.fnExactInstrOKRow.laid ((World.doorLaid Tryd.prog 400 os).forCall (fun _ _ => 0) ⟨#[], args, []⟩).memory :=
  laidMetH_of_parts3 (fuel := 8) (laidMet_of_run' 8 (by kernel_rfl) (by kernel_rfl)) (by kernel_rfl) (by kernel_rfl)
theorem n_vars {H : Type} {enc : TypeId × Value → H} {P : Program} {w : World} {sp : Nat → Bool} {n1 n2 n3 n4 n5 n6 : String} {gs : List (DataW H)} {ps : List MemPlace} (h : DataW.TrodVars enc P w sp [n1, n2, n3, n4, n5, n6] gs ps) : ∃ g1 g2 g3 g4 g5 g6, gs = [g1, g2, g3, g4, g5, g6] := by
  match gs, h with
  | [], h => exact h.elim
  | [a1], ⟨_, _, _, _, _, _, _, _, _, _, h, _⟩ => exact h.elim
  | [a1, a2], ⟨_, _, _, _, _, _, _, _, _, _, ⟨_, _, _, _, _, _, _, _, _, _, h, _⟩, _⟩ => exact h.elim
  | [a1, a2, a3], ⟨_, _, _, _, _, _, _, _, _, _, ⟨_, _, _, _, _, _, _, _, _, _, ⟨_, _, _, _, _, _, _, _, _, _, h, _⟩, _⟩, _⟩ => exact h.elim
  | [a1, a2, a3, a4], ⟨_, _, _, _, _, _, _, _, _, _, ⟨_, _, _, _, _, _, _, _, _, _, ⟨_, _, _, _, _, _, _, _, _, _, ⟨_, _, _, _, _, _, _, _, _, _, h, _⟩, _⟩, _⟩, _⟩ => exact h.elim
  | [a1, a2, a3, a4, a5], ⟨_, _, _, _, _, _, _, _, _, _, ⟨_, _, _, _, _, _, _, _, _, _, ⟨_, _, _, _, _, _, _, _, _, _, ⟨_, _, _, _, _, _, _, _, _, _, ⟨_, _, _, _, _, _, _, _, _, _, h, _⟩, _⟩, _⟩, _⟩, _⟩ => exact h.elim
  | [a1, a2, a3, a4, a5, a6], _ => exact ⟨a1, a2, a3, a4, a5, a6, rfl⟩
  | a1 :: a2 :: a3 :: a4 :: a5 :: a6 :: b :: r, ⟨_, _, _, _, _, _, _, _, _, _, ⟨_, _, _, _, _, _, _, _, _, _, ⟨_, _, _, _, _, _, _, _, _, _, ⟨_, _, _, _, _, _, _, _, _, _, ⟨_, _, _, _, _, _, _, _, _, _, ⟨_, _, _, _, _, _, _, _, _, _, h, _⟩, _⟩, _⟩, _⟩, _⟩, _⟩ => exact h.elim
/-! ### THE ROW's STEP -/
set_option maxRecDepth 100000 in
theorem lifted (os : Os) (started : os.Started) (H : Type) (enc : TypeId × Value → H) :
    ReturnsInHanded {} Tryd.checked os 3 .any (fun w args => (Rows.fnExactInstrOKSpec.pre enc Tryd.prog Tryd.f3 [] false w args ∧ laidMetH Tryd.prog Rows.fnExactInstrOKRow.laid w) ∧ sizedMet enc Tryd.prog Tryd.f3 (OpenSpec.ofChange Rows.fnExactInstrOKSpec) false w args)
      (Rows.fnExactInstrOKSpec.post enc Tryd.prog Tryd.f3 false true false false) := by
  refine handed_shaped (C := Tryd.checked) (X := fun w _ => laidMetH Tryd.prog Rows.fnExactInstrOKRow.laid w) (fun _ _ _ hh h => h.of_heap hh) own started (by kernel_rfl) Tryd.func3
    (ChangeSpec.witness_shaped (enc := enc) (C := Tryd.checked) (os := os) (X := fun w _ => laidMetH Tryd.prog Rows.fnExactInstrOKRow.laid w) false (World.doorLaid Tryd.prog 400 os) #[.agg #[.int .i64 0, .int .i64 0, .int .i64 0, .int .i64 0, .int .i64 0, .int .i64 0, .int .i64 0, .int .i64 0, .int .i64 0, .int .i64 0, .int .i64 0, .int .i64 0, .int .i64 0, .int .i64 0, .int .i64 0, .int .i64 0, .int .i64 0, .int .i64 0, .int .i64 0]] 8 rfl (World.shaped_of_RefB (by kernel_rfl) (by kernel_rfl)) (by kernel_rfl) (by kernel_rfl) (by kernel_rfl) (door_met os _)) ?_
  intro W base args ds gs before hval0 hW hL hsh
  have hval : ∀ (j : Nat) t v, Tryd.f3.params[j]? = some t → args[j]? = some v → Value.okWide Tryd.prog W .any base t v := hval0
  have hW' := hW
  obtain ⟨p, q, hA0, hV, rfl, hfz, hnd⟩ := hW
  have hA : DataW.TrodAll enc Tryd.prog W 0 (fun _ => true) true Tryd.f3.params.toList args.toList ds p := hA0
  rw [Tryd.params3] at hA hval
  obtain ⟨v0, vs0, d0, ds0, p0, s0, hargs, rfl, rfl, h0, t0⟩ := trodAll_cons hA
  obtain ⟨rfl, rfl, rfl⟩ := trodAll_nil t0
  obtain rfl : args = #[v0] := by cases args; simp_all
  obtain ⟨g1, g2, g3, g4, g5, g6, rfl⟩ : ∃ g1 g2 g3 g4 g5 g6, gs = [g1, g2, g3, g4, g5, g6] := n_vars hV
  have k0 := h0
  have lt0 : ∀ x ∈ p0, x.block < W.heap.size := by obtain ⟨m, hm⟩ := k0; exact DataW.trod_lt m _ _ _ hm
  obtain ⟨x0, rfl⟩ := open_ins Tryd.underlying25 (by kernel_rfl) Tryd.underlying23 rfl (by kernel_rfl) (by kernel_rfl) rfl (by kernel_rfl) Tryd.underlying3 Tryd.underlying3 Tryd.underlying3 Tryd.underlying3 Tryd.underlying3 Tryd.underlying3 Tryd.underlying3 Tryd.underlying3 Tryd.underlying3 Tryd.underlying3 Tryd.underlying3 Tryd.underlying3 (hval 0 25 v0 rfl rfl) h0
  clear hA0 hval0
  refine (walk x0 W  hL (maxL_of hsh)).mono fun e W' ⟨he, hg⟩ => ?_
  subst he
  exact ⟨_, rfl, _, _, _, [], _, _, hW', trodAll_mk1 (shut_bool Tryd.underlying4 _), (trodAll_cons_mk (Below.trod laidOut (by kernel_rfl) (of_decide_eq_true (by kernel_rfl)) k0 hg lt0) trodAll_mk0), Below.trodVars laidOut hg (by kernel_rfl) hV, hg.frame _, fun h => by cases h⟩

theorem over : Rows.fnExactInstrOKRow.holds Tryd.pinned (OpenSpec.ofChange Rows.fnExactInstrOKSpec) :=
  OpenClaim.holds_of_wide 3 Tryd.f3 rfl rfl rfl rfl rfl rfl rfl ⟨rfl, rfl, rfl, rfl, rfl⟩ rfl rfl rfl rfl rfl (by kernel_rfl) Tryd.func3 (by kernel_rfl)
    (of_decide_eq_true (by kernel_rfl)) (by unfold Func.isWrapper; first | (rw [if_pos (by decide +kernel)]; kernel_rfl) | (rw [if_neg (by decide +kernel)]; exact ⟨rfl, rfl⟩))
    (fun os started H enc _ => lifted os started H enc)

theorem plain (f : FuncId) (fn : Func) (hf : Tryd.pinned.checked.prog.funcNamed "loop.example/g00664/laws.FnExactInstrOK" = some f) (hfn : Tryd.pinned.checked.prog.funcs[f]? = some fn) :
    false = Tryd.pinned.checked.prog.looks [] ∧ ∀ (j : Nat) t, fn.params[j]? = some t → Tryd.pinned.checked.prog.wantsStandIn t = false := by
  obtain rfl : f = 3 := Option.some.inj ((show Tryd.prog.funcNamed "loop.example/g00664/laws.FnExactInstrOK" = some 3 by kernel_rfl).symm.trans hf) |>.symm
  obtain rfl : fn = Tryd.f3 := (Option.some.inj (Tryd.func3.symm.trans hfn)).symm
  refine ⟨by kernel_rfl, fun j t ht => ?_⟩
  rw [Tryd.params3] at ht
  have hm := Array.mem_of_getElem? ht
  simp only [List.mem_toArray, List.mem_cons, List.not_mem_nil, or_false] at hm
  rcases hm with rfl
  · exact (show Tryd.prog.wantsStandIn 25 = false by kernel_rfl)
/-- THE CARD -/
theorem card : Rows.FnExactInstrOKCardSaid :=
  Claim7.holds_tied_plain_at .later [] _ _ _ _ over (fun _ h => by cases h) (by kernel_rfl) (fun _ h => by cases h) fnExactInstrOK_row_tie rfl ⟨rfl, rfl⟩ (by kernel_rfl) rfl plain (by kernel_rfl)
#print axioms card
end Go.Proofs.YtifpcfhfglkbcabDoor.fnExactInstrOK
