/-
  How the laws over an instruction with several results are walked, from the contracts of what they call; conditions: those in each head.
-/
import Derived.Test.YtjnjlgaemmdkhaaDoorWalkOkT14
import Derived.Test.YtjnjlgaemmdkhaaDoorWalkToI
import Derived.Laws.CopyOwn
namespace Go.Proofs.YtjnjlgaemmdkhaaDoor
open Go.RowKit Go.Sort
set_option linter.unusedVariables false
set_option linter.unusedSimpArgs false
theorem maxL_of {W : World} (h : W.ShapedOpen Tryd.prog) : MaxL W :=
  Go.Proofs.cell_of_shapedOpen_int (zero := #[.int .i64 0]) (t := 3) h (of_decide_eq_true (by kernel_rfl)) (by kernel_rfl) rfl (by kernel_rfl) (by kernel_rfl) Tryd.underlying3
set_option maxRecDepth 100000 in
set_option maxHeartbeats 2000000 in
theorem toInsC (x : Ins) (w : World) : Calls Tryd.prog 10 #[.agg (insV x)] w fun e w' => e = .returned (.agg (insV x)) ∧ Below w.heap.size w w' := by
  have CT := Lib.hid toOpdC
  have T0 := Lib.hid (toI0 w x)
  obtain ⟨op, sz, cd, fr, d, s, ln⟩ := x
  simp only at T0
  unfold insV insA
  simp only
  go_enter Tryd.func10, Tryd.ntmps10
  go_wp2_with fail
  refine (CT.out d _).mono ?_
  rintro e w1 ⟨rfl, hb⟩
  have T1 := Lib.hid (T0.out.call hb)
  clear hb
  have T2h := Lib.hid (show ToI w (w1.setCells (w.heap.size + 1 + 1) 4 (opdL d).toArray.toList) _ _ from T1.out.dst d)
  have H2 := Lib.hid (T1.out.y.there 4 7 (by decide))
  have K11 := Lib.hid (show (w1.setCells (w.heap.size + 1 + 1) 4 (opdL d).toArray.toList).cell? ⟨w.heap.size, 11, none⟩ = some (.int .i64 s.k) from cell_of_row _ _ 11 _ _ _ T2h.out.a)
  have K12 := Lib.hid (show (w1.setCells (w.heap.size + 1 + 1) 4 (opdL d).toArray.toList).cell? ⟨w.heap.size, 12, none⟩ = some (.int .i64 s.r) from cell_of_row _ _ 12 _ _ _ T2h.out.a)
  have K13 := Lib.hid (show (w1.setCells (w.heap.size + 1 + 1) 4 (opdL d).toArray.toList).cell? ⟨w.heap.size, 13, none⟩ = some (.int .i64 s.b) from cell_of_row _ _ 13 _ _ _ T2h.out.a)
  have K14 := Lib.hid (show (w1.setCells (w.heap.size + 1 + 1) 4 (opdL d).toArray.toList).cell? ⟨w.heap.size, 14, none⟩ = some (.int .i64 s.i) from cell_of_row _ _ 14 _ _ _ T2h.out.a)
  have K15 := Lib.hid (show (w1.setCells (w.heap.size + 1 + 1) 4 (opdL d).toArray.toList).cell? ⟨w.heap.size, 15, none⟩ = some (.int .i64 s.s) from cell_of_row _ _ 15 _ _ _ T2h.out.a)
  have K16 := Lib.hid (show (w1.setCells (w.heap.size + 1 + 1) 4 (opdL d).toArray.toList).cell? ⟨w.heap.size, 16, none⟩ = some (.int .i64 s.d) from cell_of_row _ _ 16 _ _ _ T2h.out.a)
  have K17 := Lib.hid (show (w1.setCells (w.heap.size + 1 + 1) 4 (opdL d).toArray.toList).cell? ⟨w.heap.size, 17, none⟩ = some (.int .i64 s.m) from cell_of_row _ _ 17 _ _ _ T2h.out.a)
  go_wp2_with (first | (refine wpList_store_mid rfl 28 (.tmp 19) (.tmp 18) rfl (w.heap.size + 1 + 1) 4 (opdL d).toArray rfl rfl H2.out (by kernel_rfl) (by kernel_rfl) ?_; generalize w1.setCells (w.heap.size + 1 + 1) 4 (opdL d).toArray.toList = W2 at *; (have k11 := K11.out); (have k12 := K12.out); (have k13 := K13.out); (have k14 := K14.out); (have k15 := K15.out); (have k16 := K16.out); (have k17 := K17.out)))
  refine (CT.out s _).mono ?_
  rintro e w3 ⟨rfl, hb⟩
  have T3 := Lib.hid (T2h.out.call hb)
  clear hb
  have T4h := Lib.hid (show ToI w (w3.setCells (w.heap.size + 1 + 1) 11 (opdL s).toArray.toList) _ _ from T3.out.src s)
  have H4 := Lib.hid (T3.out.y.there 11 7 (by decide))
  have T5h := Lib.hid (show ToI w ((w3.setCells (w.heap.size + 1 + 1) 11 (opdL s).toArray.toList).setCell ⟨w.heap.size + 1 + 1, 18, none⟩ (.int .i64 ln)) ⟨op, sz, cd, fr, d, s, ln⟩ ⟨op, sz, cd, fr, d, s, ln⟩ from T4h.out.len ln)
  have K18 := Lib.hid (show (w3.setCells (w.heap.size + 1 + 1) 11 (opdL s).toArray.toList).cell? ⟨w.heap.size, 18, none⟩ = some (.int .i64 ln) from cell_of_row _ _ 18 _ _ _ T4h.out.a)
  have F18 := Lib.hid (show (w3.setCells (w.heap.size + 1 + 1) 11 (opdL s).toArray.toList).frozen? ⟨w.heap.size + 1 + 1, 18, none⟩ = false from T4h.out.y.free 18)
  have S18 := Lib.hid (show (w3.setCells (w.heap.size + 1 + 1) 11 (opdL s).toArray.toList).cell? ⟨w.heap.size + 1 + 1, 18, none⟩ = some (.int .i64 0) from T4h.out.y.cell 18)
  have D6 := Lib.hid (show Below w.heap.size w (((w3.setCells (w.heap.size + 1 + 1) 11 (opdL s).toArray.toList).setCell ⟨w.heap.size + 1 + 1, 18, none⟩ (.int .i64 ln)).setRow (w.heap.size + 1) (insA op sz cd fr d s ln)) from Go.below_setRow T5h.out.be (by omega) _)
  have Z6 := Lib.hid (show (((w3.setCells (w.heap.size + 1 + 1) 11 (opdL s).toArray.toList).setCell ⟨w.heap.size + 1 + 1, 18, none⟩ (.int .i64 ln)).setRow (w.heap.size + 1) (insA op sz cd fr d s ln)).heap[w.heap.size + 1]? = some (.cells (insA op sz cd fr d s ln) 30 (0, 0)) from setRow_heap _ _ _ _ _ _ T5h.out.z)
  have R5 := Lib.hid (show ((w3.setCells (w.heap.size + 1 + 1) 11 (opdL s).toArray.toList).setCell ⟨w.heap.size + 1 + 1, 18, none⟩ (.int .i64 ln)).heap[w.heap.size + 1 + 1]? = some (.cells (insA op sz cd fr d s ln) 30 (0, 0)) from T5h.out.y)
  have Z5 := Lib.hid (show ((w3.setCells (w.heap.size + 1 + 1) 11 (opdL s).toArray.toList).setCell ⟨w.heap.size + 1 + 1, 18, none⟩ (.int .i64 ln)).heap[w.heap.size + 1]? = some (.cells zIns 30 (0, 0)) from T5h.out.z)
  clear T5h CT T0 T1 T2h T3 T4h H2 K11 k11 K12 k12 K13 k13 K14 k14 K15 k15 K16 k16 K17 k17
  go_upto_region 9 with ((refine wpList_store_mid rfl 28 (.tmp 23) (.tmp 22) rfl (w.heap.size + 1 + 1) 11 (opdL s).toArray rfl rfl H4.out (by kernel_rfl) (by kernel_rfl) ?_; generalize w3.setCells (w.heap.size + 1 + 1) 11 (opdL s).toArray.toList = W4 at *; (have k18 := K18.out); (have g18 := F18.out); (have h18 := S18.out)))
  go_wp2_with (first | (refine wpList_load_row rfl 30 (.tmp 3) rfl (w.heap.size + 1 + 1) rfl 30 (insA op sz cd fr d s ln) (0, 0) _ R5.out Tryd.underlying30 rfl (by kernel_rfl) ?_) | (refine wpList_store_row rfl 30 (.tmp 2) (.tmp 27) rfl (w.heap.size + 1) (insA op sz cd fr d s ln) rfl rfl 30 _ Z5.out (by kernel_rfl) rfl (ins_one _ _ _ _ _ _ _) ?_))
  refine bodyPost_ret (v := .agg (insA op sz cd fr d s ln)) (by exact results_cell_row Tryd.results10 _ _ (w.heap.size + 1) 30 (insA op sz cd fr d s ln) (0, 0) _ rfl Z6.out Tryd.underlying30 rfl (by kernel_rfl)) (by rfl) ⟨rfl, D6.out⟩
set_option maxHeartbeats 1000000 in
theorem eqOpdT (x : Opd) (w : World) : Calls Tryd.prog 14 #[V7 x, V7 x] w fun e w' => e = .returned (.bool true) ∧ Below w.heap.size w w' := by
  obtain ⟨k, r, b, i, s, d, m⟩ := x
  unfold V7
  go_enter Tryd.func14, Tryd.ntmps14
  go_wp2
  go_ret
  exact ⟨rfl, ((Below.refl _ _).alloc (Nat.le_refl _) _).alloc (by simp) _⟩
set_option maxRecDepth 100000 in
set_option maxHeartbeats 4000000 in
theorem bothWritesReg (x : Ins) (at' c : Int) (h : Bool) (w : World)
    (C1 : Hid (∀ W, Calls Tryd.prog 9 #[.agg (insV x), .int .i64 at'] W fun e w' => e = .returned (.tuple #[.bool h, .int .i64 c]) ∧ Below W.heap.size W w'))
    (C2 : Hid (∀ W, Below w.heap.size w W → Calls Tryd.prog 11 #[.agg (insV x), .int .i64 at'] W fun e w' => e = .returned (.tuple #[.bool h, .int .i64 c]) ∧ Below W.heap.size W w')) :
    Calls Tryd.prog 3 #[.agg (insV x), .int .i64 at'] w fun e w' => e = .returned (.bool true) ∧ Below w.heap.size w w' := by
  have CT := Lib.hid (toInsC x)
  generalize hV : insV x = V at *
  have hO : V.all (·.oneCell') = true := by rw [← hV]; exact insV_one x
  have hS : V.size = 19 := by rw [← hV]; rfl
  have HO := Lib.hid hO; have HS := Lib.hid hS
  clear hV hO hS
  have R0 := Lib.hid (heap_alloc_new w (.cells V 25))
  have B0 := Lib.hid (show Below w.heap.size w (w.alloc (.cells V 25)) from (Below.refl _ _).alloc (Nat.le_refl _) _)
  have I19 := Lib.hid (show (Tryd.prog.info? 25).map (·.size) = some 19 by kernel_rfl)
  go_enter Tryd.func3, Tryd.ntmps3
  go_wp2_with (refine wpList_load_row rfl 25 (.tmp 2) rfl w.heap.size rfl 25 V (0, 0) _ R0.out Tryd.underlying25 rfl (by rw [HS.out]; exact I19.out) ?_)
  refine (CT.out _).mono ?_
  rintro e w1 ⟨rfl, hb1⟩
  go_wp2_with fail
  refine (C1.out _).mono ?_
  rintro e w2 ⟨rfl, hb2⟩
  have B2 := Lib.hid (ins_nest (ins_nest B0.out hb1) hb2)
  have R2 := Lib.hid ((hb2.block _ (Nat.lt_of_lt_of_le (lt_of_blk R0.out) hb1.size)).trans ((hb1.block _ (lt_of_blk R0.out)).trans R0.out))
  clear hb1 hb2
  go_wp2_with (refine wpList_load_row rfl 25 (.tmp 2) rfl w.heap.size rfl 25 V (0, 0) _ R2.out Tryd.underlying25 rfl (by rw [HS.out]; exact I19.out) ?_)
  refine (CT.out _).mono ?_
  rintro e w3 ⟨rfl, hb3⟩
  have B3 := Lib.hid (ins_nest B2.out hb3)
  clear hb3
  go_wp2_with fail
  refine (C2.out _ B3.out).mono ?_
  rintro e w4 ⟨rfl, hb4⟩
  have B4 := Lib.hid (ins_nest B3.out hb4)
  clear hb4
  go_wp2
  go_ret
  exact ⟨rfl, B4.out⟩
set_option maxRecDepth 100000 in
set_option maxHeartbeats 4000000 in
theorem bothMaskOf (x : Ins) (r m c : Int) (h : Bool) (w : World)
    (C1 : Hid (∀ W, Calls Tryd.prog 15 #[.agg (insV x)] W fun e w' => e = .returned (.tuple #[.int .i64 r, .int .i64 m, .bool h, .int .i64 c]) ∧ Below W.heap.size W w'))
    (C2 : Hid (∀ W, Below w.heap.size w W → Calls Tryd.prog 16 #[.agg (insV x)] W fun e w' => e = .returned (.tuple #[.int .i64 r, .int .i64 m, .bool h, .int .i64 c]) ∧ Below W.heap.size W w')) :
    Calls Tryd.prog 5 #[.agg (insV x)] w fun e w' => e = .returned (.bool true) ∧ Below w.heap.size w w' := by
  have CT := Lib.hid (toInsC x)
  generalize hV : insV x = V at *
  have hO : V.all (·.oneCell') = true := by rw [← hV]; exact insV_one x
  have hS : V.size = 19 := by rw [← hV]; rfl
  have HO := Lib.hid hO; have HS := Lib.hid hS
  clear hV hO hS
  have R0 := Lib.hid (heap_alloc_new w (.cells V 25))
  have B0 := Lib.hid (show Below w.heap.size w (w.alloc (.cells V 25)) from (Below.refl _ _).alloc (Nat.le_refl _) _)
  have I19 := Lib.hid (show (Tryd.prog.info? 25).map (·.size) = some 19 by kernel_rfl)
  go_enter Tryd.func5, Tryd.ntmps5
  go_wp2_with (refine wpList_load_row rfl 25 (.tmp 1) rfl w.heap.size rfl 25 V (0, 0) _ R0.out Tryd.underlying25 rfl (by rw [HS.out]; exact I19.out) ?_)
  refine (CT.out _).mono ?_
  rintro e w1 ⟨rfl, hb1⟩
  go_wp2_with fail
  refine (C1.out _).mono ?_
  rintro e w2 ⟨rfl, hb2⟩
  have B2 := Lib.hid (ins_nest (ins_nest B0.out hb1) hb2)
  have R2 := Lib.hid ((hb2.block _ (Nat.lt_of_lt_of_le (lt_of_blk R0.out) hb1.size)).trans ((hb1.block _ (lt_of_blk R0.out)).trans R0.out))
  clear hb1 hb2
  go_wp2_with (refine wpList_load_row rfl 25 (.tmp 1) rfl w.heap.size rfl 25 V (0, 0) _ R2.out Tryd.underlying25 rfl (by rw [HS.out]; exact I19.out) ?_)
  refine (CT.out _).mono ?_
  rintro e w3 ⟨rfl, hb3⟩
  have B3 := Lib.hid (ins_nest B2.out hb3)
  clear hb3
  go_wp2_with fail
  refine (C2.out _ B3.out).mono ?_
  rintro e w4 ⟨rfl, hb4⟩
  have B4 := Lib.hid (ins_nest B3.out hb4)
  clear hb4
  go_wp2
  go_ret
  exact ⟨rfl, B4.out⟩
set_option maxRecDepth 100000 in
set_option maxHeartbeats 4000000 in
theorem bothBaseAddOf (x : Ins) (r c : Int) (h : Bool) (w : World)
    (C1 : Hid (∀ W, Calls Tryd.prog 17 #[.agg (insV x)] W fun e w' => e = .returned (.tuple #[.int .i64 r, .bool h, .int .i64 c]) ∧ Below W.heap.size W w'))
    (C2 : Hid (∀ W, Below w.heap.size w W → Calls Tryd.prog 18 #[.agg (insV x)] W fun e w' => e = .returned (.tuple #[.int .i64 r, .bool h, .int .i64 c]) ∧ Below W.heap.size W w')) :
    Calls Tryd.prog 6 #[.agg (insV x)] w fun e w' => e = .returned (.bool true) ∧ Below w.heap.size w w' := by
  have CT := Lib.hid (toInsC x)
  generalize hV : insV x = V at *
  have hO : V.all (·.oneCell') = true := by rw [← hV]; exact insV_one x
  have hS : V.size = 19 := by rw [← hV]; rfl
  have HO := Lib.hid hO; have HS := Lib.hid hS
  clear hV hO hS
  have R0 := Lib.hid (heap_alloc_new w (.cells V 25))
  have B0 := Lib.hid (show Below w.heap.size w (w.alloc (.cells V 25)) from (Below.refl _ _).alloc (Nat.le_refl _) _)
  have I19 := Lib.hid (show (Tryd.prog.info? 25).map (·.size) = some 19 by kernel_rfl)
  go_enter Tryd.func6, Tryd.ntmps6
  go_wp2_with (refine wpList_load_row rfl 25 (.tmp 1) rfl w.heap.size rfl 25 V (0, 0) _ R0.out Tryd.underlying25 rfl (by rw [HS.out]; exact I19.out) ?_)
  refine (CT.out _).mono ?_
  rintro e w1 ⟨rfl, hb1⟩
  go_wp2_with fail
  refine (C1.out _).mono ?_
  rintro e w2 ⟨rfl, hb2⟩
  have B2 := Lib.hid (ins_nest (ins_nest B0.out hb1) hb2)
  have R2 := Lib.hid ((hb2.block _ (Nat.lt_of_lt_of_le (lt_of_blk R0.out) hb1.size)).trans ((hb1.block _ (lt_of_blk R0.out)).trans R0.out))
  clear hb1 hb2
  go_wp2_with (refine wpList_load_row rfl 25 (.tmp 1) rfl w.heap.size rfl 25 V (0, 0) _ R2.out Tryd.underlying25 rfl (by rw [HS.out]; exact I19.out) ?_)
  refine (CT.out _).mono ?_
  rintro e w3 ⟨rfl, hb3⟩
  have B3 := Lib.hid (ins_nest B2.out hb3)
  clear hb3
  go_wp2_with fail
  refine (C2.out _ B3.out).mono ?_
  rintro e w4 ⟨rfl, hb4⟩
  have B4 := Lib.hid (ins_nest B3.out hb4)
  clear hb4
  go_wp2
  go_ret
  exact ⟨rfl, B4.out⟩
set_option maxRecDepth 100000 in
set_option maxHeartbeats 4000000 in
theorem bothGoalOf (x : Ins) (at' r c : Int) (h : Bool) (w : World)
    (C1 : Hid (∀ W, Calls Tryd.prog 19 #[.agg (insV x), .int .i64 at'] W fun e w' => e = .returned (.tuple #[.int .i64 r, .bool h, .int .i64 c]) ∧ Below W.heap.size W w'))
    (C2 : Hid (∀ W, Below w.heap.size w W → Calls Tryd.prog 20 #[.agg (insV x), .int .i64 at'] W fun e w' => e = .returned (.tuple #[.int .i64 r, .bool h, .int .i64 c]) ∧ Below W.heap.size W w')) :
    Calls Tryd.prog 7 #[.agg (insV x), .int .i64 at'] w fun e w' => e = .returned (.bool true) ∧ Below w.heap.size w w' := by
  have CT := Lib.hid (toInsC x)
  generalize hV : insV x = V at *
  have hO : V.all (·.oneCell') = true := by rw [← hV]; exact insV_one x
  have hS : V.size = 19 := by rw [← hV]; rfl
  have HO := Lib.hid hO; have HS := Lib.hid hS
  clear hV hO hS
  have R0 := Lib.hid (heap_alloc_new w (.cells V 25))
  have B0 := Lib.hid (show Below w.heap.size w (w.alloc (.cells V 25)) from (Below.refl _ _).alloc (Nat.le_refl _) _)
  have I19 := Lib.hid (show (Tryd.prog.info? 25).map (·.size) = some 19 by kernel_rfl)
  go_enter Tryd.func7, Tryd.ntmps7
  go_wp2_with (refine wpList_load_row rfl 25 (.tmp 2) rfl w.heap.size rfl 25 V (0, 0) _ R0.out Tryd.underlying25 rfl (by rw [HS.out]; exact I19.out) ?_)
  refine (CT.out _).mono ?_
  rintro e w1 ⟨rfl, hb1⟩
  go_wp2_with fail
  refine (C1.out _).mono ?_
  rintro e w2 ⟨rfl, hb2⟩
  have B2 := Lib.hid (ins_nest (ins_nest B0.out hb1) hb2)
  have R2 := Lib.hid ((hb2.block _ (Nat.lt_of_lt_of_le (lt_of_blk R0.out) hb1.size)).trans ((hb1.block _ (lt_of_blk R0.out)).trans R0.out))
  clear hb1 hb2
  go_wp2_with (refine wpList_load_row rfl 25 (.tmp 2) rfl w.heap.size rfl 25 V (0, 0) _ R2.out Tryd.underlying25 rfl (by rw [HS.out]; exact I19.out) ?_)
  refine (CT.out _).mono ?_
  rintro e w3 ⟨rfl, hb3⟩
  have B3 := Lib.hid (ins_nest B2.out hb3)
  clear hb3
  go_wp2_with fail
  refine (C2.out _ B3.out).mono ?_
  rintro e w4 ⟨rfl, hb4⟩
  have B4 := Lib.hid (ins_nest B3.out hb4)
  clear hb4
  go_wp2
  go_ret
  exact ⟨rfl, B4.out⟩
set_option maxRecDepth 100000 in
set_option maxHeartbeats 4000000 in
theorem bothMemoryOf (x : Ins) (o : Opd) (c : Int) (h : Bool) (w : World)
    (C1 : Hid (∀ W, Calls Tryd.prog 12 #[.agg (insV x)] W fun e w' => e = .returned (.tuple #[.agg #[.int .i64 o.k, .int .i64 o.r, .int .i64 o.b, .int .i64 o.i, .int .i64 o.s, .int .i64 o.d, .int .i64 o.m], .bool h, .int .i64 c]) ∧ Below W.heap.size W w'))
    (C2 : Hid (∀ W, Below w.heap.size w W → Calls Tryd.prog 13 #[.agg (insV x)] W fun e w' => e = .returned (.tuple #[.agg #[.int .i64 o.k, .int .i64 o.r, .int .i64 o.b, .int .i64 o.i, .int .i64 o.s, .int .i64 o.d, .int .i64 o.m], .bool h, .int .i64 c]) ∧ Below W.heap.size W w')) :
    Calls Tryd.prog 4 #[.agg (insV x)] w fun e w' => e = .returned (.bool true) ∧ Below w.heap.size w w' := by
  have CT := Lib.hid (toInsC x)
  generalize hV : insV x = V at *
  have hO : V.all (·.oneCell') = true := by rw [← hV]; exact insV_one x
  have hS : V.size = 19 := by rw [← hV]; rfl
  have HO := Lib.hid hO; have HS := Lib.hid hS
  clear hV hO hS
  have R0 := Lib.hid (heap_alloc_new w (.cells V 25))
  have B0 := Lib.hid (show Below w.heap.size w (w.alloc (.cells V 25)) from (Below.refl _ _).alloc (Nat.le_refl _) _)
  have I19 := Lib.hid (show (Tryd.prog.info? 25).map (·.size) = some 19 by kernel_rfl)
  have CE := Lib.hid (eqOpdT o)
  unfold V7 at CE
  go_enter Tryd.func4, Tryd.ntmps4
  go_wp2_with (refine wpList_load_row rfl 25 (.tmp 1) rfl w.heap.size rfl 25 V (0, 0) _ R0.out Tryd.underlying25 rfl (by rw [HS.out]; exact I19.out) ?_)
  refine (CT.out _).mono ?_
  rintro e w1 ⟨rfl, hb1⟩
  go_wp2_with fail
  refine (C1.out _).mono ?_
  rintro e w2 ⟨rfl, hb2⟩
  have B2 := Lib.hid (ins_nest (ins_nest B0.out hb1) hb2)
  have R2 := Lib.hid ((hb2.block _ (Nat.lt_of_lt_of_le (lt_of_blk R0.out) hb1.size)).trans ((hb1.block _ (lt_of_blk R0.out)).trans R0.out))
  clear hb1 hb2
  have R3 := Lib.hid ((Below.heap_alloc w2 (.cells #[.int .i64 o.k, .int .i64 o.r, .int .i64 o.b, .int .i64 o.i, .int .i64 o.s, .int .i64 o.d, .int .i64 o.m] 28) _ (lt_of_blk R2.out)).trans R2.out)
  have B3 := Lib.hid (B2.out.alloc B2.out.size (.cells #[.int .i64 o.k, .int .i64 o.r, .int .i64 o.b, .int .i64 o.i, .int .i64 o.s, .int .i64 o.d, .int .i64 o.m] 28))
  have P3 := Lib.hid (heap_alloc_new w2 (.cells #[.int .i64 o.k, .int .i64 o.r, .int .i64 o.b, .int .i64 o.i, .int .i64 o.s, .int .i64 o.d, .int .i64 o.m] 28))
  go_wp2_with (refine wpList_load_row rfl 25 (.tmp 1) rfl w.heap.size rfl 25 V (0, 0) _ R3.out Tryd.underlying25 rfl (by rw [HS.out]; exact I19.out) ?_)
  refine (CT.out _).mono ?_
  rintro e w3 ⟨rfl, hb3⟩
  have B4 := Lib.hid (ins_nest B3.out hb3)
  have P4 := Lib.hid ((hb3.block _ (lt_of_blk P3.out)).trans P3.out)
  clear hb3
  go_wp2_with fail
  refine (C2.out _ B4.out).mono ?_
  rintro e w4 ⟨rfl, hb4⟩
  have B5 := Lib.hid (ins_nest B4.out hb4)
  have P5 := Lib.hid ((hb4.block _ (lt_of_blk P4.out)).trans P4.out)
  clear hb4
  have P6 := Lib.hid ((Below.heap_alloc w4 (.cells #[.int .i64 o.k, .int .i64 o.r, .int .i64 o.b, .int .i64 o.i, .int .i64 o.s, .int .i64 o.d, .int .i64 o.m] 28) _ (lt_of_blk P5.out)).trans P5.out)
  have B6 := Lib.hid (B5.out.alloc B5.out.size (.cells #[.int .i64 o.k, .int .i64 o.r, .int .i64 o.b, .int .i64 o.i, .int .i64 o.s, .int .i64 o.d, .int .i64 o.m] 28))
  have Q6 := Lib.hid (heap_alloc_new w4 (.cells #[.int .i64 o.k, .int .i64 o.r, .int .i64 o.b, .int .i64 o.i, .int .i64 o.s, .int .i64 o.d, .int .i64 o.m] 28))
  have p0 := P6.out; have q0 := Q6.out
  go_wp2_with (first | (refine wpList_load_row rfl 28 (.tmp 6) rfl w4.heap.size rfl 28 #[.int .i64 o.k, .int .i64 o.r, .int .i64 o.b, .int .i64 o.i, .int .i64 o.s, .int .i64 o.d, .int .i64 o.m] (0, 0) _ Q6.out Tryd.underlying28 rfl (by kernel_rfl) ?_) | (refine wpList_load_row rfl 28 (.tmp 3) rfl w2.heap.size rfl 28 #[.int .i64 o.k, .int .i64 o.r, .int .i64 o.b, .int .i64 o.i, .int .i64 o.s, .int .i64 o.d, .int .i64 o.m] (0, 0) _ P6.out Tryd.underlying28 rfl (by kernel_rfl) ?_))
  refine (CE.out _).mono ?_
  rintro e w5 ⟨rfl, hb5⟩
  have B7 := Lib.hid (ins_nest B6.out hb5)
  clear hb5
  go_wp2
  go_ret
  exact ⟨rfl, B7.out⟩
set_option maxRecDepth 100000 in
set_option maxHeartbeats 4000000 in
theorem bothThroughOf (x : Ins) (o : Opd) (c : Int) (h : Bool) (w : World)
    (C1 : Hid (∀ W, Calls Tryd.prog 21 #[.agg (insV x)] W fun e w' => e = .returned (.tuple #[.agg #[.int .i64 o.k, .int .i64 o.r, .int .i64 o.b, .int .i64 o.i, .int .i64 o.s, .int .i64 o.d, .int .i64 o.m], .bool h, .int .i64 c]) ∧ Below W.heap.size W w'))
    (C2 : Hid (∀ W, Below w.heap.size w W → Calls Tryd.prog 22 #[.agg (insV x)] W fun e w' => e = .returned (.tuple #[.agg #[.int .i64 o.k, .int .i64 o.r, .int .i64 o.b, .int .i64 o.i, .int .i64 o.s, .int .i64 o.d, .int .i64 o.m], .bool h, .int .i64 c]) ∧ Below W.heap.size W w')) :
    Calls Tryd.prog 8 #[.agg (insV x)] w fun e w' => e = .returned (.bool true) ∧ Below w.heap.size w w' := by
  have CT := Lib.hid (toInsC x)
  generalize hV : insV x = V at *
  have hO : V.all (·.oneCell') = true := by rw [← hV]; exact insV_one x
  have hS : V.size = 19 := by rw [← hV]; rfl
  have HO := Lib.hid hO; have HS := Lib.hid hS
  clear hV hO hS
  have R0 := Lib.hid (heap_alloc_new w (.cells V 25))
  have B0 := Lib.hid (show Below w.heap.size w (w.alloc (.cells V 25)) from (Below.refl _ _).alloc (Nat.le_refl _) _)
  have I19 := Lib.hid (show (Tryd.prog.info? 25).map (·.size) = some 19 by kernel_rfl)
  have CE := Lib.hid (eqOpdT o)
  unfold V7 at CE
  go_enter Tryd.func8, Tryd.ntmps8
  go_wp2_with (refine wpList_load_row rfl 25 (.tmp 1) rfl w.heap.size rfl 25 V (0, 0) _ R0.out Tryd.underlying25 rfl (by rw [HS.out]; exact I19.out) ?_)
  refine (CT.out _).mono ?_
  rintro e w1 ⟨rfl, hb1⟩
  go_wp2_with fail
  refine (C1.out _).mono ?_
  rintro e w2 ⟨rfl, hb2⟩
  have B2 := Lib.hid (ins_nest (ins_nest B0.out hb1) hb2)
  have R2 := Lib.hid ((hb2.block _ (Nat.lt_of_lt_of_le (lt_of_blk R0.out) hb1.size)).trans ((hb1.block _ (lt_of_blk R0.out)).trans R0.out))
  clear hb1 hb2
  have R3 := Lib.hid ((Below.heap_alloc w2 (.cells #[.int .i64 o.k, .int .i64 o.r, .int .i64 o.b, .int .i64 o.i, .int .i64 o.s, .int .i64 o.d, .int .i64 o.m] 28) _ (lt_of_blk R2.out)).trans R2.out)
  have B3 := Lib.hid (B2.out.alloc B2.out.size (.cells #[.int .i64 o.k, .int .i64 o.r, .int .i64 o.b, .int .i64 o.i, .int .i64 o.s, .int .i64 o.d, .int .i64 o.m] 28))
  have P3 := Lib.hid (heap_alloc_new w2 (.cells #[.int .i64 o.k, .int .i64 o.r, .int .i64 o.b, .int .i64 o.i, .int .i64 o.s, .int .i64 o.d, .int .i64 o.m] 28))
  go_wp2_with (refine wpList_load_row rfl 25 (.tmp 1) rfl w.heap.size rfl 25 V (0, 0) _ R3.out Tryd.underlying25 rfl (by rw [HS.out]; exact I19.out) ?_)
  refine (CT.out _).mono ?_
  rintro e w3 ⟨rfl, hb3⟩
  have B4 := Lib.hid (ins_nest B3.out hb3)
  have P4 := Lib.hid ((hb3.block _ (lt_of_blk P3.out)).trans P3.out)
  clear hb3
  go_wp2_with fail
  refine (C2.out _ B4.out).mono ?_
  rintro e w4 ⟨rfl, hb4⟩
  have B5 := Lib.hid (ins_nest B4.out hb4)
  have P5 := Lib.hid ((hb4.block _ (lt_of_blk P4.out)).trans P4.out)
  clear hb4
  have P6 := Lib.hid ((Below.heap_alloc w4 (.cells #[.int .i64 o.k, .int .i64 o.r, .int .i64 o.b, .int .i64 o.i, .int .i64 o.s, .int .i64 o.d, .int .i64 o.m] 28) _ (lt_of_blk P5.out)).trans P5.out)
  have B6 := Lib.hid (B5.out.alloc B5.out.size (.cells #[.int .i64 o.k, .int .i64 o.r, .int .i64 o.b, .int .i64 o.i, .int .i64 o.s, .int .i64 o.d, .int .i64 o.m] 28))
  have Q6 := Lib.hid (heap_alloc_new w4 (.cells #[.int .i64 o.k, .int .i64 o.r, .int .i64 o.b, .int .i64 o.i, .int .i64 o.s, .int .i64 o.d, .int .i64 o.m] 28))
  have p0 := P6.out; have q0 := Q6.out
  go_wp2_with (first | (refine wpList_load_row rfl 28 (.tmp 6) rfl w4.heap.size rfl 28 #[.int .i64 o.k, .int .i64 o.r, .int .i64 o.b, .int .i64 o.i, .int .i64 o.s, .int .i64 o.d, .int .i64 o.m] (0, 0) _ Q6.out Tryd.underlying28 rfl (by kernel_rfl) ?_) | (refine wpList_load_row rfl 28 (.tmp 3) rfl w2.heap.size rfl 28 #[.int .i64 o.k, .int .i64 o.r, .int .i64 o.b, .int .i64 o.i, .int .i64 o.s, .int .i64 o.d, .int .i64 o.m] (0, 0) _ P6.out Tryd.underlying28 rfl (by kernel_rfl) ?_))
  refine (CE.out _).mono ?_
  rintro e w5 ⟨rfl, hb5⟩
  have B7 := Lib.hid (ins_nest B6.out hb5)
  clear hb5
  go_wp2
  go_ret
  exact ⟨rfl, B7.out⟩
end Go.Proofs.YtjnjlgaemmdkhaaDoor
