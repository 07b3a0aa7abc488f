/-
  What memory of the specification's decoder does: memory that the bytes tell, with its code that stays, changing nothing but the decoder; conditions: those in each head.
-/
import Derived.Test.YtinjpobepcenfaaDoorWalkIn
import Derived.Deep.Cut
namespace Go.Proofs.YtinjpobepcenfaaDoor
open Go.RowKit Go.Sort
set_option linter.unusedVariables false
set_option maxRecDepth 100000 in
set_option maxHeartbeats 2000000 in
theorem smB_x0 (g : Nat) (I I1 : In) (W0 w : World) (rm : Nat) (E : Nat) (v : Int) (h : IAt W0 w g I) (hrm : rm < 8) (h4 : rm ≠ 4) (h5 : rm ≠ 5) (hE : E ≤ 8) (C0 : Hid (∀ W, IAt W0 W g I → Calls Tryd.prog 87 #[.pointer (some ⟨g, 0, none⟩), .int .i64 0] W fun e w' => e = .returned (.int .i64 (E : Int)) ∧ W = w')) :
    Calls Tryd.prog 88 #[.pointer (some ⟨g, 0, none⟩), .int .i64 0, .int .i64 (rm : Int)] w fun e w' => e = .returned (V7 (memOpd ((rm : Int) + (E : Int)) (-1) 1 0)) ∧ IWr W0 w w' g I := by
  have H := Lib.hid h
  have A0 := Lib.hid (h.alloc (.cells #[.int .i64 0, .int .i64 0, .int .i64 0, .int .i64 0, .int .i64 0, .int .i64 0, .int .i64 0] 25))
  have M1 := Lib.hid (IMS.newX h ((rm : Int) + (E : Int)) (-1) 1 0)
  have hE' : (E : Int) ≤ 8 := by omega
  have d4 : ((rm : Int) == 4) = false := beq_eq_false_iff_ne.mpr (by omega)
  have d5 : ((rm : Int) == 5) = false := beq_eq_false_iff_ne.mpr (by omega)
  have hrm' : (rm : Int) < 8 := by omega
  clear h hrm h4 h5 hE
  go_enter Tryd.func88, Tryd.ntmps88
  go_wp2_with fail
  refine Calls.mono (C0.out _ A0.out) ?_
  rintro e w1 ⟨rfl, rfl⟩
  go_wp2
  refine bodyPost_ret (v := .agg (opdL (memOpd ((rm : Int) + (E : Int)) (-1) 1 0)).toArray) (by exact results_cell_row Tryd.results88 _ _ w.heap.size 25 (opdL (memOpd ((rm : Int) + (E : Int)) (-1) 1 0)).toArray (0, 0) _ rfl ((Below.heap_alloc _ _ _ (by simp)).trans (heap_alloc_new w _)) Tryd.underlying25 rfl (by kernel_rfl)) (by rfl) ⟨rfl, ?_⟩
  have bb := ((Below.refl w.heap.size w).alloc (Nat.le_refl _) (.cells (opdL (memOpd ((rm : Int) + (E : Int)) (-1) 1 0)).toArray 25)).alloc (by simp) (.cells (opdL (memOpd ((rm : Int) + (E : Int)) (-1) 1 0)).toArray 25)
  exact ⟨H.out.below bb, Ch.of_below bb⟩
set_option maxRecDepth 100000 in
set_option maxHeartbeats 2000000 in
theorem smB_x1 (g : Nat) (I I1 : In) (W0 w : World) (rm : Nat) (E : Nat) (v : Int) (h : IAt W0 w g I) (hrm : rm < 8) (h4 : rm ≠ 4) (h5 : rm ≠ 5) (hE : E ≤ 8) (C0 : Hid (∀ W, IAt W0 W g I → Calls Tryd.prog 87 #[.pointer (some ⟨g, 0, none⟩), .int .i64 0] W fun e w' => e = .returned (.int .i64 (E : Int)) ∧ W = w')) (CN : Hid (∀ W, IAt W0 W g I → Calls Tryd.prog 83 #[.pointer (some ⟨g, 0, none⟩), .int .i64 1] W fun e w' => e = .returned (.int .i64 v) ∧ IWr W0 W w' g I1)) :
    Calls Tryd.prog 88 #[.pointer (some ⟨g, 0, none⟩), .int .i64 1, .int .i64 (rm : Int)] w fun e w' => e = .returned (V7 (memOpd ((rm : Int) + (E : Int)) (-1) 1 v)) ∧ IWr W0 w w' g I1 := by
  have H := Lib.hid h
  have A0 := Lib.hid (h.alloc (.cells #[.int .i64 0, .int .i64 0, .int .i64 0, .int .i64 0, .int .i64 0, .int .i64 0, .int .i64 0] 25))
  have M1 := Lib.hid (IMS.newX h ((rm : Int) + (E : Int)) (-1) 1 0)
  have hE' : (E : Int) ≤ 8 := by omega
  have d4 : ((rm : Int) == 4) = false := beq_eq_false_iff_ne.mpr (by omega)
  have d5 : ((rm : Int) == 5) = false := beq_eq_false_iff_ne.mpr (by omega)
  have hrm' : (rm : Int) < 8 := by omega
  clear h hrm h4 h5 hE
  go_enter Tryd.func88, Tryd.ntmps88
  go_wp2_with fail
  refine Calls.mono (C0.out _ A0.out) ?_
  rintro e w1 ⟨rfl, rfl⟩
  have x0 := M1.out.xb.cell 0; have x1 := M1.out.xb.cell 1; have x2 := M1.out.xb.cell 2; have x3 := M1.out.xb.cell 3; have x4 := M1.out.xb.cell 4; have x5 := M1.out.xb.cell 5; have x6 := M1.out.xb.cell 6
  simp only [opdL, memOpd, List.getElem?_toArray, List.getElem?_cons_zero, List.getElem?_cons_succ] at x0 x1 x2 x3 x4 x5 x6
  have f2 := M1.out.xb.free 2; have f3 := M1.out.xb.free 3; have f4 := M1.out.xb.free 4; have f5 := M1.out.xb.free 5
  go_wp2_with fail
  refine Calls.mono (CN.out _ M1.out.at') ?_
  rintro e w3 ⟨rfl, h3⟩
  have M3 := Lib.hid (M1.out.wr h3)
  clear h3
  clear x0 x1 x2 x3 x4 x5 x6 f2 f3 f4 f5
  have x0 := M3.out.xb.cell 0; have x1 := M3.out.xb.cell 1; have x2 := M3.out.xb.cell 2; have x3 := M3.out.xb.cell 3; have x4 := M3.out.xb.cell 4; have x5 := M3.out.xb.cell 5; have x6 := M3.out.xb.cell 6
  simp only [opdL, memOpd, List.getElem?_toArray, List.getElem?_cons_zero, List.getElem?_cons_succ] at x0 x1 x2 x3 x4 x5 x6
  have f2 := M3.out.xb.free 2; have f3 := M3.out.xb.free 3; have f4 := M3.out.xb.free 4; have f5 := M3.out.xb.free 5
  have M4 := Lib.hid (M3.out.set (y := memOpd ((rm : Int) + (E : Int)) (-1) 1 v) 5 (.int .i64 v) rfl)
  have HZ := Lib.hid (M4.out.zo H.out)
  go_wp2_with (first | refine wpList_store_row rfl 25 (.tmp 6) (.tmp 71) rfl w.heap.size (opdL (memOpd ((rm : Int) + (E : Int)) (-1) 1 v)).toArray rfl rfl 25 _ HZ.out (by kernel_rfl) rfl (opd_one _) ?_)
  refine bodyPost_ret (v := .agg (opdL (memOpd ((rm : Int) + (E : Int)) (-1) 1 v)).toArray) (by exact results_cell_row Tryd.results88 _ _ w.heap.size 25 (opdL (memOpd ((rm : Int) + (E : Int)) (-1) 1 v)).toArray (0, 0) _ rfl (setRow_heap _ _ _ _ _ _ HZ.out) Tryd.underlying25 rfl (by kernel_rfl)) (by rfl) ⟨rfl, M4.out.fin H.out⟩
set_option maxRecDepth 100000 in
set_option maxHeartbeats 2000000 in
theorem smB_x2 (g : Nat) (I I1 : In) (W0 w : World) (rm : Nat) (E : Nat) (v : Int) (h : IAt W0 w g I) (hrm : rm < 8) (h4 : rm ≠ 4) (h5 : rm ≠ 5) (hE : E ≤ 8) (C0 : Hid (∀ W, IAt W0 W g I → Calls Tryd.prog 87 #[.pointer (some ⟨g, 0, none⟩), .int .i64 0] W fun e w' => e = .returned (.int .i64 (E : Int)) ∧ W = w')) (CN : Hid (∀ W, IAt W0 W g I → Calls Tryd.prog 83 #[.pointer (some ⟨g, 0, none⟩), .int .i64 4] W fun e w' => e = .returned (.int .i64 v) ∧ IWr W0 W w' g I1)) :
    Calls Tryd.prog 88 #[.pointer (some ⟨g, 0, none⟩), .int .i64 2, .int .i64 (rm : Int)] w fun e w' => e = .returned (V7 (memOpd ((rm : Int) + (E : Int)) (-1) 1 v)) ∧ IWr W0 w w' g I1 := by
  have H := Lib.hid h
  have A0 := Lib.hid (h.alloc (.cells #[.int .i64 0, .int .i64 0, .int .i64 0, .int .i64 0, .int .i64 0, .int .i64 0, .int .i64 0] 25))
  have M1 := Lib.hid (IMS.newX h ((rm : Int) + (E : Int)) (-1) 1 0)
  have hE' : (E : Int) ≤ 8 := by omega
  have d4 : ((rm : Int) == 4) = false := beq_eq_false_iff_ne.mpr (by omega)
  have d5 : ((rm : Int) == 5) = false := beq_eq_false_iff_ne.mpr (by omega)
  have hrm' : (rm : Int) < 8 := by omega
  clear h hrm h4 h5 hE
  go_enter Tryd.func88, Tryd.ntmps88
  go_wp2_with fail
  refine Calls.mono (C0.out _ A0.out) ?_
  rintro e w1 ⟨rfl, rfl⟩
  have x0 := M1.out.xb.cell 0; have x1 := M1.out.xb.cell 1; have x2 := M1.out.xb.cell 2; have x3 := M1.out.xb.cell 3; have x4 := M1.out.xb.cell 4; have x5 := M1.out.xb.cell 5; have x6 := M1.out.xb.cell 6
  simp only [opdL, memOpd, List.getElem?_toArray, List.getElem?_cons_zero, List.getElem?_cons_succ] at x0 x1 x2 x3 x4 x5 x6
  have f2 := M1.out.xb.free 2; have f3 := M1.out.xb.free 3; have f4 := M1.out.xb.free 4; have f5 := M1.out.xb.free 5
  go_wp2_with fail
  refine Calls.mono (CN.out _ M1.out.at') ?_
  rintro e w3 ⟨rfl, h3⟩
  have M3 := Lib.hid (M1.out.wr h3)
  clear h3
  clear x0 x1 x2 x3 x4 x5 x6 f2 f3 f4 f5
  have x0 := M3.out.xb.cell 0; have x1 := M3.out.xb.cell 1; have x2 := M3.out.xb.cell 2; have x3 := M3.out.xb.cell 3; have x4 := M3.out.xb.cell 4; have x5 := M3.out.xb.cell 5; have x6 := M3.out.xb.cell 6
  simp only [opdL, memOpd, List.getElem?_toArray, List.getElem?_cons_zero, List.getElem?_cons_succ] at x0 x1 x2 x3 x4 x5 x6
  have f2 := M3.out.xb.free 2; have f3 := M3.out.xb.free 3; have f4 := M3.out.xb.free 4; have f5 := M3.out.xb.free 5
  have M4 := Lib.hid (M3.out.set (y := memOpd ((rm : Int) + (E : Int)) (-1) 1 v) 5 (.int .i64 v) rfl)
  have HZ := Lib.hid (M4.out.zo H.out)
  go_wp2_with (first | refine wpList_store_row rfl 25 (.tmp 6) (.tmp 71) rfl w.heap.size (opdL (memOpd ((rm : Int) + (E : Int)) (-1) 1 v)).toArray rfl rfl 25 _ HZ.out (by kernel_rfl) rfl (opd_one _) ?_)
  refine bodyPost_ret (v := .agg (opdL (memOpd ((rm : Int) + (E : Int)) (-1) 1 v)).toArray) (by exact results_cell_row Tryd.results88 _ _ w.heap.size 25 (opdL (memOpd ((rm : Int) + (E : Int)) (-1) 1 v)).toArray (0, 0) _ rfl (setRow_heap _ _ _ _ _ _ HZ.out) Tryd.underlying25 rfl (by kernel_rfl)) (by rfl) ⟨rfl, M4.out.fin H.out⟩
set_option maxRecDepth 100000 in
set_option maxHeartbeats 2000000 in
theorem smB_50 (g : Nat) (I I1 : In) (W0 w : World) (E : Nat) (v : Int) (h : IAt W0 w g I)  (hE : E ≤ 8) (C0 : Hid (∀ W, IAt W0 W g I → Calls Tryd.prog 87 #[.pointer (some ⟨g, 0, none⟩), .int .i64 0] W fun e w' => e = .returned (.int .i64 (E : Int)) ∧ W = w')) (CN : Hid (∀ W, IAt W0 W g I → Calls Tryd.prog 83 #[.pointer (some ⟨g, 0, none⟩), .int .i64 4] W fun e w' => e = .returned (.int .i64 v) ∧ IWr W0 W w' g I1)) :
    Calls Tryd.prog 88 #[.pointer (some ⟨g, 0, none⟩), .int .i64 0, .int .i64 5] w fun e w' => e = .returned (V7 (memOpd 16 (-1) 1 v)) ∧ IWr W0 w w' g I1 := by
  have H := Lib.hid h
  have A0 := Lib.hid (h.alloc (.cells #[.int .i64 0, .int .i64 0, .int .i64 0, .int .i64 0, .int .i64 0, .int .i64 0, .int .i64 0] 25))
  have M1 := Lib.hid (IMS.newX h (5 + (E : Int)) (-1) 1 0)
  have hE' : (E : Int) ≤ 8 := by omega
  clear h hE
  go_enter Tryd.func88, Tryd.ntmps88
  go_wp2_with fail
  refine Calls.mono (C0.out _ A0.out) ?_
  rintro e w1 ⟨rfl, rfl⟩
  have M2 := Lib.hid (IMS.newX H.out 16 (-1) 1 0)
  have x0 := M1.out.xb.cell 0; have x1 := M1.out.xb.cell 1; have x2 := M1.out.xb.cell 2; have x3 := M1.out.xb.cell 3; have x4 := M1.out.xb.cell 4; have x5 := M1.out.xb.cell 5; have x6 := M1.out.xb.cell 6
  simp only [opdL, memOpd, List.getElem?_toArray, List.getElem?_cons_zero, List.getElem?_cons_succ] at x0 x1 x2 x3 x4 x5 x6
  have f2 := M1.out.xb.free 2; have f3 := M1.out.xb.free 3; have f4 := M1.out.xb.free 4; have f5 := M1.out.xb.free 5
  go_wp2_with fail
  refine Calls.mono (CN.out _ M2.out.at') ?_
  rintro e w3 ⟨rfl, h3⟩
  have M3 := Lib.hid (M2.out.wr h3)
  clear h3
  clear x0 x1 x2 x3 x4 x5 x6 f2 f3 f4 f5
  have x0 := M3.out.xb.cell 0; have x1 := M3.out.xb.cell 1; have x2 := M3.out.xb.cell 2; have x3 := M3.out.xb.cell 3; have x4 := M3.out.xb.cell 4; have x5 := M3.out.xb.cell 5; have x6 := M3.out.xb.cell 6
  simp only [opdL, memOpd, List.getElem?_toArray, List.getElem?_cons_zero, List.getElem?_cons_succ] at x0 x1 x2 x3 x4 x5 x6
  have f2 := M3.out.xb.free 2; have f3 := M3.out.xb.free 3; have f4 := M3.out.xb.free 4; have f5 := M3.out.xb.free 5
  have M4 := Lib.hid (M3.out.set (y := memOpd 16 (-1) 1 v) 5 (.int .i64 v) rfl)
  have HZ := Lib.hid (M4.out.zo H.out)
  go_wp2_with (first | refine wpList_store_row rfl 25 (.tmp 6) (.tmp 71) rfl w.heap.size (opdL (memOpd 16 (-1) 1 v)).toArray rfl rfl 25 _ HZ.out (by kernel_rfl) rfl (opd_one _) ?_)
  refine bodyPost_ret (v := .agg (opdL (memOpd 16 (-1) 1 v)).toArray) (by exact results_cell_row Tryd.results88 _ _ w.heap.size 25 (opdL (memOpd 16 (-1) 1 v)).toArray (0, 0) _ rfl (setRow_heap _ _ _ _ _ _ HZ.out) Tryd.underlying25 rfl (by kernel_rfl)) (by rfl) ⟨rfl, M4.out.fin H.out⟩
set_option maxRecDepth 100000 in
set_option maxHeartbeats 2000000 in
theorem smB_51 (g : Nat) (I I1 : In) (W0 w : World) (E : Nat) (v : Int) (h : IAt W0 w g I)  (hE : E ≤ 8) (C0 : Hid (∀ W, IAt W0 W g I → Calls Tryd.prog 87 #[.pointer (some ⟨g, 0, none⟩), .int .i64 0] W fun e w' => e = .returned (.int .i64 (E : Int)) ∧ W = w')) (CN : Hid (∀ W, IAt W0 W g I → Calls Tryd.prog 83 #[.pointer (some ⟨g, 0, none⟩), .int .i64 1] W fun e w' => e = .returned (.int .i64 v) ∧ IWr W0 W w' g I1)) :
    Calls Tryd.prog 88 #[.pointer (some ⟨g, 0, none⟩), .int .i64 1, .int .i64 5] w fun e w' => e = .returned (V7 (memOpd (5 + (E : Int)) (-1) 1 v)) ∧ IWr W0 w w' g I1 := by
  have H := Lib.hid h
  have A0 := Lib.hid (h.alloc (.cells #[.int .i64 0, .int .i64 0, .int .i64 0, .int .i64 0, .int .i64 0, .int .i64 0, .int .i64 0] 25))
  have M1 := Lib.hid (IMS.newX h (5 + (E : Int)) (-1) 1 0)
  have hE' : (E : Int) ≤ 8 := by omega
  clear h hE
  go_enter Tryd.func88, Tryd.ntmps88
  go_wp2_with fail
  refine Calls.mono (C0.out _ A0.out) ?_
  rintro e w1 ⟨rfl, rfl⟩
  have x0 := M1.out.xb.cell 0; have x1 := M1.out.xb.cell 1; have x2 := M1.out.xb.cell 2; have x3 := M1.out.xb.cell 3; have x4 := M1.out.xb.cell 4; have x5 := M1.out.xb.cell 5; have x6 := M1.out.xb.cell 6
  simp only [opdL, memOpd, List.getElem?_toArray, List.getElem?_cons_zero, List.getElem?_cons_succ] at x0 x1 x2 x3 x4 x5 x6
  have f2 := M1.out.xb.free 2; have f3 := M1.out.xb.free 3; have f4 := M1.out.xb.free 4; have f5 := M1.out.xb.free 5
  go_wp2_with fail
  refine Calls.mono (CN.out _ M1.out.at') ?_
  rintro e w3 ⟨rfl, h3⟩
  have M3 := Lib.hid (M1.out.wr h3)
  clear h3
  clear x0 x1 x2 x3 x4 x5 x6 f2 f3 f4 f5
  have x0 := M3.out.xb.cell 0; have x1 := M3.out.xb.cell 1; have x2 := M3.out.xb.cell 2; have x3 := M3.out.xb.cell 3; have x4 := M3.out.xb.cell 4; have x5 := M3.out.xb.cell 5; have x6 := M3.out.xb.cell 6
  simp only [opdL, memOpd, List.getElem?_toArray, List.getElem?_cons_zero, List.getElem?_cons_succ] at x0 x1 x2 x3 x4 x5 x6
  have f2 := M3.out.xb.free 2; have f3 := M3.out.xb.free 3; have f4 := M3.out.xb.free 4; have f5 := M3.out.xb.free 5
  have M4 := Lib.hid (M3.out.set (y := memOpd (5 + (E : Int)) (-1) 1 v) 5 (.int .i64 v) rfl)
  have HZ := Lib.hid (M4.out.zo H.out)
  go_wp2_with (first | refine wpList_store_row rfl 25 (.tmp 6) (.tmp 71) rfl w.heap.size (opdL (memOpd (5 + (E : Int)) (-1) 1 v)).toArray rfl rfl 25 _ HZ.out (by kernel_rfl) rfl (opd_one _) ?_)
  refine bodyPost_ret (v := .agg (opdL (memOpd (5 + (E : Int)) (-1) 1 v)).toArray) (by exact results_cell_row Tryd.results88 _ _ w.heap.size 25 (opdL (memOpd (5 + (E : Int)) (-1) 1 v)).toArray (0, 0) _ rfl (setRow_heap _ _ _ _ _ _ HZ.out) Tryd.underlying25 rfl (by kernel_rfl)) (by rfl) ⟨rfl, M4.out.fin H.out⟩
set_option maxRecDepth 100000 in
set_option maxHeartbeats 2000000 in
theorem smB_52 (g : Nat) (I I1 : In) (W0 w : World) (E : Nat) (v : Int) (h : IAt W0 w g I)  (hE : E ≤ 8) (C0 : Hid (∀ W, IAt W0 W g I → Calls Tryd.prog 87 #[.pointer (some ⟨g, 0, none⟩), .int .i64 0] W fun e w' => e = .returned (.int .i64 (E : Int)) ∧ W = w')) (CN : Hid (∀ W, IAt W0 W g I → Calls Tryd.prog 83 #[.pointer (some ⟨g, 0, none⟩), .int .i64 4] W fun e w' => e = .returned (.int .i64 v) ∧ IWr W0 W w' g I1)) :
    Calls Tryd.prog 88 #[.pointer (some ⟨g, 0, none⟩), .int .i64 2, .int .i64 5] w fun e w' => e = .returned (V7 (memOpd (5 + (E : Int)) (-1) 1 v)) ∧ IWr W0 w w' g I1 := by
  have H := Lib.hid h
  have A0 := Lib.hid (h.alloc (.cells #[.int .i64 0, .int .i64 0, .int .i64 0, .int .i64 0, .int .i64 0, .int .i64 0, .int .i64 0] 25))
  have M1 := Lib.hid (IMS.newX h (5 + (E : Int)) (-1) 1 0)
  have hE' : (E : Int) ≤ 8 := by omega
  clear h hE
  go_enter Tryd.func88, Tryd.ntmps88
  go_wp2_with fail
  refine Calls.mono (C0.out _ A0.out) ?_
  rintro e w1 ⟨rfl, rfl⟩
  have x0 := M1.out.xb.cell 0; have x1 := M1.out.xb.cell 1; have x2 := M1.out.xb.cell 2; have x3 := M1.out.xb.cell 3; have x4 := M1.out.xb.cell 4; have x5 := M1.out.xb.cell 5; have x6 := M1.out.xb.cell 6
  simp only [opdL, memOpd, List.getElem?_toArray, List.getElem?_cons_zero, List.getElem?_cons_succ] at x0 x1 x2 x3 x4 x5 x6
  have f2 := M1.out.xb.free 2; have f3 := M1.out.xb.free 3; have f4 := M1.out.xb.free 4; have f5 := M1.out.xb.free 5
  go_wp2_with fail
  refine Calls.mono (CN.out _ M1.out.at') ?_
  rintro e w3 ⟨rfl, h3⟩
  have M3 := Lib.hid (M1.out.wr h3)
  clear h3
  clear x0 x1 x2 x3 x4 x5 x6 f2 f3 f4 f5
  have x0 := M3.out.xb.cell 0; have x1 := M3.out.xb.cell 1; have x2 := M3.out.xb.cell 2; have x3 := M3.out.xb.cell 3; have x4 := M3.out.xb.cell 4; have x5 := M3.out.xb.cell 5; have x6 := M3.out.xb.cell 6
  simp only [opdL, memOpd, List.getElem?_toArray, List.getElem?_cons_zero, List.getElem?_cons_succ] at x0 x1 x2 x3 x4 x5 x6
  have f2 := M3.out.xb.free 2; have f3 := M3.out.xb.free 3; have f4 := M3.out.xb.free 4; have f5 := M3.out.xb.free 5
  have M4 := Lib.hid (M3.out.set (y := memOpd (5 + (E : Int)) (-1) 1 v) 5 (.int .i64 v) rfl)
  have HZ := Lib.hid (M4.out.zo H.out)
  go_wp2_with (first | refine wpList_store_row rfl 25 (.tmp 6) (.tmp 71) rfl w.heap.size (opdL (memOpd (5 + (E : Int)) (-1) 1 v)).toArray rfl rfl 25 _ HZ.out (by kernel_rfl) rfl (opd_one _) ?_)
  refine bodyPost_ret (v := .agg (opdL (memOpd (5 + (E : Int)) (-1) 1 v)).toArray) (by exact results_cell_row Tryd.results88 _ _ w.heap.size 25 (opdL (memOpd (5 + (E : Int)) (-1) 1 v)).toArray (0, 0) _ rfl (setRow_heap _ _ _ _ _ _ HZ.out) Tryd.underlying25 rfl (by kernel_rfl)) (by rfl) ⟨rfl, M4.out.fin H.out⟩
set_option maxRecDepth 100000 in
set_option maxHeartbeats 2000000 in
theorem smA_nx0 (g : Nat) (I I1 I2 : In) (W0 w : World) (b E E1 y : Nat) (v : Int) (h : IAt W0 w g I) (hb : b < 256) (hy : y = b / 8 % 8 + E1) (hi : y = 4) (h5 : b % 8 ≠ 5) (hE : E ≤ 8) (hE1 : E1 ≤ 8) (C0 : Hid (∀ W, IAt W0 W g I → Calls Tryd.prog 87 #[.pointer (some ⟨g, 0, none⟩), .int .i64 0] W fun e w' => e = .returned (.int .i64 (E : Int)) ∧ W = w')) (CB : Hid (∀ W, IAt W0 W g I → Calls Tryd.prog 48 #[.pointer (some ⟨g, 0, none⟩)] W fun e w' => e = .returned (.int .i64 (b : Int)) ∧ IWr W0 W w' g I1)) (C0' : Hid (∀ W, IAt W0 W g I1 → Calls Tryd.prog 87 #[.pointer (some ⟨g, 0, none⟩), .int .i64 0] W fun e w' => e = .returned (.int .i64 (E : Int)) ∧ W = w')) (C1 : Hid (∀ W, IAt W0 W g I1 → Calls Tryd.prog 87 #[.pointer (some ⟨g, 0, none⟩), .int .i64 1] W fun e w' => e = .returned (.int .i64 (E1 : Int)) ∧ W = w')) :
    Calls Tryd.prog 88 #[.pointer (some ⟨g, 0, none⟩), .int .i64 0, .int .i64 4] w fun e w' => e = .returned (V7 (memOpd ((b : Int) % 8 + (E : Int)) (-1) 1 0)) ∧ IWr W0 w w' g I1 := by
  have H := Lib.hid h
  have A0 := Lib.hid (h.alloc (.cells #[.int .i64 0, .int .i64 0, .int .i64 0, .int .i64 0, .int .i64 0, .int .i64 0, .int .i64 0] 25))
  have M1 := Lib.hid (IMS.newX h (4 + (E : Int)) (-1) 1 0)
  have HP := Lib.hid (pw64 b hb)
  have hb' : (b : Int) < 256 := by omega
  have hE' : (E : Int) ≤ 8 := by omega
  have hE1' : (E1 : Int) ≤ 8 := by omega
  have q88 : (b : Int) / 8 % 8 < 8 := by omega
  have y4 : (b : Int) / 8 % 8 + (E1 : Int) = 4 := by omega
  have d5 : ((b : Int) % 8 == 5) = false := beq_eq_false_iff_ne.mpr (by omega)
  clear h hb hy hi hE hE1 h5
  go_enter Tryd.func88, Tryd.ntmps88
  go_wp2_with fail
  refine Calls.mono (C0.out _ A0.out) ?_
  rintro e w1 ⟨rfl, rfl⟩
  go_wp2_with fail
  refine Calls.mono (CB.out _ M1.out.at') ?_
  rintro e w2 ⟨rfl, h2⟩
  have M2 := Lib.hid (M1.out.wr h2)
  clear h2
  go_wp2_with fail
  refine Calls.mono (C0'.out _ M2.out.at') ?_
  rintro e w3 ⟨rfl, rfl⟩
  have x0 := M2.out.xb.cell 0; have x1 := M2.out.xb.cell 1; have x2 := M2.out.xb.cell 2; have x3 := M2.out.xb.cell 3; have x4 := M2.out.xb.cell 4; have x5 := M2.out.xb.cell 5; have x6 := M2.out.xb.cell 6
  simp only [opdL, memOpd, List.getElem?_toArray, List.getElem?_cons_zero, List.getElem?_cons_succ] at x0 x1 x2 x3 x4 x5 x6
  have f2 := M2.out.xb.free 2; have f3 := M2.out.xb.free 3; have f4 := M2.out.xb.free 4; have f5 := M2.out.xb.free 5
  have M3 := Lib.hid (M2.out.set (y := memOpd ((b : Int) % 8 + (E : Int)) (-1) 1 0) 2 (.int .i64 ((b : Int) % 8 + (E : Int))) rfl)
  go_wp2_with fail
  refine Calls.mono (C1.out _ M3.out.at') ?_
  rintro e w4 ⟨rfl, rfl⟩
  clear x0 x1 x2 x3 x4 x5 x6 f2 f3 f4 f5
  have x0 := M3.out.xb.cell 0; have x1 := M3.out.xb.cell 1; have x2 := M3.out.xb.cell 2; have x3 := M3.out.xb.cell 3; have x4 := M3.out.xb.cell 4; have x5 := M3.out.xb.cell 5; have x6 := M3.out.xb.cell 6
  simp only [opdL, memOpd, List.getElem?_toArray, List.getElem?_cons_zero, List.getElem?_cons_succ] at x0 x1 x2 x3 x4 x5 x6
  have f2 := M3.out.xb.free 2; have f3 := M3.out.xb.free 3; have f4 := M3.out.xb.free 4; have f5 := M3.out.xb.free 5
  have M5 := M3
  have M4 := M5
  have HZ := Lib.hid (M4.out.zo H.out)
  go_wp2_with (first | refine wpList_store_row rfl 25 (.tmp 6) (.tmp 71) rfl w.heap.size (opdL (memOpd ((b : Int) % 8 + (E : Int)) (-1) 1 0)).toArray rfl rfl 25 _ HZ.out (by kernel_rfl) rfl (opd_one _) ?_)
  refine bodyPost_ret (v := .agg (opdL (memOpd ((b : Int) % 8 + (E : Int)) (-1) 1 0)).toArray) (by exact results_cell_row Tryd.results88 _ _ w.heap.size 25 (opdL (memOpd ((b : Int) % 8 + (E : Int)) (-1) 1 0)).toArray (0, 0) _ rfl (setRow_heap _ _ _ _ _ _ HZ.out) Tryd.underlying25 rfl (by kernel_rfl)) (by rfl) ⟨rfl, M4.out.fin H.out⟩
set_option maxRecDepth 100000 in
set_option maxHeartbeats 2000000 in
theorem smA_nx1 (g : Nat) (I I1 I2 : In) (W0 w : World) (b E E1 y : Nat) (v : Int) (h : IAt W0 w g I) (hb : b < 256) (hy : y = b / 8 % 8 + E1) (hi : y = 4) (h5 : b % 8 ≠ 5) (hE : E ≤ 8) (hE1 : E1 ≤ 8) (C0 : Hid (∀ W, IAt W0 W g I → Calls Tryd.prog 87 #[.pointer (some ⟨g, 0, none⟩), .int .i64 0] W fun e w' => e = .returned (.int .i64 (E : Int)) ∧ W = w')) (CB : Hid (∀ W, IAt W0 W g I → Calls Tryd.prog 48 #[.pointer (some ⟨g, 0, none⟩)] W fun e w' => e = .returned (.int .i64 (b : Int)) ∧ IWr W0 W w' g I1)) (C0' : Hid (∀ W, IAt W0 W g I1 → Calls Tryd.prog 87 #[.pointer (some ⟨g, 0, none⟩), .int .i64 0] W fun e w' => e = .returned (.int .i64 (E : Int)) ∧ W = w')) (C1 : Hid (∀ W, IAt W0 W g I1 → Calls Tryd.prog 87 #[.pointer (some ⟨g, 0, none⟩), .int .i64 1] W fun e w' => e = .returned (.int .i64 (E1 : Int)) ∧ W = w')) (CN : Hid (∀ W, IAt W0 W g I1 → Calls Tryd.prog 83 #[.pointer (some ⟨g, 0, none⟩), .int .i64 1] W fun e w' => e = .returned (.int .i64 v) ∧ IWr W0 W w' g I2)) :
    Calls Tryd.prog 88 #[.pointer (some ⟨g, 0, none⟩), .int .i64 1, .int .i64 4] w fun e w' => e = .returned (V7 (memOpd ((b : Int) % 8 + (E : Int)) (-1) 1 v)) ∧ IWr W0 w w' g I2 := by
  have H := Lib.hid h
  have A0 := Lib.hid (h.alloc (.cells #[.int .i64 0, .int .i64 0, .int .i64 0, .int .i64 0, .int .i64 0, .int .i64 0, .int .i64 0] 25))
  have M1 := Lib.hid (IMS.newX h (4 + (E : Int)) (-1) 1 0)
  have HP := Lib.hid (pw64 b hb)
  have hb' : (b : Int) < 256 := by omega
  have hE' : (E : Int) ≤ 8 := by omega
  have hE1' : (E1 : Int) ≤ 8 := by omega
  have q88 : (b : Int) / 8 % 8 < 8 := by omega
  have y4 : (b : Int) / 8 % 8 + (E1 : Int) = 4 := by omega
  have d5 : ((b : Int) % 8 == 5) = false := beq_eq_false_iff_ne.mpr (by omega)
  clear h hb hy hi hE hE1 h5
  go_enter Tryd.func88, Tryd.ntmps88
  go_wp2_with fail
  refine Calls.mono (C0.out _ A0.out) ?_
  rintro e w1 ⟨rfl, rfl⟩
  go_wp2_with fail
  refine Calls.mono (CB.out _ M1.out.at') ?_
  rintro e w2 ⟨rfl, h2⟩
  have M2 := Lib.hid (M1.out.wr h2)
  clear h2
  go_wp2_with fail
  refine Calls.mono (C0'.out _ M2.out.at') ?_
  rintro e w3 ⟨rfl, rfl⟩
  have x0 := M2.out.xb.cell 0; have x1 := M2.out.xb.cell 1; have x2 := M2.out.xb.cell 2; have x3 := M2.out.xb.cell 3; have x4 := M2.out.xb.cell 4; have x5 := M2.out.xb.cell 5; have x6 := M2.out.xb.cell 6
  simp only [opdL, memOpd, List.getElem?_toArray, List.getElem?_cons_zero, List.getElem?_cons_succ] at x0 x1 x2 x3 x4 x5 x6
  have f2 := M2.out.xb.free 2; have f3 := M2.out.xb.free 3; have f4 := M2.out.xb.free 4; have f5 := M2.out.xb.free 5
  have M3 := Lib.hid (M2.out.set (y := memOpd ((b : Int) % 8 + (E : Int)) (-1) 1 0) 2 (.int .i64 ((b : Int) % 8 + (E : Int))) rfl)
  go_wp2_with fail
  refine Calls.mono (C1.out _ M3.out.at') ?_
  rintro e w4 ⟨rfl, rfl⟩
  clear x0 x1 x2 x3 x4 x5 x6 f2 f3 f4 f5
  have x0 := M3.out.xb.cell 0; have x1 := M3.out.xb.cell 1; have x2 := M3.out.xb.cell 2; have x3 := M3.out.xb.cell 3; have x4 := M3.out.xb.cell 4; have x5 := M3.out.xb.cell 5; have x6 := M3.out.xb.cell 6
  simp only [opdL, memOpd, List.getElem?_toArray, List.getElem?_cons_zero, List.getElem?_cons_succ] at x0 x1 x2 x3 x4 x5 x6
  have f2 := M3.out.xb.free 2; have f3 := M3.out.xb.free 3; have f4 := M3.out.xb.free 4; have f5 := M3.out.xb.free 5
  have M5 := M3
  go_wp2_with fail
  refine Calls.mono (CN.out _ M5.out.at') ?_
  rintro e w5 ⟨rfl, h5⟩
  have M7 := Lib.hid (M5.out.wr h5)
  clear h5
  clear x0 x1 x2 x3 x4 x5 x6 f2 f3 f4 f5
  have x0 := M7.out.xb.cell 0; have x1 := M7.out.xb.cell 1; have x2 := M7.out.xb.cell 2; have x3 := M7.out.xb.cell 3; have x4 := M7.out.xb.cell 4; have x5 := M7.out.xb.cell 5; have x6 := M7.out.xb.cell 6
  simp only [opdL, memOpd, List.getElem?_toArray, List.getElem?_cons_zero, List.getElem?_cons_succ] at x0 x1 x2 x3 x4 x5 x6
  have f2 := M7.out.xb.free 2; have f3 := M7.out.xb.free 3; have f4 := M7.out.xb.free 4; have f5 := M7.out.xb.free 5
  have M4 := Lib.hid (M7.out.set (y := memOpd ((b : Int) % 8 + (E : Int)) (-1) 1 v) 5 (.int .i64 v) rfl)
  have HZ := Lib.hid (M4.out.zo H.out)
  go_wp2_with (first | refine wpList_store_row rfl 25 (.tmp 6) (.tmp 71) rfl w.heap.size (opdL (memOpd ((b : Int) % 8 + (E : Int)) (-1) 1 v)).toArray rfl rfl 25 _ HZ.out (by kernel_rfl) rfl (opd_one _) ?_)
  refine bodyPost_ret (v := .agg (opdL (memOpd ((b : Int) % 8 + (E : Int)) (-1) 1 v)).toArray) (by exact results_cell_row Tryd.results88 _ _ w.heap.size 25 (opdL (memOpd ((b : Int) % 8 + (E : Int)) (-1) 1 v)).toArray (0, 0) _ rfl (setRow_heap _ _ _ _ _ _ HZ.out) Tryd.underlying25 rfl (by kernel_rfl)) (by rfl) ⟨rfl, M4.out.fin H.out⟩
set_option maxRecDepth 100000 in
set_option maxHeartbeats 2000000 in
theorem smA_nx2 (g : Nat) (I I1 I2 : In) (W0 w : World) (b E E1 y : Nat) (v : Int) (h : IAt W0 w g I) (hb : b < 256) (hy : y = b / 8 % 8 + E1) (hi : y = 4) (h5 : b % 8 ≠ 5) (hE : E ≤ 8) (hE1 : E1 ≤ 8) (C0 : Hid (∀ W, IAt W0 W g I → Calls Tryd.prog 87 #[.pointer (some ⟨g, 0, none⟩), .int .i64 0] W fun e w' => e = .returned (.int .i64 (E : Int)) ∧ W = w')) (CB : Hid (∀ W, IAt W0 W g I → Calls Tryd.prog 48 #[.pointer (some ⟨g, 0, none⟩)] W fun e w' => e = .returned (.int .i64 (b : Int)) ∧ IWr W0 W w' g I1)) (C0' : Hid (∀ W, IAt W0 W g I1 → Calls Tryd.prog 87 #[.pointer (some ⟨g, 0, none⟩), .int .i64 0] W fun e w' => e = .returned (.int .i64 (E : Int)) ∧ W = w')) (C1 : Hid (∀ W, IAt W0 W g I1 → Calls Tryd.prog 87 #[.pointer (some ⟨g, 0, none⟩), .int .i64 1] W fun e w' => e = .returned (.int .i64 (E1 : Int)) ∧ W = w')) (CN : Hid (∀ W, IAt W0 W g I1 → Calls Tryd.prog 83 #[.pointer (some ⟨g, 0, none⟩), .int .i64 4] W fun e w' => e = .returned (.int .i64 v) ∧ IWr W0 W w' g I2)) :
    Calls Tryd.prog 88 #[.pointer (some ⟨g, 0, none⟩), .int .i64 2, .int .i64 4] w fun e w' => e = .returned (V7 (memOpd ((b : Int) % 8 + (E : Int)) (-1) 1 v)) ∧ IWr W0 w w' g I2 := by
  have H := Lib.hid h
  have A0 := Lib.hid (h.alloc (.cells #[.int .i64 0, .int .i64 0, .int .i64 0, .int .i64 0, .int .i64 0, .int .i64 0, .int .i64 0] 25))
  have M1 := Lib.hid (IMS.newX h (4 + (E : Int)) (-1) 1 0)
  have HP := Lib.hid (pw64 b hb)
  have hb' : (b : Int) < 256 := by omega
  have hE' : (E : Int) ≤ 8 := by omega
  have hE1' : (E1 : Int) ≤ 8 := by omega
  have q88 : (b : Int) / 8 % 8 < 8 := by omega
  have y4 : (b : Int) / 8 % 8 + (E1 : Int) = 4 := by omega
  have d5 : ((b : Int) % 8 == 5) = false := beq_eq_false_iff_ne.mpr (by omega)
  clear h hb hy hi hE hE1 h5
  go_enter Tryd.func88, Tryd.ntmps88
  go_wp2_with fail
  refine Calls.mono (C0.out _ A0.out) ?_
  rintro e w1 ⟨rfl, rfl⟩
  go_wp2_with fail
  refine Calls.mono (CB.out _ M1.out.at') ?_
  rintro e w2 ⟨rfl, h2⟩
  have M2 := Lib.hid (M1.out.wr h2)
  clear h2
  go_wp2_with fail
  refine Calls.mono (C0'.out _ M2.out.at') ?_
  rintro e w3 ⟨rfl, rfl⟩
  have x0 := M2.out.xb.cell 0; have x1 := M2.out.xb.cell 1; have x2 := M2.out.xb.cell 2; have x3 := M2.out.xb.cell 3; have x4 := M2.out.xb.cell 4; have x5 := M2.out.xb.cell 5; have x6 := M2.out.xb.cell 6
  simp only [opdL, memOpd, List.getElem?_toArray, List.getElem?_cons_zero, List.getElem?_cons_succ] at x0 x1 x2 x3 x4 x5 x6
  have f2 := M2.out.xb.free 2; have f3 := M2.out.xb.free 3; have f4 := M2.out.xb.free 4; have f5 := M2.out.xb.free 5
  have M3 := Lib.hid (M2.out.set (y := memOpd ((b : Int) % 8 + (E : Int)) (-1) 1 0) 2 (.int .i64 ((b : Int) % 8 + (E : Int))) rfl)
  go_wp2_with fail
  refine Calls.mono (C1.out _ M3.out.at') ?_
  rintro e w4 ⟨rfl, rfl⟩
  clear x0 x1 x2 x3 x4 x5 x6 f2 f3 f4 f5
  have x0 := M3.out.xb.cell 0; have x1 := M3.out.xb.cell 1; have x2 := M3.out.xb.cell 2; have x3 := M3.out.xb.cell 3; have x4 := M3.out.xb.cell 4; have x5 := M3.out.xb.cell 5; have x6 := M3.out.xb.cell 6
  simp only [opdL, memOpd, List.getElem?_toArray, List.getElem?_cons_zero, List.getElem?_cons_succ] at x0 x1 x2 x3 x4 x5 x6
  have f2 := M3.out.xb.free 2; have f3 := M3.out.xb.free 3; have f4 := M3.out.xb.free 4; have f5 := M3.out.xb.free 5
  have M5 := M3
  go_wp2_with fail
  refine Calls.mono (CN.out _ M5.out.at') ?_
  rintro e w5 ⟨rfl, h5⟩
  have M7 := Lib.hid (M5.out.wr h5)
  clear h5
  clear x0 x1 x2 x3 x4 x5 x6 f2 f3 f4 f5
  have x0 := M7.out.xb.cell 0; have x1 := M7.out.xb.cell 1; have x2 := M7.out.xb.cell 2; have x3 := M7.out.xb.cell 3; have x4 := M7.out.xb.cell 4; have x5 := M7.out.xb.cell 5; have x6 := M7.out.xb.cell 6
  simp only [opdL, memOpd, List.getElem?_toArray, List.getElem?_cons_zero, List.getElem?_cons_succ] at x0 x1 x2 x3 x4 x5 x6
  have f2 := M7.out.xb.free 2; have f3 := M7.out.xb.free 3; have f4 := M7.out.xb.free 4; have f5 := M7.out.xb.free 5
  have M4 := Lib.hid (M7.out.set (y := memOpd ((b : Int) % 8 + (E : Int)) (-1) 1 v) 5 (.int .i64 v) rfl)
  have HZ := Lib.hid (M4.out.zo H.out)
  go_wp2_with (first | refine wpList_store_row rfl 25 (.tmp 6) (.tmp 71) rfl w.heap.size (opdL (memOpd ((b : Int) % 8 + (E : Int)) (-1) 1 v)).toArray rfl rfl 25 _ HZ.out (by kernel_rfl) rfl (opd_one _) ?_)
  refine bodyPost_ret (v := .agg (opdL (memOpd ((b : Int) % 8 + (E : Int)) (-1) 1 v)).toArray) (by exact results_cell_row Tryd.results88 _ _ w.heap.size 25 (opdL (memOpd ((b : Int) % 8 + (E : Int)) (-1) 1 v)).toArray (0, 0) _ rfl (setRow_heap _ _ _ _ _ _ HZ.out) Tryd.underlying25 rfl (by kernel_rfl)) (by rfl) ⟨rfl, M4.out.fin H.out⟩
set_option maxRecDepth 100000 in
set_option maxHeartbeats 2000000 in
theorem smA_n50 (g : Nat) (I I1 I2 : In) (W0 w : World) (b E E1 y : Nat) (v : Int) (h : IAt W0 w g I) (hb : b < 256) (hy : y = b / 8 % 8 + E1) (hi : y = 4) (h5 : b % 8 = 5) (hE : E ≤ 8) (hE1 : E1 ≤ 8) (C0 : Hid (∀ W, IAt W0 W g I → Calls Tryd.prog 87 #[.pointer (some ⟨g, 0, none⟩), .int .i64 0] W fun e w' => e = .returned (.int .i64 (E : Int)) ∧ W = w')) (CB : Hid (∀ W, IAt W0 W g I → Calls Tryd.prog 48 #[.pointer (some ⟨g, 0, none⟩)] W fun e w' => e = .returned (.int .i64 (b : Int)) ∧ IWr W0 W w' g I1)) (C0' : Hid (∀ W, IAt W0 W g I1 → Calls Tryd.prog 87 #[.pointer (some ⟨g, 0, none⟩), .int .i64 0] W fun e w' => e = .returned (.int .i64 (E : Int)) ∧ W = w')) (C1 : Hid (∀ W, IAt W0 W g I1 → Calls Tryd.prog 87 #[.pointer (some ⟨g, 0, none⟩), .int .i64 1] W fun e w' => e = .returned (.int .i64 (E1 : Int)) ∧ W = w')) (CN : Hid (∀ W, IAt W0 W g I1 → Calls Tryd.prog 83 #[.pointer (some ⟨g, 0, none⟩), .int .i64 4] W fun e w' => e = .returned (.int .i64 v) ∧ IWr W0 W w' g I2)) :
    Calls Tryd.prog 88 #[.pointer (some ⟨g, 0, none⟩), .int .i64 0, .int .i64 4] w fun e w' => e = .returned (V7 (memOpd (-1) (-1) 1 v)) ∧ IWr W0 w w' g I2 := by
  have H := Lib.hid h
  have A0 := Lib.hid (h.alloc (.cells #[.int .i64 0, .int .i64 0, .int .i64 0, .int .i64 0, .int .i64 0, .int .i64 0, .int .i64 0] 25))
  have M1 := Lib.hid (IMS.newX h (4 + (E : Int)) (-1) 1 0)
  have HP := Lib.hid (pw64 b hb)
  have hb' : (b : Int) < 256 := by omega
  have hE' : (E : Int) ≤ 8 := by omega
  have hE1' : (E1 : Int) ≤ 8 := by omega
  have q88 : (b : Int) / 8 % 8 < 8 := by omega
  have y4 : (b : Int) / 8 % 8 + (E1 : Int) = 4 := by omega
  have d5 : (b : Int) % 8 = 5 := by omega
  clear h hb hy hi hE hE1 h5
  go_enter Tryd.func88, Tryd.ntmps88
  go_wp2_with fail
  refine Calls.mono (C0.out _ A0.out) ?_
  rintro e w1 ⟨rfl, rfl⟩
  go_wp2_with fail
  refine Calls.mono (CB.out _ M1.out.at') ?_
  rintro e w2 ⟨rfl, h2⟩
  have M2 := Lib.hid (M1.out.wr h2)
  clear h2
  go_wp2_with fail
  refine Calls.mono (C0'.out _ M2.out.at') ?_
  rintro e w3 ⟨rfl, rfl⟩
  have x0 := M2.out.xb.cell 0; have x1 := M2.out.xb.cell 1; have x2 := M2.out.xb.cell 2; have x3 := M2.out.xb.cell 3; have x4 := M2.out.xb.cell 4; have x5 := M2.out.xb.cell 5; have x6 := M2.out.xb.cell 6
  simp only [opdL, memOpd, List.getElem?_toArray, List.getElem?_cons_zero, List.getElem?_cons_succ] at x0 x1 x2 x3 x4 x5 x6
  have f2 := M2.out.xb.free 2; have f3 := M2.out.xb.free 3; have f4 := M2.out.xb.free 4; have f5 := M2.out.xb.free 5
  have M3 := Lib.hid (M2.out.set (y := memOpd (5 + (E : Int)) (-1) 1 0) 2 (.int .i64 (5 + (E : Int))) rfl)
  go_wp2_with fail
  refine Calls.mono (C1.out _ M3.out.at') ?_
  rintro e w4 ⟨rfl, rfl⟩
  clear x0 x1 x2 x3 x4 x5 x6 f2 f3 f4 f5
  have x0 := M3.out.xb.cell 0; have x1 := M3.out.xb.cell 1; have x2 := M3.out.xb.cell 2; have x3 := M3.out.xb.cell 3; have x4 := M3.out.xb.cell 4; have x5 := M3.out.xb.cell 5; have x6 := M3.out.xb.cell 6
  simp only [opdL, memOpd, List.getElem?_toArray, List.getElem?_cons_zero, List.getElem?_cons_succ] at x0 x1 x2 x3 x4 x5 x6
  have f2 := M3.out.xb.free 2; have f3 := M3.out.xb.free 3; have f4 := M3.out.xb.free 4; have f5 := M3.out.xb.free 5
  have M5 := M3
  have M6 := Lib.hid (M5.out.set (y := memOpd (-1) (-1) 1 0) 2 (.int .i64 (-1)) rfl)
  go_wp2_with fail
  refine Calls.mono (CN.out _ M6.out.at') ?_
  rintro e w5 ⟨rfl, h5⟩
  have M7 := Lib.hid (M6.out.wr h5)
  clear h5
  clear x0 x1 x2 x3 x4 x5 x6 f2 f3 f4 f5
  have x0 := M7.out.xb.cell 0; have x1 := M7.out.xb.cell 1; have x2 := M7.out.xb.cell 2; have x3 := M7.out.xb.cell 3; have x4 := M7.out.xb.cell 4; have x5 := M7.out.xb.cell 5; have x6 := M7.out.xb.cell 6
  simp only [opdL, memOpd, List.getElem?_toArray, List.getElem?_cons_zero, List.getElem?_cons_succ] at x0 x1 x2 x3 x4 x5 x6
  have f2 := M7.out.xb.free 2; have f3 := M7.out.xb.free 3; have f4 := M7.out.xb.free 4; have f5 := M7.out.xb.free 5
  have M4 := Lib.hid (M7.out.set (y := memOpd (-1) (-1) 1 v) 5 (.int .i64 v) rfl)
  have HZ := Lib.hid (M4.out.zo H.out)
  go_wp2_with (first | refine wpList_store_row rfl 25 (.tmp 6) (.tmp 71) rfl w.heap.size (opdL (memOpd (-1) (-1) 1 v)).toArray rfl rfl 25 _ HZ.out (by kernel_rfl) rfl (opd_one _) ?_)
  refine bodyPost_ret (v := .agg (opdL (memOpd (-1) (-1) 1 v)).toArray) (by exact results_cell_row Tryd.results88 _ _ w.heap.size 25 (opdL (memOpd (-1) (-1) 1 v)).toArray (0, 0) _ rfl (setRow_heap _ _ _ _ _ _ HZ.out) Tryd.underlying25 rfl (by kernel_rfl)) (by rfl) ⟨rfl, M4.out.fin H.out⟩
set_option maxRecDepth 100000 in
set_option maxHeartbeats 2000000 in
theorem smA_n51 (g : Nat) (I I1 I2 : In) (W0 w : World) (b E E1 y : Nat) (v : Int) (h : IAt W0 w g I) (hb : b < 256) (hy : y = b / 8 % 8 + E1) (hi : y = 4) (h5 : b % 8 = 5) (hE : E ≤ 8) (hE1 : E1 ≤ 8) (C0 : Hid (∀ W, IAt W0 W g I → Calls Tryd.prog 87 #[.pointer (some ⟨g, 0, none⟩), .int .i64 0] W fun e w' => e = .returned (.int .i64 (E : Int)) ∧ W = w')) (CB : Hid (∀ W, IAt W0 W g I → Calls Tryd.prog 48 #[.pointer (some ⟨g, 0, none⟩)] W fun e w' => e = .returned (.int .i64 (b : Int)) ∧ IWr W0 W w' g I1)) (C0' : Hid (∀ W, IAt W0 W g I1 → Calls Tryd.prog 87 #[.pointer (some ⟨g, 0, none⟩), .int .i64 0] W fun e w' => e = .returned (.int .i64 (E : Int)) ∧ W = w')) (C1 : Hid (∀ W, IAt W0 W g I1 → Calls Tryd.prog 87 #[.pointer (some ⟨g, 0, none⟩), .int .i64 1] W fun e w' => e = .returned (.int .i64 (E1 : Int)) ∧ W = w')) (CN : Hid (∀ W, IAt W0 W g I1 → Calls Tryd.prog 83 #[.pointer (some ⟨g, 0, none⟩), .int .i64 1] W fun e w' => e = .returned (.int .i64 v) ∧ IWr W0 W w' g I2)) :
    Calls Tryd.prog 88 #[.pointer (some ⟨g, 0, none⟩), .int .i64 1, .int .i64 4] w fun e w' => e = .returned (V7 (memOpd (5 + (E : Int)) (-1) 1 v)) ∧ IWr W0 w w' g I2 := by
  have H := Lib.hid h
  have A0 := Lib.hid (h.alloc (.cells #[.int .i64 0, .int .i64 0, .int .i64 0, .int .i64 0, .int .i64 0, .int .i64 0, .int .i64 0] 25))
  have M1 := Lib.hid (IMS.newX h (4 + (E : Int)) (-1) 1 0)
  have HP := Lib.hid (pw64 b hb)
  have hb' : (b : Int) < 256 := by omega
  have hE' : (E : Int) ≤ 8 := by omega
  have hE1' : (E1 : Int) ≤ 8 := by omega
  have q88 : (b : Int) / 8 % 8 < 8 := by omega
  have y4 : (b : Int) / 8 % 8 + (E1 : Int) = 4 := by omega
  have d5 : (b : Int) % 8 = 5 := by omega
  clear h hb hy hi hE hE1 h5
  go_enter Tryd.func88, Tryd.ntmps88
  go_wp2_with fail
  refine Calls.mono (C0.out _ A0.out) ?_
  rintro e w1 ⟨rfl, rfl⟩
  go_wp2_with fail
  refine Calls.mono (CB.out _ M1.out.at') ?_
  rintro e w2 ⟨rfl, h2⟩
  have M2 := Lib.hid (M1.out.wr h2)
  clear h2
  go_wp2_with fail
  refine Calls.mono (C0'.out _ M2.out.at') ?_
  rintro e w3 ⟨rfl, rfl⟩
  have x0 := M2.out.xb.cell 0; have x1 := M2.out.xb.cell 1; have x2 := M2.out.xb.cell 2; have x3 := M2.out.xb.cell 3; have x4 := M2.out.xb.cell 4; have x5 := M2.out.xb.cell 5; have x6 := M2.out.xb.cell 6
  simp only [opdL, memOpd, List.getElem?_toArray, List.getElem?_cons_zero, List.getElem?_cons_succ] at x0 x1 x2 x3 x4 x5 x6
  have f2 := M2.out.xb.free 2; have f3 := M2.out.xb.free 3; have f4 := M2.out.xb.free 4; have f5 := M2.out.xb.free 5
  have M3 := Lib.hid (M2.out.set (y := memOpd (5 + (E : Int)) (-1) 1 0) 2 (.int .i64 (5 + (E : Int))) rfl)
  go_wp2_with fail
  refine Calls.mono (C1.out _ M3.out.at') ?_
  rintro e w4 ⟨rfl, rfl⟩
  clear x0 x1 x2 x3 x4 x5 x6 f2 f3 f4 f5
  have x0 := M3.out.xb.cell 0; have x1 := M3.out.xb.cell 1; have x2 := M3.out.xb.cell 2; have x3 := M3.out.xb.cell 3; have x4 := M3.out.xb.cell 4; have x5 := M3.out.xb.cell 5; have x6 := M3.out.xb.cell 6
  simp only [opdL, memOpd, List.getElem?_toArray, List.getElem?_cons_zero, List.getElem?_cons_succ] at x0 x1 x2 x3 x4 x5 x6
  have f2 := M3.out.xb.free 2; have f3 := M3.out.xb.free 3; have f4 := M3.out.xb.free 4; have f5 := M3.out.xb.free 5
  have M5 := M3
  go_wp2_with fail
  refine Calls.mono (CN.out _ M5.out.at') ?_
  rintro e w5 ⟨rfl, h5⟩
  have M7 := Lib.hid (M5.out.wr h5)
  clear h5
  clear x0 x1 x2 x3 x4 x5 x6 f2 f3 f4 f5
  have x0 := M7.out.xb.cell 0; have x1 := M7.out.xb.cell 1; have x2 := M7.out.xb.cell 2; have x3 := M7.out.xb.cell 3; have x4 := M7.out.xb.cell 4; have x5 := M7.out.xb.cell 5; have x6 := M7.out.xb.cell 6
  simp only [opdL, memOpd, List.getElem?_toArray, List.getElem?_cons_zero, List.getElem?_cons_succ] at x0 x1 x2 x3 x4 x5 x6
  have f2 := M7.out.xb.free 2; have f3 := M7.out.xb.free 3; have f4 := M7.out.xb.free 4; have f5 := M7.out.xb.free 5
  have M4 := Lib.hid (M7.out.set (y := memOpd (5 + (E : Int)) (-1) 1 v) 5 (.int .i64 v) rfl)
  have HZ := Lib.hid (M4.out.zo H.out)
  go_wp2_with (first | refine wpList_store_row rfl 25 (.tmp 6) (.tmp 71) rfl w.heap.size (opdL (memOpd (5 + (E : Int)) (-1) 1 v)).toArray rfl rfl 25 _ HZ.out (by kernel_rfl) rfl (opd_one _) ?_)
  refine bodyPost_ret (v := .agg (opdL (memOpd (5 + (E : Int)) (-1) 1 v)).toArray) (by exact results_cell_row Tryd.results88 _ _ w.heap.size 25 (opdL (memOpd (5 + (E : Int)) (-1) 1 v)).toArray (0, 0) _ rfl (setRow_heap _ _ _ _ _ _ HZ.out) Tryd.underlying25 rfl (by kernel_rfl)) (by rfl) ⟨rfl, M4.out.fin H.out⟩
set_option maxRecDepth 100000 in
set_option maxHeartbeats 2000000 in
theorem smA_n52 (g : Nat) (I I1 I2 : In) (W0 w : World) (b E E1 y : Nat) (v : Int) (h : IAt W0 w g I) (hb : b < 256) (hy : y = b / 8 % 8 + E1) (hi : y = 4) (h5 : b % 8 = 5) (hE : E ≤ 8) (hE1 : E1 ≤ 8) (C0 : Hid (∀ W, IAt W0 W g I → Calls Tryd.prog 87 #[.pointer (some ⟨g, 0, none⟩), .int .i64 0] W fun e w' => e = .returned (.int .i64 (E : Int)) ∧ W = w')) (CB : Hid (∀ W, IAt W0 W g I → Calls Tryd.prog 48 #[.pointer (some ⟨g, 0, none⟩)] W fun e w' => e = .returned (.int .i64 (b : Int)) ∧ IWr W0 W w' g I1)) (C0' : Hid (∀ W, IAt W0 W g I1 → Calls Tryd.prog 87 #[.pointer (some ⟨g, 0, none⟩), .int .i64 0] W fun e w' => e = .returned (.int .i64 (E : Int)) ∧ W = w')) (C1 : Hid (∀ W, IAt W0 W g I1 → Calls Tryd.prog 87 #[.pointer (some ⟨g, 0, none⟩), .int .i64 1] W fun e w' => e = .returned (.int .i64 (E1 : Int)) ∧ W = w')) (CN : Hid (∀ W, IAt W0 W g I1 → Calls Tryd.prog 83 #[.pointer (some ⟨g, 0, none⟩), .int .i64 4] W fun e w' => e = .returned (.int .i64 v) ∧ IWr W0 W w' g I2)) :
    Calls Tryd.prog 88 #[.pointer (some ⟨g, 0, none⟩), .int .i64 2, .int .i64 4] w fun e w' => e = .returned (V7 (memOpd (5 + (E : Int)) (-1) 1 v)) ∧ IWr W0 w w' g I2 := by
  have H := Lib.hid h
  have A0 := Lib.hid (h.alloc (.cells #[.int .i64 0, .int .i64 0, .int .i64 0, .int .i64 0, .int .i64 0, .int .i64 0, .int .i64 0] 25))
  have M1 := Lib.hid (IMS.newX h (4 + (E : Int)) (-1) 1 0)
  have HP := Lib.hid (pw64 b hb)
  have hb' : (b : Int) < 256 := by omega
  have hE' : (E : Int) ≤ 8 := by omega
  have hE1' : (E1 : Int) ≤ 8 := by omega
  have q88 : (b : Int) / 8 % 8 < 8 := by omega
  have y4 : (b : Int) / 8 % 8 + (E1 : Int) = 4 := by omega
  have d5 : (b : Int) % 8 = 5 := by omega
  clear h hb hy hi hE hE1 h5
  go_enter Tryd.func88, Tryd.ntmps88
  go_wp2_with fail
  refine Calls.mono (C0.out _ A0.out) ?_
  rintro e w1 ⟨rfl, rfl⟩
  go_wp2_with fail
  refine Calls.mono (CB.out _ M1.out.at') ?_
  rintro e w2 ⟨rfl, h2⟩
  have M2 := Lib.hid (M1.out.wr h2)
  clear h2
  go_wp2_with fail
  refine Calls.mono (C0'.out _ M2.out.at') ?_
  rintro e w3 ⟨rfl, rfl⟩
  have x0 := M2.out.xb.cell 0; have x1 := M2.out.xb.cell 1; have x2 := M2.out.xb.cell 2; have x3 := M2.out.xb.cell 3; have x4 := M2.out.xb.cell 4; have x5 := M2.out.xb.cell 5; have x6 := M2.out.xb.cell 6
  simp only [opdL, memOpd, List.getElem?_toArray, List.getElem?_cons_zero, List.getElem?_cons_succ] at x0 x1 x2 x3 x4 x5 x6
  have f2 := M2.out.xb.free 2; have f3 := M2.out.xb.free 3; have f4 := M2.out.xb.free 4; have f5 := M2.out.xb.free 5
  have M3 := Lib.hid (M2.out.set (y := memOpd (5 + (E : Int)) (-1) 1 0) 2 (.int .i64 (5 + (E : Int))) rfl)
  go_wp2_with fail
  refine Calls.mono (C1.out _ M3.out.at') ?_
  rintro e w4 ⟨rfl, rfl⟩
  clear x0 x1 x2 x3 x4 x5 x6 f2 f3 f4 f5
  have x0 := M3.out.xb.cell 0; have x1 := M3.out.xb.cell 1; have x2 := M3.out.xb.cell 2; have x3 := M3.out.xb.cell 3; have x4 := M3.out.xb.cell 4; have x5 := M3.out.xb.cell 5; have x6 := M3.out.xb.cell 6
  simp only [opdL, memOpd, List.getElem?_toArray, List.getElem?_cons_zero, List.getElem?_cons_succ] at x0 x1 x2 x3 x4 x5 x6
  have f2 := M3.out.xb.free 2; have f3 := M3.out.xb.free 3; have f4 := M3.out.xb.free 4; have f5 := M3.out.xb.free 5
  have M5 := M3
  go_wp2_with fail
  refine Calls.mono (CN.out _ M5.out.at') ?_
  rintro e w5 ⟨rfl, h5⟩
  have M7 := Lib.hid (M5.out.wr h5)
  clear h5
  clear x0 x1 x2 x3 x4 x5 x6 f2 f3 f4 f5
  have x0 := M7.out.xb.cell 0; have x1 := M7.out.xb.cell 1; have x2 := M7.out.xb.cell 2; have x3 := M7.out.xb.cell 3; have x4 := M7.out.xb.cell 4; have x5 := M7.out.xb.cell 5; have x6 := M7.out.xb.cell 6
  simp only [opdL, memOpd, List.getElem?_toArray, List.getElem?_cons_zero, List.getElem?_cons_succ] at x0 x1 x2 x3 x4 x5 x6
  have f2 := M7.out.xb.free 2; have f3 := M7.out.xb.free 3; have f4 := M7.out.xb.free 4; have f5 := M7.out.xb.free 5
  have M4 := Lib.hid (M7.out.set (y := memOpd (5 + (E : Int)) (-1) 1 v) 5 (.int .i64 v) rfl)
  have HZ := Lib.hid (M4.out.zo H.out)
  go_wp2_with (first | refine wpList_store_row rfl 25 (.tmp 6) (.tmp 71) rfl w.heap.size (opdL (memOpd (5 + (E : Int)) (-1) 1 v)).toArray rfl rfl 25 _ HZ.out (by kernel_rfl) rfl (opd_one _) ?_)
  refine bodyPost_ret (v := .agg (opdL (memOpd (5 + (E : Int)) (-1) 1 v)).toArray) (by exact results_cell_row Tryd.results88 _ _ w.heap.size 25 (opdL (memOpd (5 + (E : Int)) (-1) 1 v)).toArray (0, 0) _ rfl (setRow_heap _ _ _ _ _ _ HZ.out) Tryd.underlying25 rfl (by kernel_rfl)) (by rfl) ⟨rfl, M4.out.fin H.out⟩
set_option maxRecDepth 100000 in
set_option maxHeartbeats 2000000 in
theorem smA_ix0 (g : Nat) (I I1 I2 : In) (W0 w : World) (b E E1 y : Nat) (v : Int) (h : IAt W0 w g I) (hb : b < 256) (hy : y = b / 8 % 8 + E1) (hi : y ≠ 4) (h5 : b % 8 ≠ 5) (hE : E ≤ 8) (hE1 : E1 ≤ 8) (C0 : Hid (∀ W, IAt W0 W g I → Calls Tryd.prog 87 #[.pointer (some ⟨g, 0, none⟩), .int .i64 0] W fun e w' => e = .returned (.int .i64 (E : Int)) ∧ W = w')) (CB : Hid (∀ W, IAt W0 W g I → Calls Tryd.prog 48 #[.pointer (some ⟨g, 0, none⟩)] W fun e w' => e = .returned (.int .i64 (b : Int)) ∧ IWr W0 W w' g I1)) (C0' : Hid (∀ W, IAt W0 W g I1 → Calls Tryd.prog 87 #[.pointer (some ⟨g, 0, none⟩), .int .i64 0] W fun e w' => e = .returned (.int .i64 (E : Int)) ∧ W = w')) (C1 : Hid (∀ W, IAt W0 W g I1 → Calls Tryd.prog 87 #[.pointer (some ⟨g, 0, none⟩), .int .i64 1] W fun e w' => e = .returned (.int .i64 (E1 : Int)) ∧ W = w')) :
    Calls Tryd.prog 88 #[.pointer (some ⟨g, 0, none⟩), .int .i64 0, .int .i64 4] w fun e w' => e = .returned (V7 (memOpd ((b : Int) % 8 + (E : Int)) (y : Int) (2 ^ (b / 64)) 0)) ∧ IWr W0 w w' g I1 := by
  have H := Lib.hid h
  have A0 := Lib.hid (h.alloc (.cells #[.int .i64 0, .int .i64 0, .int .i64 0, .int .i64 0, .int .i64 0, .int .i64 0, .int .i64 0] 25))
  have M1 := Lib.hid (IMS.newX h (4 + (E : Int)) (-1) 1 0)
  have HP := Lib.hid (pw64 b hb)
  have hb' : (b : Int) < 256 := by omega
  have hE' : (E : Int) ≤ 8 := by omega
  have hE1' : (E1 : Int) ≤ 8 := by omega
  have q88 : (b : Int) / 8 % 8 < 8 := by omega
  have y4 : ((b : Int) / 8 % 8 + (E1 : Int) != 4) = true := bne_iff_ne.mpr (by omega)
  have HYY : Hid ((b : Int) / 8 % 8 + (E1 : Int) = (y : Int)) := Lib.hid (by omega)
  have d5 : ((b : Int) % 8 == 5) = false := beq_eq_false_iff_ne.mpr (by omega)
  clear h hb hy hi hE hE1 h5
  go_enter Tryd.func88, Tryd.ntmps88
  go_wp2_with fail
  refine Calls.mono (C0.out _ A0.out) ?_
  rintro e w1 ⟨rfl, rfl⟩
  go_wp2_with fail
  refine Calls.mono (CB.out _ M1.out.at') ?_
  rintro e w2 ⟨rfl, h2⟩
  have M2 := Lib.hid (M1.out.wr h2)
  clear h2
  go_wp2_with fail
  refine Calls.mono (C0'.out _ M2.out.at') ?_
  rintro e w3 ⟨rfl, rfl⟩
  have x0 := M2.out.xb.cell 0; have x1 := M2.out.xb.cell 1; have x2 := M2.out.xb.cell 2; have x3 := M2.out.xb.cell 3; have x4 := M2.out.xb.cell 4; have x5 := M2.out.xb.cell 5; have x6 := M2.out.xb.cell 6
  simp only [opdL, memOpd, List.getElem?_toArray, List.getElem?_cons_zero, List.getElem?_cons_succ] at x0 x1 x2 x3 x4 x5 x6
  have f2 := M2.out.xb.free 2; have f3 := M2.out.xb.free 3; have f4 := M2.out.xb.free 4; have f5 := M2.out.xb.free 5
  have M3 := Lib.hid (M2.out.set (y := memOpd ((b : Int) % 8 + (E : Int)) (-1) 1 0) 2 (.int .i64 ((b : Int) % 8 + (E : Int))) rfl)
  go_wp2_with fail
  refine Calls.mono (C1.out _ M3.out.at') ?_
  rintro e w4 ⟨rfl, rfl⟩
  clear x0 x1 x2 x3 x4 x5 x6 f2 f3 f4 f5
  have x0 := M3.out.xb.cell 0; have x1 := M3.out.xb.cell 1; have x2 := M3.out.xb.cell 2; have x3 := M3.out.xb.cell 3; have x4 := M3.out.xb.cell 4; have x5 := M3.out.xb.cell 5; have x6 := M3.out.xb.cell 6
  simp only [opdL, memOpd, List.getElem?_toArray, List.getElem?_cons_zero, List.getElem?_cons_succ] at x0 x1 x2 x3 x4 x5 x6
  have f2 := M3.out.xb.free 2; have f3 := M3.out.xb.free 3; have f4 := M3.out.xb.free 4; have f5 := M3.out.xb.free 5
  have M5 := Lib.hid ((M3.out.set (y := memOpd ((b : Int) % 8 + (E : Int)) (y : Int) 1 0) 3 (.int .i64 ((b : Int) / 8 % 8 + (E1 : Int))) (by rw [HYY.out]; rfl)).set (y := memOpd ((b : Int) % 8 + (E : Int)) (y : Int) (2 ^ (b / 64)) 0) 4 (.int .i64 (wrap64 (2 ^ (b / 64)))) (by rw [HP.out]; rfl))
  have hd : (0 : Int) ≤ (b : Int) / 64 := Int.ediv_nonneg (by omega) (by omega)
  go_upto_region 19 with fail
  have m4 := M5.out
  generalize ((w2.setCell ⟨w.heap.size + 1, 2, none⟩ (.int .i64 ((b : Int) % 8 + (E : Int)))).setCell ⟨w.heap.size + 1, 3, none⟩ (.int .i64 ((b : Int) / 8 % 8 + (E1 : Int)))).setCell ⟨w.heap.size + 1, 4, none⟩ (.int .i64 (wrap64 (2 ^ (b / 64)))) = W at m4 ⊢
  clear M5 M3 M2
  clear x0 x1 x2 x3 x4 x5 x6 f2 f3 f4 f5
  have M4 := Lib.hid m4
  clear m4
  have x0 := M4.out.xb.cell 0; have x1 := M4.out.xb.cell 1; have x2 := M4.out.xb.cell 2; have x3 := M4.out.xb.cell 3; have x4 := M4.out.xb.cell 4; have x5 := M4.out.xb.cell 5; have x6 := M4.out.xb.cell 6
  simp only [opdL, memOpd, List.getElem?_toArray, List.getElem?_cons_zero, List.getElem?_cons_succ] at x0 x1 x2 x3 x4 x5 x6
  have f2 := M4.out.xb.free 2; have f3 := M4.out.xb.free 3; have f4 := M4.out.xb.free 4; have f5 := M4.out.xb.free 5
  have HZ := Lib.hid (M4.out.zo H.out)
  go_wp2_with (first | refine wpList_store_row rfl 25 (.tmp 6) (.tmp 71) rfl w.heap.size (opdL (memOpd ((b : Int) % 8 + (E : Int)) (y : Int) (2 ^ (b / 64)) 0)).toArray rfl rfl 25 _ HZ.out (by kernel_rfl) rfl (opd_one _) ?_)
  refine bodyPost_ret (v := .agg (opdL (memOpd ((b : Int) % 8 + (E : Int)) (y : Int) (2 ^ (b / 64)) 0)).toArray) (by exact results_cell_row Tryd.results88 _ _ w.heap.size 25 (opdL (memOpd ((b : Int) % 8 + (E : Int)) (y : Int) (2 ^ (b / 64)) 0)).toArray (0, 0) _ rfl (setRow_heap _ _ _ _ _ _ HZ.out) Tryd.underlying25 rfl (by kernel_rfl)) (by rfl) ⟨rfl, M4.out.fin H.out⟩
set_option maxRecDepth 100000 in
set_option maxHeartbeats 2000000 in
theorem smA_ix1 (g : Nat) (I I1 I2 : In) (W0 w : World) (b E E1 y : Nat) (v : Int) (h : IAt W0 w g I) (hb : b < 256) (hy : y = b / 8 % 8 + E1) (hi : y ≠ 4) (h5 : b % 8 ≠ 5) (hE : E ≤ 8) (hE1 : E1 ≤ 8) (C0 : Hid (∀ W, IAt W0 W g I → Calls Tryd.prog 87 #[.pointer (some ⟨g, 0, none⟩), .int .i64 0] W fun e w' => e = .returned (.int .i64 (E : Int)) ∧ W = w')) (CB : Hid (∀ W, IAt W0 W g I → Calls Tryd.prog 48 #[.pointer (some ⟨g, 0, none⟩)] W fun e w' => e = .returned (.int .i64 (b : Int)) ∧ IWr W0 W w' g I1)) (C0' : Hid (∀ W, IAt W0 W g I1 → Calls Tryd.prog 87 #[.pointer (some ⟨g, 0, none⟩), .int .i64 0] W fun e w' => e = .returned (.int .i64 (E : Int)) ∧ W = w')) (C1 : Hid (∀ W, IAt W0 W g I1 → Calls Tryd.prog 87 #[.pointer (some ⟨g, 0, none⟩), .int .i64 1] W fun e w' => e = .returned (.int .i64 (E1 : Int)) ∧ W = w')) (CN : Hid (∀ W, IAt W0 W g I1 → Calls Tryd.prog 83 #[.pointer (some ⟨g, 0, none⟩), .int .i64 1] W fun e w' => e = .returned (.int .i64 v) ∧ IWr W0 W w' g I2)) :
    Calls Tryd.prog 88 #[.pointer (some ⟨g, 0, none⟩), .int .i64 1, .int .i64 4] w fun e w' => e = .returned (V7 (memOpd ((b : Int) % 8 + (E : Int)) (y : Int) (2 ^ (b / 64)) v)) ∧ IWr W0 w w' g I2 := by
  have H := Lib.hid h
  have A0 := Lib.hid (h.alloc (.cells #[.int .i64 0, .int .i64 0, .int .i64 0, .int .i64 0, .int .i64 0, .int .i64 0, .int .i64 0] 25))
  have M1 := Lib.hid (IMS.newX h (4 + (E : Int)) (-1) 1 0)
  have HP := Lib.hid (pw64 b hb)
  have hb' : (b : Int) < 256 := by omega
  have hE' : (E : Int) ≤ 8 := by omega
  have hE1' : (E1 : Int) ≤ 8 := by omega
  have q88 : (b : Int) / 8 % 8 < 8 := by omega
  have y4 : ((b : Int) / 8 % 8 + (E1 : Int) != 4) = true := bne_iff_ne.mpr (by omega)
  have HYY : Hid ((b : Int) / 8 % 8 + (E1 : Int) = (y : Int)) := Lib.hid (by omega)
  have d5 : ((b : Int) % 8 == 5) = false := beq_eq_false_iff_ne.mpr (by omega)
  clear h hb hy hi hE hE1 h5
  go_enter Tryd.func88, Tryd.ntmps88
  go_wp2_with fail
  refine Calls.mono (C0.out _ A0.out) ?_
  rintro e w1 ⟨rfl, rfl⟩
  go_wp2_with fail
  refine Calls.mono (CB.out _ M1.out.at') ?_
  rintro e w2 ⟨rfl, h2⟩
  have M2 := Lib.hid (M1.out.wr h2)
  clear h2
  go_wp2_with fail
  refine Calls.mono (C0'.out _ M2.out.at') ?_
  rintro e w3 ⟨rfl, rfl⟩
  have x0 := M2.out.xb.cell 0; have x1 := M2.out.xb.cell 1; have x2 := M2.out.xb.cell 2; have x3 := M2.out.xb.cell 3; have x4 := M2.out.xb.cell 4; have x5 := M2.out.xb.cell 5; have x6 := M2.out.xb.cell 6
  simp only [opdL, memOpd, List.getElem?_toArray, List.getElem?_cons_zero, List.getElem?_cons_succ] at x0 x1 x2 x3 x4 x5 x6
  have f2 := M2.out.xb.free 2; have f3 := M2.out.xb.free 3; have f4 := M2.out.xb.free 4; have f5 := M2.out.xb.free 5
  have M3 := Lib.hid (M2.out.set (y := memOpd ((b : Int) % 8 + (E : Int)) (-1) 1 0) 2 (.int .i64 ((b : Int) % 8 + (E : Int))) rfl)
  go_wp2_with fail
  refine Calls.mono (C1.out _ M3.out.at') ?_
  rintro e w4 ⟨rfl, rfl⟩
  clear x0 x1 x2 x3 x4 x5 x6 f2 f3 f4 f5
  have x0 := M3.out.xb.cell 0; have x1 := M3.out.xb.cell 1; have x2 := M3.out.xb.cell 2; have x3 := M3.out.xb.cell 3; have x4 := M3.out.xb.cell 4; have x5 := M3.out.xb.cell 5; have x6 := M3.out.xb.cell 6
  simp only [opdL, memOpd, List.getElem?_toArray, List.getElem?_cons_zero, List.getElem?_cons_succ] at x0 x1 x2 x3 x4 x5 x6
  have f2 := M3.out.xb.free 2; have f3 := M3.out.xb.free 3; have f4 := M3.out.xb.free 4; have f5 := M3.out.xb.free 5
  have M5 := Lib.hid ((M3.out.set (y := memOpd ((b : Int) % 8 + (E : Int)) (y : Int) 1 0) 3 (.int .i64 ((b : Int) / 8 % 8 + (E1 : Int))) (by rw [HYY.out]; rfl)).set (y := memOpd ((b : Int) % 8 + (E : Int)) (y : Int) (2 ^ (b / 64)) 0) 4 (.int .i64 (wrap64 (2 ^ (b / 64)))) (by rw [HP.out]; rfl))
  have hd : (0 : Int) ≤ (b : Int) / 64 := Int.ediv_nonneg (by omega) (by omega)
  go_wp2_with fail
  refine Calls.mono (CN.out _ M5.out.at') ?_
  rintro e w5 ⟨rfl, h5⟩
  have M7 := Lib.hid (M5.out.wr h5)
  clear h5
  clear x0 x1 x2 x3 x4 x5 x6 f2 f3 f4 f5
  have x0 := M7.out.xb.cell 0; have x1 := M7.out.xb.cell 1; have x2 := M7.out.xb.cell 2; have x3 := M7.out.xb.cell 3; have x4 := M7.out.xb.cell 4; have x5 := M7.out.xb.cell 5; have x6 := M7.out.xb.cell 6
  simp only [opdL, memOpd, List.getElem?_toArray, List.getElem?_cons_zero, List.getElem?_cons_succ] at x0 x1 x2 x3 x4 x5 x6
  have f2 := M7.out.xb.free 2; have f3 := M7.out.xb.free 3; have f4 := M7.out.xb.free 4; have f5 := M7.out.xb.free 5
  have M4 := Lib.hid (M7.out.set (y := memOpd ((b : Int) % 8 + (E : Int)) (y : Int) (2 ^ (b / 64)) v) 5 (.int .i64 v) rfl)
  have HZ := Lib.hid (M4.out.zo H.out)
  go_wp2_with (first | refine wpList_store_row rfl 25 (.tmp 6) (.tmp 71) rfl w.heap.size (opdL (memOpd ((b : Int) % 8 + (E : Int)) (y : Int) (2 ^ (b / 64)) v)).toArray rfl rfl 25 _ HZ.out (by kernel_rfl) rfl (opd_one _) ?_)
  refine bodyPost_ret (v := .agg (opdL (memOpd ((b : Int) % 8 + (E : Int)) (y : Int) (2 ^ (b / 64)) v)).toArray) (by exact results_cell_row Tryd.results88 _ _ w.heap.size 25 (opdL (memOpd ((b : Int) % 8 + (E : Int)) (y : Int) (2 ^ (b / 64)) v)).toArray (0, 0) _ rfl (setRow_heap _ _ _ _ _ _ HZ.out) Tryd.underlying25 rfl (by kernel_rfl)) (by rfl) ⟨rfl, M4.out.fin H.out⟩
set_option maxRecDepth 100000 in
set_option maxHeartbeats 2000000 in
theorem smA_ix2 (g : Nat) (I I1 I2 : In) (W0 w : World) (b E E1 y : Nat) (v : Int) (h : IAt W0 w g I) (hb : b < 256) (hy : y = b / 8 % 8 + E1) (hi : y ≠ 4) (h5 : b % 8 ≠ 5) (hE : E ≤ 8) (hE1 : E1 ≤ 8) (C0 : Hid (∀ W, IAt W0 W g I → Calls Tryd.prog 87 #[.pointer (some ⟨g, 0, none⟩), .int .i64 0] W fun e w' => e = .returned (.int .i64 (E : Int)) ∧ W = w')) (CB : Hid (∀ W, IAt W0 W g I → Calls Tryd.prog 48 #[.pointer (some ⟨g, 0, none⟩)] W fun e w' => e = .returned (.int .i64 (b : Int)) ∧ IWr W0 W w' g I1)) (C0' : Hid (∀ W, IAt W0 W g I1 → Calls Tryd.prog 87 #[.pointer (some ⟨g, 0, none⟩), .int .i64 0] W fun e w' => e = .returned (.int .i64 (E : Int)) ∧ W = w')) (C1 : Hid (∀ W, IAt W0 W g I1 → Calls Tryd.prog 87 #[.pointer (some ⟨g, 0, none⟩), .int .i64 1] W fun e w' => e = .returned (.int .i64 (E1 : Int)) ∧ W = w')) (CN : Hid (∀ W, IAt W0 W g I1 → Calls Tryd.prog 83 #[.pointer (some ⟨g, 0, none⟩), .int .i64 4] W fun e w' => e = .returned (.int .i64 v) ∧ IWr W0 W w' g I2)) :
    Calls Tryd.prog 88 #[.pointer (some ⟨g, 0, none⟩), .int .i64 2, .int .i64 4] w fun e w' => e = .returned (V7 (memOpd ((b : Int) % 8 + (E : Int)) (y : Int) (2 ^ (b / 64)) v)) ∧ IWr W0 w w' g I2 := by
  have H := Lib.hid h
  have A0 := Lib.hid (h.alloc (.cells #[.int .i64 0, .int .i64 0, .int .i64 0, .int .i64 0, .int .i64 0, .int .i64 0, .int .i64 0] 25))
  have M1 := Lib.hid (IMS.newX h (4 + (E : Int)) (-1) 1 0)
  have HP := Lib.hid (pw64 b hb)
  have hb' : (b : Int) < 256 := by omega
  have hE' : (E : Int) ≤ 8 := by omega
  have hE1' : (E1 : Int) ≤ 8 := by omega
  have q88 : (b : Int) / 8 % 8 < 8 := by omega
  have y4 : ((b : Int) / 8 % 8 + (E1 : Int) != 4) = true := bne_iff_ne.mpr (by omega)
  have HYY : Hid ((b : Int) / 8 % 8 + (E1 : Int) = (y : Int)) := Lib.hid (by omega)
  have d5 : ((b : Int) % 8 == 5) = false := beq_eq_false_iff_ne.mpr (by omega)
  clear h hb hy hi hE hE1 h5
  go_enter Tryd.func88, Tryd.ntmps88
  go_wp2_with fail
  refine Calls.mono (C0.out _ A0.out) ?_
  rintro e w1 ⟨rfl, rfl⟩
  go_wp2_with fail
  refine Calls.mono (CB.out _ M1.out.at') ?_
  rintro e w2 ⟨rfl, h2⟩
  have M2 := Lib.hid (M1.out.wr h2)
  clear h2
  go_wp2_with fail
  refine Calls.mono (C0'.out _ M2.out.at') ?_
  rintro e w3 ⟨rfl, rfl⟩
  have x0 := M2.out.xb.cell 0; have x1 := M2.out.xb.cell 1; have x2 := M2.out.xb.cell 2; have x3 := M2.out.xb.cell 3; have x4 := M2.out.xb.cell 4; have x5 := M2.out.xb.cell 5; have x6 := M2.out.xb.cell 6
  simp only [opdL, memOpd, List.getElem?_toArray, List.getElem?_cons_zero, List.getElem?_cons_succ] at x0 x1 x2 x3 x4 x5 x6
  have f2 := M2.out.xb.free 2; have f3 := M2.out.xb.free 3; have f4 := M2.out.xb.free 4; have f5 := M2.out.xb.free 5
  have M3 := Lib.hid (M2.out.set (y := memOpd ((b : Int) % 8 + (E : Int)) (-1) 1 0) 2 (.int .i64 ((b : Int) % 8 + (E : Int))) rfl)
  go_wp2_with fail
  refine Calls.mono (C1.out _ M3.out.at') ?_
  rintro e w4 ⟨rfl, rfl⟩
  clear x0 x1 x2 x3 x4 x5 x6 f2 f3 f4 f5
  have x0 := M3.out.xb.cell 0; have x1 := M3.out.xb.cell 1; have x2 := M3.out.xb.cell 2; have x3 := M3.out.xb.cell 3; have x4 := M3.out.xb.cell 4; have x5 := M3.out.xb.cell 5; have x6 := M3.out.xb.cell 6
  simp only [opdL, memOpd, List.getElem?_toArray, List.getElem?_cons_zero, List.getElem?_cons_succ] at x0 x1 x2 x3 x4 x5 x6
  have f2 := M3.out.xb.free 2; have f3 := M3.out.xb.free 3; have f4 := M3.out.xb.free 4; have f5 := M3.out.xb.free 5
  have M5 := Lib.hid ((M3.out.set (y := memOpd ((b : Int) % 8 + (E : Int)) (y : Int) 1 0) 3 (.int .i64 ((b : Int) / 8 % 8 + (E1 : Int))) (by rw [HYY.out]; rfl)).set (y := memOpd ((b : Int) % 8 + (E : Int)) (y : Int) (2 ^ (b / 64)) 0) 4 (.int .i64 (wrap64 (2 ^ (b / 64)))) (by rw [HP.out]; rfl))
  have hd : (0 : Int) ≤ (b : Int) / 64 := Int.ediv_nonneg (by omega) (by omega)
  go_wp2_with fail
  refine Calls.mono (CN.out _ M5.out.at') ?_
  rintro e w5 ⟨rfl, h5⟩
  have M7 := Lib.hid (M5.out.wr h5)
  clear h5
  clear x0 x1 x2 x3 x4 x5 x6 f2 f3 f4 f5
  have x0 := M7.out.xb.cell 0; have x1 := M7.out.xb.cell 1; have x2 := M7.out.xb.cell 2; have x3 := M7.out.xb.cell 3; have x4 := M7.out.xb.cell 4; have x5 := M7.out.xb.cell 5; have x6 := M7.out.xb.cell 6
  simp only [opdL, memOpd, List.getElem?_toArray, List.getElem?_cons_zero, List.getElem?_cons_succ] at x0 x1 x2 x3 x4 x5 x6
  have f2 := M7.out.xb.free 2; have f3 := M7.out.xb.free 3; have f4 := M7.out.xb.free 4; have f5 := M7.out.xb.free 5
  have M4 := Lib.hid (M7.out.set (y := memOpd ((b : Int) % 8 + (E : Int)) (y : Int) (2 ^ (b / 64)) v) 5 (.int .i64 v) rfl)
  have HZ := Lib.hid (M4.out.zo H.out)
  go_wp2_with (first | refine wpList_store_row rfl 25 (.tmp 6) (.tmp 71) rfl w.heap.size (opdL (memOpd ((b : Int) % 8 + (E : Int)) (y : Int) (2 ^ (b / 64)) v)).toArray rfl rfl 25 _ HZ.out (by kernel_rfl) rfl (opd_one _) ?_)
  refine bodyPost_ret (v := .agg (opdL (memOpd ((b : Int) % 8 + (E : Int)) (y : Int) (2 ^ (b / 64)) v)).toArray) (by exact results_cell_row Tryd.results88 _ _ w.heap.size 25 (opdL (memOpd ((b : Int) % 8 + (E : Int)) (y : Int) (2 ^ (b / 64)) v)).toArray (0, 0) _ rfl (setRow_heap _ _ _ _ _ _ HZ.out) Tryd.underlying25 rfl (by kernel_rfl)) (by rfl) ⟨rfl, M4.out.fin H.out⟩
set_option maxRecDepth 100000 in
set_option maxHeartbeats 2000000 in
theorem smA_i50 (g : Nat) (I I1 I2 : In) (W0 w : World) (b E E1 y : Nat) (v : Int) (h : IAt W0 w g I) (hb : b < 256) (hy : y = b / 8 % 8 + E1) (hi : y ≠ 4) (h5 : b % 8 = 5) (hE : E ≤ 8) (hE1 : E1 ≤ 8) (C0 : Hid (∀ W, IAt W0 W g I → Calls Tryd.prog 87 #[.pointer (some ⟨g, 0, none⟩), .int .i64 0] W fun e w' => e = .returned (.int .i64 (E : Int)) ∧ W = w')) (CB : Hid (∀ W, IAt W0 W g I → Calls Tryd.prog 48 #[.pointer (some ⟨g, 0, none⟩)] W fun e w' => e = .returned (.int .i64 (b : Int)) ∧ IWr W0 W w' g I1)) (C0' : Hid (∀ W, IAt W0 W g I1 → Calls Tryd.prog 87 #[.pointer (some ⟨g, 0, none⟩), .int .i64 0] W fun e w' => e = .returned (.int .i64 (E : Int)) ∧ W = w')) (C1 : Hid (∀ W, IAt W0 W g I1 → Calls Tryd.prog 87 #[.pointer (some ⟨g, 0, none⟩), .int .i64 1] W fun e w' => e = .returned (.int .i64 (E1 : Int)) ∧ W = w')) (CN : Hid (∀ W, IAt W0 W g I1 → Calls Tryd.prog 83 #[.pointer (some ⟨g, 0, none⟩), .int .i64 4] W fun e w' => e = .returned (.int .i64 v) ∧ IWr W0 W w' g I2)) :
    Calls Tryd.prog 88 #[.pointer (some ⟨g, 0, none⟩), .int .i64 0, .int .i64 4] w fun e w' => e = .returned (V7 (memOpd (-1) (y : Int) (2 ^ (b / 64)) v)) ∧ IWr W0 w w' g I2 := by
  have H := Lib.hid h
  have A0 := Lib.hid (h.alloc (.cells #[.int .i64 0, .int .i64 0, .int .i64 0, .int .i64 0, .int .i64 0, .int .i64 0, .int .i64 0] 25))
  have M1 := Lib.hid (IMS.newX h (4 + (E : Int)) (-1) 1 0)
  have HP := Lib.hid (pw64 b hb)
  have hb' : (b : Int) < 256 := by omega
  have hE' : (E : Int) ≤ 8 := by omega
  have hE1' : (E1 : Int) ≤ 8 := by omega
  have q88 : (b : Int) / 8 % 8 < 8 := by omega
  have y4 : ((b : Int) / 8 % 8 + (E1 : Int) != 4) = true := bne_iff_ne.mpr (by omega)
  have HYY : Hid ((b : Int) / 8 % 8 + (E1 : Int) = (y : Int)) := Lib.hid (by omega)
  have d5 : (b : Int) % 8 = 5 := by omega
  clear h hb hy hi hE hE1 h5
  go_enter Tryd.func88, Tryd.ntmps88
  go_wp2_with fail
  refine Calls.mono (C0.out _ A0.out) ?_
  rintro e w1 ⟨rfl, rfl⟩
  go_wp2_with fail
  refine Calls.mono (CB.out _ M1.out.at') ?_
  rintro e w2 ⟨rfl, h2⟩
  have M2 := Lib.hid (M1.out.wr h2)
  clear h2
  go_wp2_with fail
  refine Calls.mono (C0'.out _ M2.out.at') ?_
  rintro e w3 ⟨rfl, rfl⟩
  have x0 := M2.out.xb.cell 0; have x1 := M2.out.xb.cell 1; have x2 := M2.out.xb.cell 2; have x3 := M2.out.xb.cell 3; have x4 := M2.out.xb.cell 4; have x5 := M2.out.xb.cell 5; have x6 := M2.out.xb.cell 6
  simp only [opdL, memOpd, List.getElem?_toArray, List.getElem?_cons_zero, List.getElem?_cons_succ] at x0 x1 x2 x3 x4 x5 x6
  have f2 := M2.out.xb.free 2; have f3 := M2.out.xb.free 3; have f4 := M2.out.xb.free 4; have f5 := M2.out.xb.free 5
  have M3 := Lib.hid (M2.out.set (y := memOpd (5 + (E : Int)) (-1) 1 0) 2 (.int .i64 (5 + (E : Int))) rfl)
  go_wp2_with fail
  refine Calls.mono (C1.out _ M3.out.at') ?_
  rintro e w4 ⟨rfl, rfl⟩
  clear x0 x1 x2 x3 x4 x5 x6 f2 f3 f4 f5
  have x0 := M3.out.xb.cell 0; have x1 := M3.out.xb.cell 1; have x2 := M3.out.xb.cell 2; have x3 := M3.out.xb.cell 3; have x4 := M3.out.xb.cell 4; have x5 := M3.out.xb.cell 5; have x6 := M3.out.xb.cell 6
  simp only [opdL, memOpd, List.getElem?_toArray, List.getElem?_cons_zero, List.getElem?_cons_succ] at x0 x1 x2 x3 x4 x5 x6
  have f2 := M3.out.xb.free 2; have f3 := M3.out.xb.free 3; have f4 := M3.out.xb.free 4; have f5 := M3.out.xb.free 5
  have M5 := Lib.hid ((M3.out.set (y := memOpd (5 + (E : Int)) (y : Int) 1 0) 3 (.int .i64 ((b : Int) / 8 % 8 + (E1 : Int))) (by rw [HYY.out]; rfl)).set (y := memOpd (5 + (E : Int)) (y : Int) (2 ^ (b / 64)) 0) 4 (.int .i64 (wrap64 (2 ^ (b / 64)))) (by rw [HP.out]; rfl))
  have hd : (0 : Int) ≤ (b : Int) / 64 := Int.ediv_nonneg (by omega) (by omega)
  have M6 := Lib.hid (M5.out.set (y := memOpd (-1) (y : Int) (2 ^ (b / 64)) 0) 2 (.int .i64 (-1)) rfl)
  go_wp2_with fail
  refine Calls.mono (CN.out _ M6.out.at') ?_
  rintro e w5 ⟨rfl, h5⟩
  have M7 := Lib.hid (M6.out.wr h5)
  clear h5
  clear x0 x1 x2 x3 x4 x5 x6 f2 f3 f4 f5
  have x0 := M7.out.xb.cell 0; have x1 := M7.out.xb.cell 1; have x2 := M7.out.xb.cell 2; have x3 := M7.out.xb.cell 3; have x4 := M7.out.xb.cell 4; have x5 := M7.out.xb.cell 5; have x6 := M7.out.xb.cell 6
  simp only [opdL, memOpd, List.getElem?_toArray, List.getElem?_cons_zero, List.getElem?_cons_succ] at x0 x1 x2 x3 x4 x5 x6
  have f2 := M7.out.xb.free 2; have f3 := M7.out.xb.free 3; have f4 := M7.out.xb.free 4; have f5 := M7.out.xb.free 5
  have M4 := Lib.hid (M7.out.set (y := memOpd (-1) (y : Int) (2 ^ (b / 64)) v) 5 (.int .i64 v) rfl)
  have HZ := Lib.hid (M4.out.zo H.out)
  go_wp2_with (first | refine wpList_store_row rfl 25 (.tmp 6) (.tmp 71) rfl w.heap.size (opdL (memOpd (-1) (y : Int) (2 ^ (b / 64)) v)).toArray rfl rfl 25 _ HZ.out (by kernel_rfl) rfl (opd_one _) ?_)
  refine bodyPost_ret (v := .agg (opdL (memOpd (-1) (y : Int) (2 ^ (b / 64)) v)).toArray) (by exact results_cell_row Tryd.results88 _ _ w.heap.size 25 (opdL (memOpd (-1) (y : Int) (2 ^ (b / 64)) v)).toArray (0, 0) _ rfl (setRow_heap _ _ _ _ _ _ HZ.out) Tryd.underlying25 rfl (by kernel_rfl)) (by rfl) ⟨rfl, M4.out.fin H.out⟩
set_option maxRecDepth 100000 in
set_option maxHeartbeats 2000000 in
theorem smA_i51 (g : Nat) (I I1 I2 : In) (W0 w : World) (b E E1 y : Nat) (v : Int) (h : IAt W0 w g I) (hb : b < 256) (hy : y = b / 8 % 8 + E1) (hi : y ≠ 4) (h5 : b % 8 = 5) (hE : E ≤ 8) (hE1 : E1 ≤ 8) (C0 : Hid (∀ W, IAt W0 W g I → Calls Tryd.prog 87 #[.pointer (some ⟨g, 0, none⟩), .int .i64 0] W fun e w' => e = .returned (.int .i64 (E : Int)) ∧ W = w')) (CB : Hid (∀ W, IAt W0 W g I → Calls Tryd.prog 48 #[.pointer (some ⟨g, 0, none⟩)] W fun e w' => e = .returned (.int .i64 (b : Int)) ∧ IWr W0 W w' g I1)) (C0' : Hid (∀ W, IAt W0 W g I1 → Calls Tryd.prog 87 #[.pointer (some ⟨g, 0, none⟩), .int .i64 0] W fun e w' => e = .returned (.int .i64 (E : Int)) ∧ W = w')) (C1 : Hid (∀ W, IAt W0 W g I1 → Calls Tryd.prog 87 #[.pointer (some ⟨g, 0, none⟩), .int .i64 1] W fun e w' => e = .returned (.int .i64 (E1 : Int)) ∧ W = w')) (CN : Hid (∀ W, IAt W0 W g I1 → Calls Tryd.prog 83 #[.pointer (some ⟨g, 0, none⟩), .int .i64 1] W fun e w' => e = .returned (.int .i64 v) ∧ IWr W0 W w' g I2)) :
    Calls Tryd.prog 88 #[.pointer (some ⟨g, 0, none⟩), .int .i64 1, .int .i64 4] w fun e w' => e = .returned (V7 (memOpd (5 + (E : Int)) (y : Int) (2 ^ (b / 64)) v)) ∧ IWr W0 w w' g I2 := by
  have H := Lib.hid h
  have A0 := Lib.hid (h.alloc (.cells #[.int .i64 0, .int .i64 0, .int .i64 0, .int .i64 0, .int .i64 0, .int .i64 0, .int .i64 0] 25))
  have M1 := Lib.hid (IMS.newX h (4 + (E : Int)) (-1) 1 0)
  have HP := Lib.hid (pw64 b hb)
  have hb' : (b : Int) < 256 := by omega
  have hE' : (E : Int) ≤ 8 := by omega
  have hE1' : (E1 : Int) ≤ 8 := by omega
  have q88 : (b : Int) / 8 % 8 < 8 := by omega
  have y4 : ((b : Int) / 8 % 8 + (E1 : Int) != 4) = true := bne_iff_ne.mpr (by omega)
  have HYY : Hid ((b : Int) / 8 % 8 + (E1 : Int) = (y : Int)) := Lib.hid (by omega)
  have d5 : (b : Int) % 8 = 5 := by omega
  clear h hb hy hi hE hE1 h5
  go_enter Tryd.func88, Tryd.ntmps88
  go_wp2_with fail
  refine Calls.mono (C0.out _ A0.out) ?_
  rintro e w1 ⟨rfl, rfl⟩
  go_wp2_with fail
  refine Calls.mono (CB.out _ M1.out.at') ?_
  rintro e w2 ⟨rfl, h2⟩
  have M2 := Lib.hid (M1.out.wr h2)
  clear h2
  go_wp2_with fail
  refine Calls.mono (C0'.out _ M2.out.at') ?_
  rintro e w3 ⟨rfl, rfl⟩
  have x0 := M2.out.xb.cell 0; have x1 := M2.out.xb.cell 1; have x2 := M2.out.xb.cell 2; have x3 := M2.out.xb.cell 3; have x4 := M2.out.xb.cell 4; have x5 := M2.out.xb.cell 5; have x6 := M2.out.xb.cell 6
  simp only [opdL, memOpd, List.getElem?_toArray, List.getElem?_cons_zero, List.getElem?_cons_succ] at x0 x1 x2 x3 x4 x5 x6
  have f2 := M2.out.xb.free 2; have f3 := M2.out.xb.free 3; have f4 := M2.out.xb.free 4; have f5 := M2.out.xb.free 5
  have M3 := Lib.hid (M2.out.set (y := memOpd (5 + (E : Int)) (-1) 1 0) 2 (.int .i64 (5 + (E : Int))) rfl)
  go_wp2_with fail
  refine Calls.mono (C1.out _ M3.out.at') ?_
  rintro e w4 ⟨rfl, rfl⟩
  clear x0 x1 x2 x3 x4 x5 x6 f2 f3 f4 f5
  have x0 := M3.out.xb.cell 0; have x1 := M3.out.xb.cell 1; have x2 := M3.out.xb.cell 2; have x3 := M3.out.xb.cell 3; have x4 := M3.out.xb.cell 4; have x5 := M3.out.xb.cell 5; have x6 := M3.out.xb.cell 6
  simp only [opdL, memOpd, List.getElem?_toArray, List.getElem?_cons_zero, List.getElem?_cons_succ] at x0 x1 x2 x3 x4 x5 x6
  have f2 := M3.out.xb.free 2; have f3 := M3.out.xb.free 3; have f4 := M3.out.xb.free 4; have f5 := M3.out.xb.free 5
  have M5 := Lib.hid ((M3.out.set (y := memOpd (5 + (E : Int)) (y : Int) 1 0) 3 (.int .i64 ((b : Int) / 8 % 8 + (E1 : Int))) (by rw [HYY.out]; rfl)).set (y := memOpd (5 + (E : Int)) (y : Int) (2 ^ (b / 64)) 0) 4 (.int .i64 (wrap64 (2 ^ (b / 64)))) (by rw [HP.out]; rfl))
  have hd : (0 : Int) ≤ (b : Int) / 64 := Int.ediv_nonneg (by omega) (by omega)
  go_wp2_with fail
  refine Calls.mono (CN.out _ M5.out.at') ?_
  rintro e w5 ⟨rfl, h5⟩
  have M7 := Lib.hid (M5.out.wr h5)
  clear h5
  clear x0 x1 x2 x3 x4 x5 x6 f2 f3 f4 f5
  have x0 := M7.out.xb.cell 0; have x1 := M7.out.xb.cell 1; have x2 := M7.out.xb.cell 2; have x3 := M7.out.xb.cell 3; have x4 := M7.out.xb.cell 4; have x5 := M7.out.xb.cell 5; have x6 := M7.out.xb.cell 6
  simp only [opdL, memOpd, List.getElem?_toArray, List.getElem?_cons_zero, List.getElem?_cons_succ] at x0 x1 x2 x3 x4 x5 x6
  have f2 := M7.out.xb.free 2; have f3 := M7.out.xb.free 3; have f4 := M7.out.xb.free 4; have f5 := M7.out.xb.free 5
  have M4 := Lib.hid (M7.out.set (y := memOpd (5 + (E : Int)) (y : Int) (2 ^ (b / 64)) v) 5 (.int .i64 v) rfl)
  have HZ := Lib.hid (M4.out.zo H.out)
  go_wp2_with (first | refine wpList_store_row rfl 25 (.tmp 6) (.tmp 71) rfl w.heap.size (opdL (memOpd (5 + (E : Int)) (y : Int) (2 ^ (b / 64)) v)).toArray rfl rfl 25 _ HZ.out (by kernel_rfl) rfl (opd_one _) ?_)
  refine bodyPost_ret (v := .agg (opdL (memOpd (5 + (E : Int)) (y : Int) (2 ^ (b / 64)) v)).toArray) (by exact results_cell_row Tryd.results88 _ _ w.heap.size 25 (opdL (memOpd (5 + (E : Int)) (y : Int) (2 ^ (b / 64)) v)).toArray (0, 0) _ rfl (setRow_heap _ _ _ _ _ _ HZ.out) Tryd.underlying25 rfl (by kernel_rfl)) (by rfl) ⟨rfl, M4.out.fin H.out⟩
set_option maxRecDepth 100000 in
set_option maxHeartbeats 2000000 in
theorem smA_i52 (g : Nat) (I I1 I2 : In) (W0 w : World) (b E E1 y : Nat) (v : Int) (h : IAt W0 w g I) (hb : b < 256) (hy : y = b / 8 % 8 + E1) (hi : y ≠ 4) (h5 : b % 8 = 5) (hE : E ≤ 8) (hE1 : E1 ≤ 8) (C0 : Hid (∀ W, IAt W0 W g I → Calls Tryd.prog 87 #[.pointer (some ⟨g, 0, none⟩), .int .i64 0] W fun e w' => e = .returned (.int .i64 (E : Int)) ∧ W = w')) (CB : Hid (∀ W, IAt W0 W g I → Calls Tryd.prog 48 #[.pointer (some ⟨g, 0, none⟩)] W fun e w' => e = .returned (.int .i64 (b : Int)) ∧ IWr W0 W w' g I1)) (C0' : Hid (∀ W, IAt W0 W g I1 → Calls Tryd.prog 87 #[.pointer (some ⟨g, 0, none⟩), .int .i64 0] W fun e w' => e = .returned (.int .i64 (E : Int)) ∧ W = w')) (C1 : Hid (∀ W, IAt W0 W g I1 → Calls Tryd.prog 87 #[.pointer (some ⟨g, 0, none⟩), .int .i64 1] W fun e w' => e = .returned (.int .i64 (E1 : Int)) ∧ W = w')) (CN : Hid (∀ W, IAt W0 W g I1 → Calls Tryd.prog 83 #[.pointer (some ⟨g, 0, none⟩), .int .i64 4] W fun e w' => e = .returned (.int .i64 v) ∧ IWr W0 W w' g I2)) :
    Calls Tryd.prog 88 #[.pointer (some ⟨g, 0, none⟩), .int .i64 2, .int .i64 4] w fun e w' => e = .returned (V7 (memOpd (5 + (E : Int)) (y : Int) (2 ^ (b / 64)) v)) ∧ IWr W0 w w' g I2 := by
  have H := Lib.hid h
  have A0 := Lib.hid (h.alloc (.cells #[.int .i64 0, .int .i64 0, .int .i64 0, .int .i64 0, .int .i64 0, .int .i64 0, .int .i64 0] 25))
  have M1 := Lib.hid (IMS.newX h (4 + (E : Int)) (-1) 1 0)
  have HP := Lib.hid (pw64 b hb)
  have hb' : (b : Int) < 256 := by omega
  have hE' : (E : Int) ≤ 8 := by omega
  have hE1' : (E1 : Int) ≤ 8 := by omega
  have q88 : (b : Int) / 8 % 8 < 8 := by omega
  have y4 : ((b : Int) / 8 % 8 + (E1 : Int) != 4) = true := bne_iff_ne.mpr (by omega)
  have HYY : Hid ((b : Int) / 8 % 8 + (E1 : Int) = (y : Int)) := Lib.hid (by omega)
  have d5 : (b : Int) % 8 = 5 := by omega
  clear h hb hy hi hE hE1 h5
  go_enter Tryd.func88, Tryd.ntmps88
  go_wp2_with fail
  refine Calls.mono (C0.out _ A0.out) ?_
  rintro e w1 ⟨rfl, rfl⟩
  go_wp2_with fail
  refine Calls.mono (CB.out _ M1.out.at') ?_
  rintro e w2 ⟨rfl, h2⟩
  have M2 := Lib.hid (M1.out.wr h2)
  clear h2
  go_wp2_with fail
  refine Calls.mono (C0'.out _ M2.out.at') ?_
  rintro e w3 ⟨rfl, rfl⟩
  have x0 := M2.out.xb.cell 0; have x1 := M2.out.xb.cell 1; have x2 := M2.out.xb.cell 2; have x3 := M2.out.xb.cell 3; have x4 := M2.out.xb.cell 4; have x5 := M2.out.xb.cell 5; have x6 := M2.out.xb.cell 6
  simp only [opdL, memOpd, List.getElem?_toArray, List.getElem?_cons_zero, List.getElem?_cons_succ] at x0 x1 x2 x3 x4 x5 x6
  have f2 := M2.out.xb.free 2; have f3 := M2.out.xb.free 3; have f4 := M2.out.xb.free 4; have f5 := M2.out.xb.free 5
  have M3 := Lib.hid (M2.out.set (y := memOpd (5 + (E : Int)) (-1) 1 0) 2 (.int .i64 (5 + (E : Int))) rfl)
  go_wp2_with fail
  refine Calls.mono (C1.out _ M3.out.at') ?_
  rintro e w4 ⟨rfl, rfl⟩
  clear x0 x1 x2 x3 x4 x5 x6 f2 f3 f4 f5
  have x0 := M3.out.xb.cell 0; have x1 := M3.out.xb.cell 1; have x2 := M3.out.xb.cell 2; have x3 := M3.out.xb.cell 3; have x4 := M3.out.xb.cell 4; have x5 := M3.out.xb.cell 5; have x6 := M3.out.xb.cell 6
  simp only [opdL, memOpd, List.getElem?_toArray, List.getElem?_cons_zero, List.getElem?_cons_succ] at x0 x1 x2 x3 x4 x5 x6
  have f2 := M3.out.xb.free 2; have f3 := M3.out.xb.free 3; have f4 := M3.out.xb.free 4; have f5 := M3.out.xb.free 5
  have M5 := Lib.hid ((M3.out.set (y := memOpd (5 + (E : Int)) (y : Int) 1 0) 3 (.int .i64 ((b : Int) / 8 % 8 + (E1 : Int))) (by rw [HYY.out]; rfl)).set (y := memOpd (5 + (E : Int)) (y : Int) (2 ^ (b / 64)) 0) 4 (.int .i64 (wrap64 (2 ^ (b / 64)))) (by rw [HP.out]; rfl))
  have hd : (0 : Int) ≤ (b : Int) / 64 := Int.ediv_nonneg (by omega) (by omega)
  go_wp2_with fail
  refine Calls.mono (CN.out _ M5.out.at') ?_
  rintro e w5 ⟨rfl, h5⟩
  have M7 := Lib.hid (M5.out.wr h5)
  clear h5
  clear x0 x1 x2 x3 x4 x5 x6 f2 f3 f4 f5
  have x0 := M7.out.xb.cell 0; have x1 := M7.out.xb.cell 1; have x2 := M7.out.xb.cell 2; have x3 := M7.out.xb.cell 3; have x4 := M7.out.xb.cell 4; have x5 := M7.out.xb.cell 5; have x6 := M7.out.xb.cell 6
  simp only [opdL, memOpd, List.getElem?_toArray, List.getElem?_cons_zero, List.getElem?_cons_succ] at x0 x1 x2 x3 x4 x5 x6
  have f2 := M7.out.xb.free 2; have f3 := M7.out.xb.free 3; have f4 := M7.out.xb.free 4; have f5 := M7.out.xb.free 5
  have M4 := Lib.hid (M7.out.set (y := memOpd (5 + (E : Int)) (y : Int) (2 ^ (b / 64)) v) 5 (.int .i64 v) rfl)
  have HZ := Lib.hid (M4.out.zo H.out)
  go_wp2_with (first | refine wpList_store_row rfl 25 (.tmp 6) (.tmp 71) rfl w.heap.size (opdL (memOpd (5 + (E : Int)) (y : Int) (2 ^ (b / 64)) v)).toArray rfl rfl 25 _ HZ.out (by kernel_rfl) rfl (opd_one _) ?_)
  refine bodyPost_ret (v := .agg (opdL (memOpd (5 + (E : Int)) (y : Int) (2 ^ (b / 64)) v)).toArray) (by exact results_cell_row Tryd.results88 _ _ w.heap.size 25 (opdL (memOpd (5 + (E : Int)) (y : Int) (2 ^ (b / 64)) v)).toArray (0, 0) _ rfl (setRow_heap _ _ _ _ _ _ HZ.out) Tryd.underlying25 rfl (by kernel_rfl)) (by rfl) ⟨rfl, M4.out.fin H.out⟩
end Go.Proofs.YtinjpobepcenfaaDoor
