/-
  What MaskOf, BaseAddOf and GoalOf of impl and spec answer, by what InstrOK and ClassOf answer; conditions: those in each head.
-/
import Derived.Test.YtjnjlgaemmdkhaaDoorWalkOkT14
import Derived.Test.YtjnjlgaemmdkhaaDoorWalkToI
import Derived.Test.YtjnjlgaemmdkhaaDoorWalkClass
import Derived.Test.YtjnjlgaemmdkhaaDoorWalkOpd3
import Derived.Deep.RegionHeld3
import Derived.Deep.MidRow
namespace Go.Proofs.YtjnjlgaemmdkhaaDoor
open Go.RowKit Go.Sort
set_option linter.unusedVariables false
set_option linter.unusedSimpArgs false
theorem results_tmp4o {fn : Func} {t u v x : Tmp} (h : fn.results = #[.tmp t, .tmp u, .tmp v, .tmp x]) (tmps : Array Value) (P : Program) (w : World) :
    (results fn tmps).run P w = .ok (.tuple #[tmps.getD t undef, tmps.getD u undef, tmps.getD v undef, tmps.getD x undef]) w := by
  simp [results, h]
def maskV (b h : Bool) (r m : Int) : Array Value := match b, h with
  | false, _ => #[.int .i64 0, .int .i64 0, .bool false, .int .i64 1]
  | true, true => #[.int .i64 0, .int .i64 0, .bool false, .int .i64 0]
  | true, false => #[.int .i64 r, .int .i64 m, .bool true, .int .i64 0]
set_option maxRecDepth 100000 in
set_option maxHeartbeats 2000000 in
theorem maskI (op sz cd fr : Int) (d s : Opd) (ln : Int) (w : World) (b t0 t1 t2 t3 : Bool) (CI : Hid (∀ W, Below w.heap.size w W → Calls Tryd.prog 27 #[.agg #[.int .i64 op, .int .i64 sz, .int .i64 cd, .int .i64 fr, .int .i64 d.k, .int .i64 d.r, .int .i64 d.b, .int .i64 d.i, .int .i64 d.s, .int .i64 d.d, .int .i64 d.m, .int .i64 s.k, .int .i64 s.r, .int .i64 s.b, .int .i64 s.i, .int .i64 s.s, .int .i64 s.d, .int .i64 s.m, .int .i64 ln]] W fun e w' => e = .returned (.bool b) ∧ Below W.heap.size W w')) (e0 : (op != 5) = t0) (e1 : (sz != 4) = t1) (e2 : (d.k != 1) = t2) (e3 : (s.k != 3) = t3) :
    Calls Tryd.prog 16 #[.agg #[.int .i64 op, .int .i64 sz, .int .i64 cd, .int .i64 fr, .int .i64 d.k, .int .i64 d.r, .int .i64 d.b, .int .i64 d.i, .int .i64 d.s, .int .i64 d.d, .int .i64 d.m, .int .i64 s.k, .int .i64 s.r, .int .i64 s.b, .int .i64 s.i, .int .i64 s.s, .int .i64 s.d, .int .i64 s.m, .int .i64 ln]] w fun e w' => e = .returned (.tuple (maskV b (t0 || (t1 || (t2 || t3))) d.r s.m)) ∧ Below w.heap.size w w' := by
  have R0 := Lib.hid (heap_alloc_new w (.cells #[.int .i64 op, .int .i64 sz, .int .i64 cd, .int .i64 fr, .int .i64 d.k, .int .i64 d.r, .int .i64 d.b, .int .i64 d.i, .int .i64 d.s, .int .i64 d.d, .int .i64 d.m, .int .i64 s.k, .int .i64 s.r, .int .i64 s.b, .int .i64 s.i, .int .i64 s.s, .int .i64 s.d, .int .i64 s.m, .int .i64 ln] 30))
  have B0 := Lib.hid (belA w (.cells #[.int .i64 op, .int .i64 sz, .int .i64 cd, .int .i64 fr, .int .i64 d.k, .int .i64 d.r, .int .i64 d.b, .int .i64 d.i, .int .i64 d.s, .int .i64 d.d, .int .i64 d.m, .int .i64 s.k, .int .i64 s.r, .int .i64 s.b, .int .i64 s.i, .int .i64 s.s, .int .i64 s.d, .int .i64 s.m, .int .i64 ln] 30))
  go_enter Tryd.func16, Tryd.ntmps16
  go_wp2_with (first | refine wpList_load_row rfl 30 (.tmp 1) rfl w.heap.size rfl 30 #[.int .i64 op, .int .i64 sz, .int .i64 cd, .int .i64 fr, .int .i64 d.k, .int .i64 d.r, .int .i64 d.b, .int .i64 d.i, .int .i64 d.s, .int .i64 d.d, .int .i64 d.m, .int .i64 s.k, .int .i64 s.r, .int .i64 s.b, .int .i64 s.i, .int .i64 s.s, .int .i64 s.d, .int .i64 s.m, .int .i64 ln] (0, 0) _ R0.out Tryd.underlying30 rfl (by kernel_rfl) ?_ | refine load_rowT (by rfl) 30 (.tmp 1) rfl w.heap.size rfl 30 #[.int .i64 op, .int .i64 sz, .int .i64 cd, .int .i64 fr, .int .i64 d.k, .int .i64 d.r, .int .i64 d.b, .int .i64 d.i, .int .i64 d.s, .int .i64 d.d, .int .i64 d.m, .int .i64 s.k, .int .i64 s.r, .int .i64 s.b, .int .i64 s.i, .int .i64 s.s, .int .i64 s.d, .int .i64 s.m, .int .i64 ln] (0, 0) _ R0.out Tryd.underlying30 rfl (by kernel_rfl) ?_)
  refine (CI.out _ B0.out).mono ?_
  rintro e w1 ⟨rfl, hb⟩
  have B1 := Lib.hid (B0.out.trans (hb.mono B0.out.size))
  have R1 := Lib.hid ((hb.block _ (lt_of_blk R0.out)).trans R0.out)
  clear hb
  cases b
  · go_wp2
    (try simp only [Exit.inBlock, Exit.then]); refine bodyPost_ret (results_tmp4o rfl _ _ _) rfl ?_
    exact ⟨rfl, B1.out⟩
  · have c0 := cell_of_row _ _ 0 _ _ _ R1.out
    have c1 := cell_of_row _ _ 1 _ _ _ R1.out
    have c4 := cell_of_row _ _ 4 _ _ _ R1.out
    have c5 := cell_of_row _ _ 5 _ _ _ R1.out
    have c11 := cell_of_row _ _ 11 _ _ _ R1.out
    have c17 := cell_of_row _ _ 17 _ _ _ R1.out
    simp only [List.getElem?_toArray, List.getElem?_cons_zero, List.getElem?_cons_succ] at c0 c1 c4 c5 c11 c17
    cases t0
    · cases t1
      · cases t2
        · cases t3
          · go_wp2
            go_region
            go_wp2
            (try simp only [Exit.inBlock, Exit.then]); refine bodyPost_ret (results_tmp4o rfl _ _ _) rfl ?_
            exact ⟨rfl, B1.out.drew⟩
          · go_wp2
            (try simp only [Exit.inBlock, Exit.then]); refine bodyPost_ret (results_tmp4o rfl _ _ _) rfl ?_
            exact ⟨rfl, B1.out⟩
        · go_wp2
          (try simp only [Exit.inBlock, Exit.then]); refine bodyPost_ret (results_tmp4o rfl _ _ _) rfl ?_
          exact ⟨rfl, B1.out⟩
      · go_wp2
        (try simp only [Exit.inBlock, Exit.then]); refine bodyPost_ret (results_tmp4o rfl _ _ _) rfl ?_
        exact ⟨rfl, B1.out⟩
    · go_wp2
      (try simp only [Exit.inBlock, Exit.then]); refine bodyPost_ret (results_tmp4o rfl _ _ _) rfl ?_
      exact ⟨rfl, B1.out⟩
def mask0 (h : Bool) (r m : Int) : Array Value := match h with
  | true => #[.int .i64 0, .int .i64 0, .bool false]
  | false => #[.int .i64 r, .int .i64 m, .bool true]
set_option maxRecDepth 100000 in
set_option maxHeartbeats 2000000 in
theorem mask0S (op sz cd fr : Int) (d s : Opd) (ln : Int) (w : World) (t0 t1 t2 t3 : Bool) (e0 : (op != 5) = t0) (e1 : (sz != 4) = t1) (e2 : (d.k != 1) = t2) (e3 : (s.k != 3) = t3) :
    Calls Tryd.prog 32 #[.agg #[.int .i64 op, .int .i64 sz, .int .i64 cd, .int .i64 fr, .int .i64 d.k, .int .i64 d.r, .int .i64 d.b, .int .i64 d.i, .int .i64 d.s, .int .i64 d.d, .int .i64 d.m, .int .i64 s.k, .int .i64 s.r, .int .i64 s.b, .int .i64 s.i, .int .i64 s.s, .int .i64 s.d, .int .i64 s.m, .int .i64 ln]] w fun e w' => e = .returned (.tuple (mask0 (t0 || (t1 || (t2 || t3))) d.r s.m)) ∧ Below w.heap.size w w' := by
  have R0 := Lib.hid (heap_alloc_new w (.cells #[.int .i64 op, .int .i64 sz, .int .i64 cd, .int .i64 fr, .int .i64 d.k, .int .i64 d.r, .int .i64 d.b, .int .i64 d.i, .int .i64 d.s, .int .i64 d.d, .int .i64 d.m, .int .i64 s.k, .int .i64 s.r, .int .i64 s.b, .int .i64 s.i, .int .i64 s.s, .int .i64 s.d, .int .i64 s.m, .int .i64 ln] 30))
  have B0 := Lib.hid (belA w (.cells #[.int .i64 op, .int .i64 sz, .int .i64 cd, .int .i64 fr, .int .i64 d.k, .int .i64 d.r, .int .i64 d.b, .int .i64 d.i, .int .i64 d.s, .int .i64 d.d, .int .i64 d.m, .int .i64 s.k, .int .i64 s.r, .int .i64 s.b, .int .i64 s.i, .int .i64 s.s, .int .i64 s.d, .int .i64 s.m, .int .i64 ln] 30))
  go_enter Tryd.func32, Tryd.ntmps32
  have c0 := cell_of_row _ _ 0 _ _ _ R0.out
  have c1 := cell_of_row _ _ 1 _ _ _ R0.out
  have c4 := cell_of_row _ _ 4 _ _ _ R0.out
  have c5 := cell_of_row _ _ 5 _ _ _ R0.out
  have c11 := cell_of_row _ _ 11 _ _ _ R0.out
  have c17 := cell_of_row _ _ 17 _ _ _ R0.out
  simp only [List.getElem?_toArray, List.getElem?_cons_zero, List.getElem?_cons_succ] at c0 c1 c4 c5 c11 c17
  cases t0
  · cases t1
    · cases t2
      · cases t3
        · go_wp2
          go_region
          go_wp2
          go_ret3
          exact ⟨rfl, B0.out.drew⟩
        · go_wp2
          go_ret3
          exact ⟨rfl, B0.out⟩
      · go_wp2
        go_ret3
        exact ⟨rfl, B0.out⟩
    · go_wp2
      go_ret3
      exact ⟨rfl, B0.out⟩
  · go_wp2
    go_ret3
    exact ⟨rfl, B0.out⟩
set_option maxRecDepth 100000 in
set_option maxHeartbeats 2000000 in
theorem maskS (op sz cd fr : Int) (d s : Opd) (ln : Int) (w : World) (b t0 t1 t2 t3 : Bool) (CI : Hid (∀ W, Calls Tryd.prog 23 #[.agg #[.int .i64 op, .int .i64 sz, .int .i64 cd, .int .i64 fr, .int .i64 d.k, .int .i64 d.r, .int .i64 d.b, .int .i64 d.i, .int .i64 d.s, .int .i64 d.d, .int .i64 d.m, .int .i64 s.k, .int .i64 s.r, .int .i64 s.b, .int .i64 s.i, .int .i64 s.s, .int .i64 s.d, .int .i64 s.m, .int .i64 ln]] W fun e w' => e = .returned (.bool b) ∧ Below W.heap.size W w')) (e0 : (op != 5) = t0) (e1 : (sz != 4) = t1) (e2 : (d.k != 1) = t2) (e3 : (s.k != 3) = t3) :
    Calls Tryd.prog 15 #[.agg #[.int .i64 op, .int .i64 sz, .int .i64 cd, .int .i64 fr, .int .i64 d.k, .int .i64 d.r, .int .i64 d.b, .int .i64 d.i, .int .i64 d.s, .int .i64 d.d, .int .i64 d.m, .int .i64 s.k, .int .i64 s.r, .int .i64 s.b, .int .i64 s.i, .int .i64 s.s, .int .i64 s.d, .int .i64 s.m, .int .i64 ln]] w fun e w' => e = .returned (.tuple (maskV b (t0 || (t1 || (t2 || t3))) d.r s.m)) ∧ Below w.heap.size w w' := by
  have R0 := Lib.hid (heap_alloc_new w (.cells #[.int .i64 op, .int .i64 sz, .int .i64 cd, .int .i64 fr, .int .i64 d.k, .int .i64 d.r, .int .i64 d.b, .int .i64 d.i, .int .i64 d.s, .int .i64 d.d, .int .i64 d.m, .int .i64 s.k, .int .i64 s.r, .int .i64 s.b, .int .i64 s.i, .int .i64 s.s, .int .i64 s.d, .int .i64 s.m, .int .i64 ln] 30))
  have B0 := Lib.hid (belA w (.cells #[.int .i64 op, .int .i64 sz, .int .i64 cd, .int .i64 fr, .int .i64 d.k, .int .i64 d.r, .int .i64 d.b, .int .i64 d.i, .int .i64 d.s, .int .i64 d.d, .int .i64 d.m, .int .i64 s.k, .int .i64 s.r, .int .i64 s.b, .int .i64 s.i, .int .i64 s.s, .int .i64 s.d, .int .i64 s.m, .int .i64 ln] 30))
  have CC := Lib.hid (fun W => mask0S op sz cd fr d s ln W t0 t1 t2 t3 e0 e1 e2 e3)
  go_enter Tryd.func15, Tryd.ntmps15
  go_wp2_with (first | refine wpList_load_row rfl 30 (.tmp 1) rfl w.heap.size rfl 30 #[.int .i64 op, .int .i64 sz, .int .i64 cd, .int .i64 fr, .int .i64 d.k, .int .i64 d.r, .int .i64 d.b, .int .i64 d.i, .int .i64 d.s, .int .i64 d.d, .int .i64 d.m, .int .i64 s.k, .int .i64 s.r, .int .i64 s.b, .int .i64 s.i, .int .i64 s.s, .int .i64 s.d, .int .i64 s.m, .int .i64 ln] (0, 0) _ R0.out Tryd.underlying30 rfl (by kernel_rfl) ?_ | refine load_rowT (by rfl) 30 (.tmp 1) rfl w.heap.size rfl 30 #[.int .i64 op, .int .i64 sz, .int .i64 cd, .int .i64 fr, .int .i64 d.k, .int .i64 d.r, .int .i64 d.b, .int .i64 d.i, .int .i64 d.s, .int .i64 d.d, .int .i64 d.m, .int .i64 s.k, .int .i64 s.r, .int .i64 s.b, .int .i64 s.i, .int .i64 s.s, .int .i64 s.d, .int .i64 s.m, .int .i64 ln] (0, 0) _ R0.out Tryd.underlying30 rfl (by kernel_rfl) ?_)
  refine (CI.out _).mono ?_
  rintro e w1 ⟨rfl, hb⟩
  have B1 := Lib.hid (B0.out.trans (hb.mono B0.out.size))
  have R1 := Lib.hid ((hb.block _ (lt_of_blk R0.out)).trans R0.out)
  clear hb
  cases b
  · go_wp2
    (try simp only [Exit.inBlock, Exit.then]); refine bodyPost_ret (results_tmp4o rfl _ _ _) rfl ?_
    exact ⟨rfl, B1.out⟩
  · cases t0
    · cases t1
      · cases t2
        · cases t3
          · simp only [mask0, Bool.true_or, Bool.or_true, Bool.false_or, Bool.or_false, Bool.or_self] at CC
            go_wp2_with (first | refine wpList_load_row rfl 30 (.tmp 1) rfl w.heap.size rfl 30 #[.int .i64 op, .int .i64 sz, .int .i64 cd, .int .i64 fr, .int .i64 d.k, .int .i64 d.r, .int .i64 d.b, .int .i64 d.i, .int .i64 d.s, .int .i64 d.d, .int .i64 d.m, .int .i64 s.k, .int .i64 s.r, .int .i64 s.b, .int .i64 s.i, .int .i64 s.s, .int .i64 s.d, .int .i64 s.m, .int .i64 ln] (0, 0) _ R1.out Tryd.underlying30 rfl (by kernel_rfl) ?_ | refine load_rowT (by rfl) 30 (.tmp 1) rfl w.heap.size rfl 30 #[.int .i64 op, .int .i64 sz, .int .i64 cd, .int .i64 fr, .int .i64 d.k, .int .i64 d.r, .int .i64 d.b, .int .i64 d.i, .int .i64 d.s, .int .i64 d.d, .int .i64 d.m, .int .i64 s.k, .int .i64 s.r, .int .i64 s.b, .int .i64 s.i, .int .i64 s.s, .int .i64 s.d, .int .i64 s.m, .int .i64 ln] (0, 0) _ R1.out Tryd.underlying30 rfl (by kernel_rfl) ?_)
            refine (CC.out _).mono ?_
            rintro e w2 ⟨rfl, hb⟩
            have B2 := Lib.hid (B1.out.trans (hb.mono B1.out.size))
            clear hb
            go_wp2
            (try simp only [Exit.inBlock, Exit.then]); refine bodyPost_ret (results_tmp4o rfl _ _ _) rfl ?_
            exact ⟨rfl, B2.out⟩
          · simp only [mask0, Bool.true_or, Bool.or_true, Bool.false_or, Bool.or_false, Bool.or_self] at CC
            go_wp2_with (first | refine wpList_load_row rfl 30 (.tmp 1) rfl w.heap.size rfl 30 #[.int .i64 op, .int .i64 sz, .int .i64 cd, .int .i64 fr, .int .i64 d.k, .int .i64 d.r, .int .i64 d.b, .int .i64 d.i, .int .i64 d.s, .int .i64 d.d, .int .i64 d.m, .int .i64 s.k, .int .i64 s.r, .int .i64 s.b, .int .i64 s.i, .int .i64 s.s, .int .i64 s.d, .int .i64 s.m, .int .i64 ln] (0, 0) _ R1.out Tryd.underlying30 rfl (by kernel_rfl) ?_ | refine load_rowT (by rfl) 30 (.tmp 1) rfl w.heap.size rfl 30 #[.int .i64 op, .int .i64 sz, .int .i64 cd, .int .i64 fr, .int .i64 d.k, .int .i64 d.r, .int .i64 d.b, .int .i64 d.i, .int .i64 d.s, .int .i64 d.d, .int .i64 d.m, .int .i64 s.k, .int .i64 s.r, .int .i64 s.b, .int .i64 s.i, .int .i64 s.s, .int .i64 s.d, .int .i64 s.m, .int .i64 ln] (0, 0) _ R1.out Tryd.underlying30 rfl (by kernel_rfl) ?_)
            refine (CC.out _).mono ?_
            rintro e w2 ⟨rfl, hb⟩
            have B2 := Lib.hid (B1.out.trans (hb.mono B1.out.size))
            clear hb
            go_wp2
            (try simp only [Exit.inBlock, Exit.then]); refine bodyPost_ret (results_tmp4o rfl _ _ _) rfl ?_
            exact ⟨rfl, B2.out⟩
        · simp only [mask0, Bool.true_or, Bool.or_true, Bool.false_or, Bool.or_false, Bool.or_self] at CC
          go_wp2_with (first | refine wpList_load_row rfl 30 (.tmp 1) rfl w.heap.size rfl 30 #[.int .i64 op, .int .i64 sz, .int .i64 cd, .int .i64 fr, .int .i64 d.k, .int .i64 d.r, .int .i64 d.b, .int .i64 d.i, .int .i64 d.s, .int .i64 d.d, .int .i64 d.m, .int .i64 s.k, .int .i64 s.r, .int .i64 s.b, .int .i64 s.i, .int .i64 s.s, .int .i64 s.d, .int .i64 s.m, .int .i64 ln] (0, 0) _ R1.out Tryd.underlying30 rfl (by kernel_rfl) ?_ | refine load_rowT (by rfl) 30 (.tmp 1) rfl w.heap.size rfl 30 #[.int .i64 op, .int .i64 sz, .int .i64 cd, .int .i64 fr, .int .i64 d.k, .int .i64 d.r, .int .i64 d.b, .int .i64 d.i, .int .i64 d.s, .int .i64 d.d, .int .i64 d.m, .int .i64 s.k, .int .i64 s.r, .int .i64 s.b, .int .i64 s.i, .int .i64 s.s, .int .i64 s.d, .int .i64 s.m, .int .i64 ln] (0, 0) _ R1.out Tryd.underlying30 rfl (by kernel_rfl) ?_)
          refine (CC.out _).mono ?_
          rintro e w2 ⟨rfl, hb⟩
          have B2 := Lib.hid (B1.out.trans (hb.mono B1.out.size))
          clear hb
          go_wp2
          (try simp only [Exit.inBlock, Exit.then]); refine bodyPost_ret (results_tmp4o rfl _ _ _) rfl ?_
          exact ⟨rfl, B2.out⟩
      · simp only [mask0, Bool.true_or, Bool.or_true, Bool.false_or, Bool.or_false, Bool.or_self] at CC
        go_wp2_with (first | refine wpList_load_row rfl 30 (.tmp 1) rfl w.heap.size rfl 30 #[.int .i64 op, .int .i64 sz, .int .i64 cd, .int .i64 fr, .int .i64 d.k, .int .i64 d.r, .int .i64 d.b, .int .i64 d.i, .int .i64 d.s, .int .i64 d.d, .int .i64 d.m, .int .i64 s.k, .int .i64 s.r, .int .i64 s.b, .int .i64 s.i, .int .i64 s.s, .int .i64 s.d, .int .i64 s.m, .int .i64 ln] (0, 0) _ R1.out Tryd.underlying30 rfl (by kernel_rfl) ?_ | refine load_rowT (by rfl) 30 (.tmp 1) rfl w.heap.size rfl 30 #[.int .i64 op, .int .i64 sz, .int .i64 cd, .int .i64 fr, .int .i64 d.k, .int .i64 d.r, .int .i64 d.b, .int .i64 d.i, .int .i64 d.s, .int .i64 d.d, .int .i64 d.m, .int .i64 s.k, .int .i64 s.r, .int .i64 s.b, .int .i64 s.i, .int .i64 s.s, .int .i64 s.d, .int .i64 s.m, .int .i64 ln] (0, 0) _ R1.out Tryd.underlying30 rfl (by kernel_rfl) ?_)
        refine (CC.out _).mono ?_
        rintro e w2 ⟨rfl, hb⟩
        have B2 := Lib.hid (B1.out.trans (hb.mono B1.out.size))
        clear hb
        go_wp2
        (try simp only [Exit.inBlock, Exit.then]); refine bodyPost_ret (results_tmp4o rfl _ _ _) rfl ?_
        exact ⟨rfl, B2.out⟩
    · simp only [mask0, Bool.true_or, Bool.or_true, Bool.false_or, Bool.or_false, Bool.or_self] at CC
      go_wp2_with (first | refine wpList_load_row rfl 30 (.tmp 1) rfl w.heap.size rfl 30 #[.int .i64 op, .int .i64 sz, .int .i64 cd, .int .i64 fr, .int .i64 d.k, .int .i64 d.r, .int .i64 d.b, .int .i64 d.i, .int .i64 d.s, .int .i64 d.d, .int .i64 d.m, .int .i64 s.k, .int .i64 s.r, .int .i64 s.b, .int .i64 s.i, .int .i64 s.s, .int .i64 s.d, .int .i64 s.m, .int .i64 ln] (0, 0) _ R1.out Tryd.underlying30 rfl (by kernel_rfl) ?_ | refine load_rowT (by rfl) 30 (.tmp 1) rfl w.heap.size rfl 30 #[.int .i64 op, .int .i64 sz, .int .i64 cd, .int .i64 fr, .int .i64 d.k, .int .i64 d.r, .int .i64 d.b, .int .i64 d.i, .int .i64 d.s, .int .i64 d.d, .int .i64 d.m, .int .i64 s.k, .int .i64 s.r, .int .i64 s.b, .int .i64 s.i, .int .i64 s.s, .int .i64 s.d, .int .i64 s.m, .int .i64 ln] (0, 0) _ R1.out Tryd.underlying30 rfl (by kernel_rfl) ?_)
      refine (CC.out _).mono ?_
      rintro e w2 ⟨rfl, hb⟩
      have B2 := Lib.hid (B1.out.trans (hb.mono B1.out.size))
      clear hb
      go_wp2
      (try simp only [Exit.inBlock, Exit.then]); refine bodyPost_ret (results_tmp4o rfl _ _ _) rfl ?_
      exact ⟨rfl, B2.out⟩
theorem equal_at (x y : Opd) (v : Bool) (hv : decide (x = y) = v) (w : World) : (Op.equalIn 10000 28 (.agg #[.int .i64 x.k, .int .i64 x.r, .int .i64 x.b, .int .i64 x.i, .int .i64 x.s, .int .i64 x.d, .int .i64 x.m]) (.agg #[.int .i64 y.k, .int .i64 y.r, .int .i64 y.b, .int .i64 y.i, .int .i64 y.s, .int .i64 y.d, .int .i64 y.m])).run Tryd.prog w = .ok v w := by
  have h := eql_at x y v hv w
  rw [run_eql_struct] at h
  generalize (Op.equalIn 10000 28 _ _).run Tryd.prog w = R at h ⊢
  cases R <;> simp_all [Result.andThen]
/-- the instruction's block stands -/
def RB8 (w W : World) (op sz cd fr : Int) (d s : Opd) (ln : Int) : Prop := W.heap[w.heap.size]? = some (.cells #[.int .i64 op, .int .i64 sz, .int .i64 cd, .int .i64 fr, .int .i64 d.k, .int .i64 d.r, .int .i64 d.b, .int .i64 d.i, .int .i64 d.s, .int .i64 d.d, .int .i64 d.m, .int .i64 s.k, .int .i64 s.r, .int .i64 s.b, .int .i64 s.i, .int .i64 s.s, .int .i64 s.d, .int .i64 s.m, .int .i64 ln] 30 (0, 0)) ∧ Below w.heap.size w W
theorem RB8.drew {w W : World} {op sz cd fr : Int} {d s : Opd} {ln : Int} (h : RB8 w W op sz cd fr d s ln) : RB8 w W.drew op sz cd fr d s ln := ⟨h.1, h.2.drew⟩
theorem RB8.call {w W W' : World} {op sz cd fr : Int} {d s : Opd} {ln : Int} (h : RB8 w W op sz cd fr d s ln) (hb : Below W.heap.size W W') : RB8 w W' op sz cd fr d s ln := ⟨(hb.block _ (lt_of_blk h.1)).trans h.1, h.2.trans (hb.mono h.2.size)⟩
theorem load_int8 (u : World) (b o : Nat) (v : Int) (h : u.cell? ⟨b, o, none⟩ = some (.int .i64 v)) : (Instr.loadAt 3 (.pointer (some ⟨b, o, none⟩))).run Tryd.prog u = .ok (.int .i64 v) u := by
  simp [Instr.loadAt, Instr.sureAddr, loadVar, Tryd.underlying3, h]
theorem load_src8 {w : World} {op sz cd fr : Int} {d s : Opd} {ln : Int} (u : World) (h : RB8 w u op sz cd fr d s ln) : (Instr.loadAt 28 (.pointer (some ⟨w.heap.size, 11, none⟩))).run Tryd.prog u = .ok (.agg #[.int .i64 s.k, .int .i64 s.r, .int .i64 s.b, .int .i64 s.i, .int .i64 s.s, .int .i64 s.d, .int .i64 s.m]) u := by
  refine run_loadAt_mid u _ _ _ [.int .i64 s.k, .int .i64 s.r, .int .i64 s.b, .int .i64 s.i, .int .i64 s.s, .int .i64 s.d, .int .i64 s.m] _ ?_ Tryd.underlying28 rfl (by kernel_rfl)
  intro j v hj
  rw [cell_of_row _ _ _ _ _ _ h.1]
  rcases Nat.lt_or_ge j 7 with hl | hl
  · rcases (by omega : j = 0 ∨ j = 1 ∨ j = 2 ∨ j = 3 ∨ j = 4 ∨ j = 5 ∨ j = 6) with rfl | rfl | rfl | rfl | rfl | rfl | rfl
    all_goals exact hj
  · rw [List.getElem?_eq_none (by show 7 ≤ j; exact hl)] at hj; cases hj
def baseV (b h : Bool) (r : Int) : Array Value := match b, h with
  | false, _ => #[.int .i64 0, .bool false, .int .i64 1]
  | true, true => #[.int .i64 0, .bool false, .int .i64 0]
  | true, false => #[.int .i64 r, .bool true, .int .i64 0]
def base0 (h : Bool) (r : Int) : Array Value := match h with
  | true => #[.int .i64 0, .bool false]
  | false => #[.int .i64 r, .bool true]
attribute [-go_sem] Instr.loadAt in
set_option maxRecDepth 100000 in
set_option maxHeartbeats 2000000 in
theorem baseI (op sz cd fr : Int) (d s : Opd) (ln : Int) (w : World) (b t0 t1 t2 t3 : Bool) (CI : Hid (∀ W, Below w.heap.size w W → Calls Tryd.prog 27 #[.agg #[.int .i64 op, .int .i64 sz, .int .i64 cd, .int .i64 fr, .int .i64 d.k, .int .i64 d.r, .int .i64 d.b, .int .i64 d.i, .int .i64 d.s, .int .i64 d.d, .int .i64 d.m, .int .i64 s.k, .int .i64 s.r, .int .i64 s.b, .int .i64 s.i, .int .i64 s.s, .int .i64 s.d, .int .i64 s.m, .int .i64 ln]] W fun e w' => e = .returned (.bool b) ∧ Below W.heap.size W w')) (e0 : (op != 1) = t0) (e1 : (sz != 8) = t1) (e2 : (d.k != 1) = t2) (e3 : (!decide (s = regOpd 15)) = t3) :
    Calls Tryd.prog 18 #[.agg #[.int .i64 op, .int .i64 sz, .int .i64 cd, .int .i64 fr, .int .i64 d.k, .int .i64 d.r, .int .i64 d.b, .int .i64 d.i, .int .i64 d.s, .int .i64 d.d, .int .i64 d.m, .int .i64 s.k, .int .i64 s.r, .int .i64 s.b, .int .i64 s.i, .int .i64 s.s, .int .i64 s.d, .int .i64 s.m, .int .i64 ln]] w fun e w' => e = .returned (.tuple (baseV b (t0 || (t1 || (t2 || t3))) d.r)) ∧ Below w.heap.size w w' := by
  have R0 := Lib.hid (heap_alloc_new w (.cells #[.int .i64 op, .int .i64 sz, .int .i64 cd, .int .i64 fr, .int .i64 d.k, .int .i64 d.r, .int .i64 d.b, .int .i64 d.i, .int .i64 d.s, .int .i64 d.d, .int .i64 d.m, .int .i64 s.k, .int .i64 s.r, .int .i64 s.b, .int .i64 s.i, .int .i64 s.s, .int .i64 s.d, .int .i64 s.m, .int .i64 ln] 30))
  have B0 := Lib.hid (belA w (.cells #[.int .i64 op, .int .i64 sz, .int .i64 cd, .int .i64 fr, .int .i64 d.k, .int .i64 d.r, .int .i64 d.b, .int .i64 d.i, .int .i64 d.s, .int .i64 d.d, .int .i64 d.m, .int .i64 s.k, .int .i64 s.r, .int .i64 s.b, .int .i64 s.i, .int .i64 s.s, .int .i64 s.d, .int .i64 s.m, .int .i64 ln] 30))
  have CR := Lib.hid (regOpdC 15)
  have EQ := Lib.hid (fun W => equal_at s (regOpd 15) (!t3) (by rw [← e3, Bool.not_not]) W)
  go_enter Tryd.func18, Tryd.ntmps18
  go_wp2_with (first | refine wpList_load_row rfl 30 (.tmp 1) rfl w.heap.size rfl 30 #[.int .i64 op, .int .i64 sz, .int .i64 cd, .int .i64 fr, .int .i64 d.k, .int .i64 d.r, .int .i64 d.b, .int .i64 d.i, .int .i64 d.s, .int .i64 d.d, .int .i64 d.m, .int .i64 s.k, .int .i64 s.r, .int .i64 s.b, .int .i64 s.i, .int .i64 s.s, .int .i64 s.d, .int .i64 s.m, .int .i64 ln] (0, 0) _ R0.out Tryd.underlying30 rfl (by kernel_rfl) ?_ | refine load_rowT (by rfl) 30 (.tmp 1) rfl w.heap.size rfl 30 #[.int .i64 op, .int .i64 sz, .int .i64 cd, .int .i64 fr, .int .i64 d.k, .int .i64 d.r, .int .i64 d.b, .int .i64 d.i, .int .i64 d.s, .int .i64 d.d, .int .i64 d.m, .int .i64 s.k, .int .i64 s.r, .int .i64 s.b, .int .i64 s.i, .int .i64 s.s, .int .i64 s.d, .int .i64 s.m, .int .i64 ln] (0, 0) _ R0.out Tryd.underlying30 rfl (by kernel_rfl) ?_)
  refine (CI.out _ B0.out).mono ?_
  rintro e w1 ⟨rfl, hb⟩
  have B1 := Lib.hid (B0.out.trans (hb.mono B0.out.size))
  have R1 := Lib.hid ((hb.block _ (lt_of_blk R0.out)).trans R0.out)
  clear hb
  cases b
  · go_wp2
    go_ret3
    exact ⟨rfl, B1.out⟩
  · cases t0
    · cases t1
      · cases t2
        · have q3 := fun W => EQ.out W
          unfold regOpd at q3
          cases t3
          · simp only [Bool.not_false] at q3
            have r1 : RB8 w w1 op sz cd fr d s ln := ⟨R1.out, B1.out⟩
            have LO := fun u (h : RB8 w u op sz cd fr d s ln) => load_int8 u _ _ _ (cell_of_row _ _ 0 _ _ _ h.1)
            have LZ := fun u (h : RB8 w u op sz cd fr d s ln) => load_int8 u _ _ _ (cell_of_row _ _ 1 _ _ _ h.1)
            have LK := fun u (h : RB8 w u op sz cd fr d s ln) => load_int8 u _ _ _ (cell_of_row _ _ 4 _ _ _ h.1)
            have LS := fun u (h : RB8 w u op sz cd fr d s ln) => load_src8 u h
            go_wp2_with fail
            go_region_held3 (fun W' => RB8 w W' op sz cd fr d s ln) (first | assumption | (exact RB8.drew (by assumption))) (first | (go_at_call 34; (with_reducible refine Calls.mono (CR.out _) ?_); rintro e w3 ⟨rfl, h1⟩; have j1 := RB8.call (by assumption) h1; clear h1))
            have R2 := Lib.hid (by assumption : RB8 w _ op sz cd fr d s ln)
            clear LO LZ LK LS
            have c5 := cell_of_row _ _ 5 _ _ _ R2.out.1
            simp only [List.getElem?_toArray, List.getElem?_cons_zero, List.getElem?_cons_succ] at c5
            have l5 := load_int8 _ _ _ _ c5
            go_wp2
            go_ret3
            exact ⟨rfl, R2.out.2⟩
          · simp only [Bool.not_true] at q3
            have r1 : RB8 w w1 op sz cd fr d s ln := ⟨R1.out, B1.out⟩
            have LO := fun u (h : RB8 w u op sz cd fr d s ln) => load_int8 u _ _ _ (cell_of_row _ _ 0 _ _ _ h.1)
            have LZ := fun u (h : RB8 w u op sz cd fr d s ln) => load_int8 u _ _ _ (cell_of_row _ _ 1 _ _ _ h.1)
            have LK := fun u (h : RB8 w u op sz cd fr d s ln) => load_int8 u _ _ _ (cell_of_row _ _ 4 _ _ _ h.1)
            have LS := fun u (h : RB8 w u op sz cd fr d s ln) => load_src8 u h
            go_wp2_with fail
            go_region_held3 (fun W' => RB8 w W' op sz cd fr d s ln) (first | assumption | (exact RB8.drew (by assumption))) (first | (go_at_call 34; (with_reducible refine Calls.mono (CR.out _) ?_); rintro e w3 ⟨rfl, h1⟩; have j1 := RB8.call (by assumption) h1; clear h1))
            have R2 := Lib.hid (by assumption : RB8 w _ op sz cd fr d s ln)
            clear LO LZ LK LS
            go_wp2
            go_ret3
            exact ⟨rfl, R2.out.2⟩
        · have lo := load_int8 w1.drew _ _ _ (cell_of_row _ _ 0 _ _ _ R1.out)
          have lz := load_int8 w1.drew _ _ _ (cell_of_row _ _ 1 _ _ _ R1.out)
          have lk := load_int8 w1.drew _ _ _ (cell_of_row _ _ 4 _ _ _ R1.out)
          go_wp2_with fail
          go_region
          go_wp2
          go_ret3
          exact ⟨rfl, B1.out.drew⟩
      · have lo := load_int8 w1.drew _ _ _ (cell_of_row _ _ 0 _ _ _ R1.out)
        have lz := load_int8 w1.drew _ _ _ (cell_of_row _ _ 1 _ _ _ R1.out)
        have lk := load_int8 w1.drew _ _ _ (cell_of_row _ _ 4 _ _ _ R1.out)
        go_wp2_with fail
        go_region
        go_wp2
        go_ret3
        exact ⟨rfl, B1.out.drew⟩
    · have lo := load_int8 w1.drew _ _ _ (cell_of_row _ _ 0 _ _ _ R1.out)
      have lz := load_int8 w1.drew _ _ _ (cell_of_row _ _ 1 _ _ _ R1.out)
      have lk := load_int8 w1.drew _ _ _ (cell_of_row _ _ 4 _ _ _ R1.out)
      go_wp2_with fail
      go_region
      go_wp2
      go_ret3
      exact ⟨rfl, B1.out.drew⟩
set_option maxRecDepth 100000 in
set_option maxHeartbeats 2000000 in
theorem base0S (op sz cd fr : Int) (d s : Opd) (ln : Int) (w : World) (t0 t1 t2 t3 t4 : Bool) (e0 : (op != 1) = t0) (e1 : (sz != 8) = t1) (e2 : (d.k != 1) = t2) (e3 : (s.k != 1) = t3) (e4 : (s.r != 15) = t4) :
    Calls Tryd.prog 33 #[.agg #[.int .i64 op, .int .i64 sz, .int .i64 cd, .int .i64 fr, .int .i64 d.k, .int .i64 d.r, .int .i64 d.b, .int .i64 d.i, .int .i64 d.s, .int .i64 d.d, .int .i64 d.m, .int .i64 s.k, .int .i64 s.r, .int .i64 s.b, .int .i64 s.i, .int .i64 s.s, .int .i64 s.d, .int .i64 s.m, .int .i64 ln]] w fun e w' => e = .returned (.tuple (base0 (t0 || (t1 || (t2 || (t3 || t4)))) d.r)) ∧ Below w.heap.size w w' := by
  have R0 := Lib.hid (heap_alloc_new w (.cells #[.int .i64 op, .int .i64 sz, .int .i64 cd, .int .i64 fr, .int .i64 d.k, .int .i64 d.r, .int .i64 d.b, .int .i64 d.i, .int .i64 d.s, .int .i64 d.d, .int .i64 d.m, .int .i64 s.k, .int .i64 s.r, .int .i64 s.b, .int .i64 s.i, .int .i64 s.s, .int .i64 s.d, .int .i64 s.m, .int .i64 ln] 30))
  have B0 := Lib.hid (belA w (.cells #[.int .i64 op, .int .i64 sz, .int .i64 cd, .int .i64 fr, .int .i64 d.k, .int .i64 d.r, .int .i64 d.b, .int .i64 d.i, .int .i64 d.s, .int .i64 d.d, .int .i64 d.m, .int .i64 s.k, .int .i64 s.r, .int .i64 s.b, .int .i64 s.i, .int .i64 s.s, .int .i64 s.d, .int .i64 s.m, .int .i64 ln] 30))
  go_enter Tryd.func33, Tryd.ntmps33
  have c0 := cell_of_row _ _ 0 _ _ _ R0.out
  have c1 := cell_of_row _ _ 1 _ _ _ R0.out
  have c4 := cell_of_row _ _ 4 _ _ _ R0.out
  have c5 := cell_of_row _ _ 5 _ _ _ R0.out
  have c11 := cell_of_row _ _ 11 _ _ _ R0.out
  have c12 := cell_of_row _ _ 12 _ _ _ R0.out
  simp only [List.getElem?_toArray, List.getElem?_cons_zero, List.getElem?_cons_succ] at c0 c1 c4 c5 c11 c12
  cases t0
  · cases t1
    · cases t2
      · cases t3
        · cases t4
          · go_wp2
            go_ret2
            exact ⟨rfl, B0.out⟩
          · go_wp2
            go_ret2
            exact ⟨rfl, B0.out⟩
        · go_wp2
          go_ret2
          exact ⟨rfl, B0.out⟩
      · go_wp2
        go_ret2
        exact ⟨rfl, B0.out⟩
    · go_wp2
      go_ret2
      exact ⟨rfl, B0.out⟩
  · go_wp2
    go_ret2
    exact ⟨rfl, B0.out⟩
set_option maxRecDepth 100000 in
set_option maxHeartbeats 2000000 in
theorem baseS (op sz cd fr : Int) (d s : Opd) (ln : Int) (w : World) (b t0 t1 t2 t3 t4 : Bool) (CI : Hid (∀ W, Calls Tryd.prog 23 #[.agg #[.int .i64 op, .int .i64 sz, .int .i64 cd, .int .i64 fr, .int .i64 d.k, .int .i64 d.r, .int .i64 d.b, .int .i64 d.i, .int .i64 d.s, .int .i64 d.d, .int .i64 d.m, .int .i64 s.k, .int .i64 s.r, .int .i64 s.b, .int .i64 s.i, .int .i64 s.s, .int .i64 s.d, .int .i64 s.m, .int .i64 ln]] W fun e w' => e = .returned (.bool b) ∧ Below W.heap.size W w')) (e0 : (op != 1) = t0) (e1 : (sz != 8) = t1) (e2 : (d.k != 1) = t2) (e3 : (s.k != 1) = t3) (e4 : (s.r != 15) = t4) :
    Calls Tryd.prog 17 #[.agg #[.int .i64 op, .int .i64 sz, .int .i64 cd, .int .i64 fr, .int .i64 d.k, .int .i64 d.r, .int .i64 d.b, .int .i64 d.i, .int .i64 d.s, .int .i64 d.d, .int .i64 d.m, .int .i64 s.k, .int .i64 s.r, .int .i64 s.b, .int .i64 s.i, .int .i64 s.s, .int .i64 s.d, .int .i64 s.m, .int .i64 ln]] w fun e w' => e = .returned (.tuple (baseV b (t0 || (t1 || (t2 || (t3 || t4)))) d.r)) ∧ Below w.heap.size w w' := by
  have R0 := Lib.hid (heap_alloc_new w (.cells #[.int .i64 op, .int .i64 sz, .int .i64 cd, .int .i64 fr, .int .i64 d.k, .int .i64 d.r, .int .i64 d.b, .int .i64 d.i, .int .i64 d.s, .int .i64 d.d, .int .i64 d.m, .int .i64 s.k, .int .i64 s.r, .int .i64 s.b, .int .i64 s.i, .int .i64 s.s, .int .i64 s.d, .int .i64 s.m, .int .i64 ln] 30))
  have B0 := Lib.hid (belA w (.cells #[.int .i64 op, .int .i64 sz, .int .i64 cd, .int .i64 fr, .int .i64 d.k, .int .i64 d.r, .int .i64 d.b, .int .i64 d.i, .int .i64 d.s, .int .i64 d.d, .int .i64 d.m, .int .i64 s.k, .int .i64 s.r, .int .i64 s.b, .int .i64 s.i, .int .i64 s.s, .int .i64 s.d, .int .i64 s.m, .int .i64 ln] 30))
  have CC := Lib.hid (fun W => base0S op sz cd fr d s ln W t0 t1 t2 t3 t4 e0 e1 e2 e3 e4)
  go_enter Tryd.func17, Tryd.ntmps17
  go_wp2_with (first | refine wpList_load_row rfl 30 (.tmp 1) rfl w.heap.size rfl 30 #[.int .i64 op, .int .i64 sz, .int .i64 cd, .int .i64 fr, .int .i64 d.k, .int .i64 d.r, .int .i64 d.b, .int .i64 d.i, .int .i64 d.s, .int .i64 d.d, .int .i64 d.m, .int .i64 s.k, .int .i64 s.r, .int .i64 s.b, .int .i64 s.i, .int .i64 s.s, .int .i64 s.d, .int .i64 s.m, .int .i64 ln] (0, 0) _ R0.out Tryd.underlying30 rfl (by kernel_rfl) ?_ | refine load_rowT (by rfl) 30 (.tmp 1) rfl w.heap.size rfl 30 #[.int .i64 op, .int .i64 sz, .int .i64 cd, .int .i64 fr, .int .i64 d.k, .int .i64 d.r, .int .i64 d.b, .int .i64 d.i, .int .i64 d.s, .int .i64 d.d, .int .i64 d.m, .int .i64 s.k, .int .i64 s.r, .int .i64 s.b, .int .i64 s.i, .int .i64 s.s, .int .i64 s.d, .int .i64 s.m, .int .i64 ln] (0, 0) _ R0.out Tryd.underlying30 rfl (by kernel_rfl) ?_)
  refine (CI.out _).mono ?_
  rintro e w1 ⟨rfl, hb⟩
  have B1 := Lib.hid (B0.out.trans (hb.mono B0.out.size))
  have R1 := Lib.hid ((hb.block _ (lt_of_blk R0.out)).trans R0.out)
  clear hb
  cases b
  · go_wp2
    go_ret3
    exact ⟨rfl, B1.out⟩
  · cases t0
    · cases t1
      · cases t2
        · cases t3
          · cases t4
            · simp only [base0, Bool.true_or, Bool.or_true, Bool.false_or, Bool.or_false, Bool.or_self] at CC
              go_wp2_with (first | refine wpList_load_row rfl 30 (.tmp 1) rfl w.heap.size rfl 30 #[.int .i64 op, .int .i64 sz, .int .i64 cd, .int .i64 fr, .int .i64 d.k, .int .i64 d.r, .int .i64 d.b, .int .i64 d.i, .int .i64 d.s, .int .i64 d.d, .int .i64 d.m, .int .i64 s.k, .int .i64 s.r, .int .i64 s.b, .int .i64 s.i, .int .i64 s.s, .int .i64 s.d, .int .i64 s.m, .int .i64 ln] (0, 0) _ R1.out Tryd.underlying30 rfl (by kernel_rfl) ?_ | refine load_rowT (by rfl) 30 (.tmp 1) rfl w.heap.size rfl 30 #[.int .i64 op, .int .i64 sz, .int .i64 cd, .int .i64 fr, .int .i64 d.k, .int .i64 d.r, .int .i64 d.b, .int .i64 d.i, .int .i64 d.s, .int .i64 d.d, .int .i64 d.m, .int .i64 s.k, .int .i64 s.r, .int .i64 s.b, .int .i64 s.i, .int .i64 s.s, .int .i64 s.d, .int .i64 s.m, .int .i64 ln] (0, 0) _ R1.out Tryd.underlying30 rfl (by kernel_rfl) ?_)
              refine (CC.out _).mono ?_
              rintro e w2 ⟨rfl, hb⟩
              have B2 := Lib.hid (B1.out.trans (hb.mono B1.out.size))
              clear hb
              go_wp2
              go_ret3
              exact ⟨rfl, B2.out⟩
            · simp only [base0, Bool.true_or, Bool.or_true, Bool.false_or, Bool.or_false, Bool.or_self] at CC
              go_wp2_with (first | refine wpList_load_row rfl 30 (.tmp 1) rfl w.heap.size rfl 30 #[.int .i64 op, .int .i64 sz, .int .i64 cd, .int .i64 fr, .int .i64 d.k, .int .i64 d.r, .int .i64 d.b, .int .i64 d.i, .int .i64 d.s, .int .i64 d.d, .int .i64 d.m, .int .i64 s.k, .int .i64 s.r, .int .i64 s.b, .int .i64 s.i, .int .i64 s.s, .int .i64 s.d, .int .i64 s.m, .int .i64 ln] (0, 0) _ R1.out Tryd.underlying30 rfl (by kernel_rfl) ?_ | refine load_rowT (by rfl) 30 (.tmp 1) rfl w.heap.size rfl 30 #[.int .i64 op, .int .i64 sz, .int .i64 cd, .int .i64 fr, .int .i64 d.k, .int .i64 d.r, .int .i64 d.b, .int .i64 d.i, .int .i64 d.s, .int .i64 d.d, .int .i64 d.m, .int .i64 s.k, .int .i64 s.r, .int .i64 s.b, .int .i64 s.i, .int .i64 s.s, .int .i64 s.d, .int .i64 s.m, .int .i64 ln] (0, 0) _ R1.out Tryd.underlying30 rfl (by kernel_rfl) ?_)
              refine (CC.out _).mono ?_
              rintro e w2 ⟨rfl, hb⟩
              have B2 := Lib.hid (B1.out.trans (hb.mono B1.out.size))
              clear hb
              go_wp2
              go_ret3
              exact ⟨rfl, B2.out⟩
          · simp only [base0, Bool.true_or, Bool.or_true, Bool.false_or, Bool.or_false, Bool.or_self] at CC
            go_wp2_with (first | refine wpList_load_row rfl 30 (.tmp 1) rfl w.heap.size rfl 30 #[.int .i64 op, .int .i64 sz, .int .i64 cd, .int .i64 fr, .int .i64 d.k, .int .i64 d.r, .int .i64 d.b, .int .i64 d.i, .int .i64 d.s, .int .i64 d.d, .int .i64 d.m, .int .i64 s.k, .int .i64 s.r, .int .i64 s.b, .int .i64 s.i, .int .i64 s.s, .int .i64 s.d, .int .i64 s.m, .int .i64 ln] (0, 0) _ R1.out Tryd.underlying30 rfl (by kernel_rfl) ?_ | refine load_rowT (by rfl) 30 (.tmp 1) rfl w.heap.size rfl 30 #[.int .i64 op, .int .i64 sz, .int .i64 cd, .int .i64 fr, .int .i64 d.k, .int .i64 d.r, .int .i64 d.b, .int .i64 d.i, .int .i64 d.s, .int .i64 d.d, .int .i64 d.m, .int .i64 s.k, .int .i64 s.r, .int .i64 s.b, .int .i64 s.i, .int .i64 s.s, .int .i64 s.d, .int .i64 s.m, .int .i64 ln] (0, 0) _ R1.out Tryd.underlying30 rfl (by kernel_rfl) ?_)
            refine (CC.out _).mono ?_
            rintro e w2 ⟨rfl, hb⟩
            have B2 := Lib.hid (B1.out.trans (hb.mono B1.out.size))
            clear hb
            go_wp2
            go_ret3
            exact ⟨rfl, B2.out⟩
        · simp only [base0, Bool.true_or, Bool.or_true, Bool.false_or, Bool.or_false, Bool.or_self] at CC
          go_wp2_with (first | refine wpList_load_row rfl 30 (.tmp 1) rfl w.heap.size rfl 30 #[.int .i64 op, .int .i64 sz, .int .i64 cd, .int .i64 fr, .int .i64 d.k, .int .i64 d.r, .int .i64 d.b, .int .i64 d.i, .int .i64 d.s, .int .i64 d.d, .int .i64 d.m, .int .i64 s.k, .int .i64 s.r, .int .i64 s.b, .int .i64 s.i, .int .i64 s.s, .int .i64 s.d, .int .i64 s.m, .int .i64 ln] (0, 0) _ R1.out Tryd.underlying30 rfl (by kernel_rfl) ?_ | refine load_rowT (by rfl) 30 (.tmp 1) rfl w.heap.size rfl 30 #[.int .i64 op, .int .i64 sz, .int .i64 cd, .int .i64 fr, .int .i64 d.k, .int .i64 d.r, .int .i64 d.b, .int .i64 d.i, .int .i64 d.s, .int .i64 d.d, .int .i64 d.m, .int .i64 s.k, .int .i64 s.r, .int .i64 s.b, .int .i64 s.i, .int .i64 s.s, .int .i64 s.d, .int .i64 s.m, .int .i64 ln] (0, 0) _ R1.out Tryd.underlying30 rfl (by kernel_rfl) ?_)
          refine (CC.out _).mono ?_
          rintro e w2 ⟨rfl, hb⟩
          have B2 := Lib.hid (B1.out.trans (hb.mono B1.out.size))
          clear hb
          go_wp2
          go_ret3
          exact ⟨rfl, B2.out⟩
      · simp only [base0, Bool.true_or, Bool.or_true, Bool.false_or, Bool.or_false, Bool.or_self] at CC
        go_wp2_with (first | refine wpList_load_row rfl 30 (.tmp 1) rfl w.heap.size rfl 30 #[.int .i64 op, .int .i64 sz, .int .i64 cd, .int .i64 fr, .int .i64 d.k, .int .i64 d.r, .int .i64 d.b, .int .i64 d.i, .int .i64 d.s, .int .i64 d.d, .int .i64 d.m, .int .i64 s.k, .int .i64 s.r, .int .i64 s.b, .int .i64 s.i, .int .i64 s.s, .int .i64 s.d, .int .i64 s.m, .int .i64 ln] (0, 0) _ R1.out Tryd.underlying30 rfl (by kernel_rfl) ?_ | refine load_rowT (by rfl) 30 (.tmp 1) rfl w.heap.size rfl 30 #[.int .i64 op, .int .i64 sz, .int .i64 cd, .int .i64 fr, .int .i64 d.k, .int .i64 d.r, .int .i64 d.b, .int .i64 d.i, .int .i64 d.s, .int .i64 d.d, .int .i64 d.m, .int .i64 s.k, .int .i64 s.r, .int .i64 s.b, .int .i64 s.i, .int .i64 s.s, .int .i64 s.d, .int .i64 s.m, .int .i64 ln] (0, 0) _ R1.out Tryd.underlying30 rfl (by kernel_rfl) ?_)
        refine (CC.out _).mono ?_
        rintro e w2 ⟨rfl, hb⟩
        have B2 := Lib.hid (B1.out.trans (hb.mono B1.out.size))
        clear hb
        go_wp2
        go_ret3
        exact ⟨rfl, B2.out⟩
    · simp only [base0, Bool.true_or, Bool.or_true, Bool.false_or, Bool.or_false, Bool.or_self] at CC
      go_wp2_with (first | refine wpList_load_row rfl 30 (.tmp 1) rfl w.heap.size rfl 30 #[.int .i64 op, .int .i64 sz, .int .i64 cd, .int .i64 fr, .int .i64 d.k, .int .i64 d.r, .int .i64 d.b, .int .i64 d.i, .int .i64 d.s, .int .i64 d.d, .int .i64 d.m, .int .i64 s.k, .int .i64 s.r, .int .i64 s.b, .int .i64 s.i, .int .i64 s.s, .int .i64 s.d, .int .i64 s.m, .int .i64 ln] (0, 0) _ R1.out Tryd.underlying30 rfl (by kernel_rfl) ?_ | refine load_rowT (by rfl) 30 (.tmp 1) rfl w.heap.size rfl 30 #[.int .i64 op, .int .i64 sz, .int .i64 cd, .int .i64 fr, .int .i64 d.k, .int .i64 d.r, .int .i64 d.b, .int .i64 d.i, .int .i64 d.s, .int .i64 d.d, .int .i64 d.m, .int .i64 s.k, .int .i64 s.r, .int .i64 s.b, .int .i64 s.i, .int .i64 s.s, .int .i64 s.d, .int .i64 s.m, .int .i64 ln] (0, 0) _ R1.out Tryd.underlying30 rfl (by kernel_rfl) ?_)
      refine (CC.out _).mono ?_
      rintro e w2 ⟨rfl, hb⟩
      have B2 := Lib.hid (B1.out.trans (hb.mono B1.out.size))
      clear hb
      go_wp2
      go_ret3
      exact ⟨rfl, B2.out⟩
def goalN (at' ln m : Int) : Int := wrap64 (wrap64 (at' + ln) + m)
def goalV (b o h : Bool) (n : Int) : Array Value := match b, o, h with
  | false, _, _ => #[.int .i64 0, .bool false, .int .i64 1]
  | true, true, _ => #[.int .i64 0, .bool false, .int .i64 4]
  | true, false, true => #[.int .i64 0, .bool false, .int .i64 0]
  | true, false, false => #[.int .i64 n, .bool true, .int .i64 0]
set_option maxRecDepth 100000 in
set_option maxHeartbeats 2000000 in
theorem goalI (op sz cd fr : Int) (d s : Opd) (ln : Int) (w : World) (at' k : Int) (b o1 o2 t0 t1 : Bool) (CI : Hid (∀ W, Below w.heap.size w W → Calls Tryd.prog 27 #[.agg #[.int .i64 op, .int .i64 sz, .int .i64 cd, .int .i64 fr, .int .i64 d.k, .int .i64 d.r, .int .i64 d.b, .int .i64 d.i, .int .i64 d.s, .int .i64 d.d, .int .i64 d.m, .int .i64 s.k, .int .i64 s.r, .int .i64 s.b, .int .i64 s.i, .int .i64 s.s, .int .i64 s.d, .int .i64 s.m, .int .i64 ln]] W fun e w' => e = .returned (.bool b) ∧ Below W.heap.size W w')) (CC0 : Hid (b = true → ∀ W, Calls Tryd.prog 36 #[.int .i64 op] W fun e w' => e = .returned (.tuple #[.int .i64 k, .int .i64 0]) ∧ W = w')) (f1 : decide (at' < 0) = o1) (f2 : decide (65535 < at') = o2) (e0 : (k != 2) = t0) (e1 : (s.k != 3) = t1) :
    Calls Tryd.prog 20 #[.agg #[.int .i64 op, .int .i64 sz, .int .i64 cd, .int .i64 fr, .int .i64 d.k, .int .i64 d.r, .int .i64 d.b, .int .i64 d.i, .int .i64 d.s, .int .i64 d.d, .int .i64 d.m, .int .i64 s.k, .int .i64 s.r, .int .i64 s.b, .int .i64 s.i, .int .i64 s.s, .int .i64 s.d, .int .i64 s.m, .int .i64 ln], .int .i64 at'] w fun e w' => e = .returned (.tuple (goalV b (o1 || o2) (t0 || t1) (goalN at' ln s.m))) ∧ Below w.heap.size w w' := by
  have R0 := Lib.hid (heap_alloc_new w (.cells #[.int .i64 op, .int .i64 sz, .int .i64 cd, .int .i64 fr, .int .i64 d.k, .int .i64 d.r, .int .i64 d.b, .int .i64 d.i, .int .i64 d.s, .int .i64 d.d, .int .i64 d.m, .int .i64 s.k, .int .i64 s.r, .int .i64 s.b, .int .i64 s.i, .int .i64 s.s, .int .i64 s.d, .int .i64 s.m, .int .i64 ln] 30))
  have B0 := Lib.hid (belA w (.cells #[.int .i64 op, .int .i64 sz, .int .i64 cd, .int .i64 fr, .int .i64 d.k, .int .i64 d.r, .int .i64 d.b, .int .i64 d.i, .int .i64 d.s, .int .i64 d.d, .int .i64 d.m, .int .i64 s.k, .int .i64 s.r, .int .i64 s.b, .int .i64 s.i, .int .i64 s.s, .int .i64 s.d, .int .i64 s.m, .int .i64 ln] 30))
  go_enter Tryd.func20, Tryd.ntmps20
  go_wp2_with (first | refine wpList_load_row rfl 30 (.tmp 2) rfl w.heap.size rfl 30 #[.int .i64 op, .int .i64 sz, .int .i64 cd, .int .i64 fr, .int .i64 d.k, .int .i64 d.r, .int .i64 d.b, .int .i64 d.i, .int .i64 d.s, .int .i64 d.d, .int .i64 d.m, .int .i64 s.k, .int .i64 s.r, .int .i64 s.b, .int .i64 s.i, .int .i64 s.s, .int .i64 s.d, .int .i64 s.m, .int .i64 ln] (0, 0) _ R0.out Tryd.underlying30 rfl (by kernel_rfl) ?_ | refine load_rowT (by rfl) 30 (.tmp 2) rfl w.heap.size rfl 30 #[.int .i64 op, .int .i64 sz, .int .i64 cd, .int .i64 fr, .int .i64 d.k, .int .i64 d.r, .int .i64 d.b, .int .i64 d.i, .int .i64 d.s, .int .i64 d.d, .int .i64 d.m, .int .i64 s.k, .int .i64 s.r, .int .i64 s.b, .int .i64 s.i, .int .i64 s.s, .int .i64 s.d, .int .i64 s.m, .int .i64 ln] (0, 0) _ R0.out Tryd.underlying30 rfl (by kernel_rfl) ?_)
  refine (CI.out _ B0.out).mono ?_
  rintro e w1 ⟨rfl, hb⟩
  have B1 := Lib.hid (B0.out.trans (hb.mono B0.out.size))
  have R1 := Lib.hid ((hb.block _ (lt_of_blk R0.out)).trans R0.out)
  clear hb
  cases b
  · go_wp2
    go_ret3
    exact ⟨rfl, B1.out⟩
  · have c0 := cell_of_row _ _ 0 _ _ _ R1.out
    have c11 := cell_of_row _ _ 11 _ _ _ R1.out
    have c17 := cell_of_row _ _ 17 _ _ _ R1.out
    have c18 := cell_of_row _ _ 18 _ _ _ R1.out
    simp only [List.getElem?_toArray, List.getElem?_cons_zero, List.getElem?_cons_succ] at c0 c11 c17 c18
    have CC := Lib.hid (CC0.out rfl)
    cases o1
    · cases o2
      · go_wp2_with fail
        refine (CC.out _).mono ?_
        rintro e w2 ⟨rfl, rfl⟩
        cases t0
        · cases t1
          · go_wp2
            go_ret3
            exact ⟨rfl, B1.out⟩
          · go_wp2
            go_ret3
            exact ⟨rfl, B1.out⟩
        · go_wp2
          go_ret3
          exact ⟨rfl, B1.out⟩
      · go_wp2
        go_ret3
        exact ⟨rfl, B1.out⟩
    · go_wp2
      go_ret3
      exact ⟨rfl, B1.out⟩
def goal0 (h : Bool) (n : Int) : Array Value := match h with
  | true => #[.int .i64 0, .bool false]
  | false => #[.int .i64 n, .bool true]
set_option maxHeartbeats 2000000 in
theorem flowS (op : Int) (w : World) : Calls Tryd.prog 56 #[.int .i64 op] w fun e w' => e = .returned (.bool (Cl.clsOf op == 2)) ∧ Below w.heap.size w w' := by
  have CC := Lib.hid (Cl.l03ClassC op)
  generalize Cl.clsOf op = k at *
  go_enter Tryd.func56, Tryd.ntmps56
  go_wp2_with fail
  refine (CC.out _).mono ?_
  rintro e w1 ⟨rfl, rfl⟩
  go_wp2
  go_ret
  exact ⟨rfl, Below.refl _ _⟩
set_option maxRecDepth 100000 in
set_option maxHeartbeats 2000000 in
theorem goal0S (op sz cd fr : Int) (d s : Opd) (ln : Int) (w : World) (at' : Int) (t0 t1 : Bool) (CF : Hid (∀ W, Calls Tryd.prog 56 #[.int .i64 op] W fun e w' => e = .returned (.bool (!t0)) ∧ Below W.heap.size W w')) (e1 : (s.k != 3) = t1) :
    Calls Tryd.prog 35 #[.agg #[.int .i64 op, .int .i64 sz, .int .i64 cd, .int .i64 fr, .int .i64 d.k, .int .i64 d.r, .int .i64 d.b, .int .i64 d.i, .int .i64 d.s, .int .i64 d.d, .int .i64 d.m, .int .i64 s.k, .int .i64 s.r, .int .i64 s.b, .int .i64 s.i, .int .i64 s.s, .int .i64 s.d, .int .i64 s.m, .int .i64 ln], .int .i64 at'] w fun e w' => e = .returned (.tuple (goal0 (t0 || t1) (goalN at' ln s.m))) ∧ Below w.heap.size w w' := by
  have R0 := Lib.hid (heap_alloc_new w (.cells #[.int .i64 op, .int .i64 sz, .int .i64 cd, .int .i64 fr, .int .i64 d.k, .int .i64 d.r, .int .i64 d.b, .int .i64 d.i, .int .i64 d.s, .int .i64 d.d, .int .i64 d.m, .int .i64 s.k, .int .i64 s.r, .int .i64 s.b, .int .i64 s.i, .int .i64 s.s, .int .i64 s.d, .int .i64 s.m, .int .i64 ln] 30))
  have B0 := Lib.hid (belA w (.cells #[.int .i64 op, .int .i64 sz, .int .i64 cd, .int .i64 fr, .int .i64 d.k, .int .i64 d.r, .int .i64 d.b, .int .i64 d.i, .int .i64 d.s, .int .i64 d.d, .int .i64 d.m, .int .i64 s.k, .int .i64 s.r, .int .i64 s.b, .int .i64 s.i, .int .i64 s.s, .int .i64 s.d, .int .i64 s.m, .int .i64 ln] 30))
  go_enter Tryd.func35, Tryd.ntmps35
  have c0 := cell_of_row _ _ 0 _ _ _ R0.out
  simp only [List.getElem?_toArray, List.getElem?_cons_zero, List.getElem?_cons_succ] at c0
  go_wp2_with fail
  refine (CF.out _).mono ?_
  rintro e w1 ⟨rfl, hb⟩
  have B1 := Lib.hid (B0.out.trans (hb.mono B0.out.size))
  have R1 := Lib.hid ((hb.block _ (lt_of_blk R0.out)).trans R0.out)
  clear hb c0
  have c11 := cell_of_row _ _ 11 _ _ _ R1.out
  have c17 := cell_of_row _ _ 17 _ _ _ R1.out
  have c18 := cell_of_row _ _ 18 _ _ _ R1.out
  simp only [List.getElem?_toArray, List.getElem?_cons_zero, List.getElem?_cons_succ] at c11 c17 c18
  cases t0
  · cases t1
    · go_wp2
      go_ret2
      exact ⟨rfl, B1.out⟩
    · go_wp2
      go_ret2
      exact ⟨rfl, B1.out⟩
  · go_wp2
    go_ret2
    exact ⟨rfl, B1.out⟩
set_option maxRecDepth 100000 in
set_option maxHeartbeats 2000000 in
theorem goalS (op sz cd fr : Int) (d s : Opd) (ln : Int) (w : World) (at' : Int) (b o t0 t1 : Bool) (CI : Hid (∀ W, Calls Tryd.prog 23 #[.agg #[.int .i64 op, .int .i64 sz, .int .i64 cd, .int .i64 fr, .int .i64 d.k, .int .i64 d.r, .int .i64 d.b, .int .i64 d.i, .int .i64 d.s, .int .i64 d.d, .int .i64 d.m, .int .i64 s.k, .int .i64 s.r, .int .i64 s.b, .int .i64 s.i, .int .i64 s.s, .int .i64 s.d, .int .i64 s.m, .int .i64 ln]] W fun e w' => e = .returned (.bool b) ∧ Below W.heap.size W w')) (CF : Hid (∀ W, Calls Tryd.prog 56 #[.int .i64 op] W fun e w' => e = .returned (.bool (!t0)) ∧ Below W.heap.size W w')) (CN : Hid (∀ W, Calls Tryd.prog 24 #[.int .i64 at', .int .i64 0, .int .i64 65535] W fun e w' => e = .returned (.bool (!o)) ∧ w' = W)) (e1 : (s.k != 3) = t1) :
    Calls Tryd.prog 19 #[.agg #[.int .i64 op, .int .i64 sz, .int .i64 cd, .int .i64 fr, .int .i64 d.k, .int .i64 d.r, .int .i64 d.b, .int .i64 d.i, .int .i64 d.s, .int .i64 d.d, .int .i64 d.m, .int .i64 s.k, .int .i64 s.r, .int .i64 s.b, .int .i64 s.i, .int .i64 s.s, .int .i64 s.d, .int .i64 s.m, .int .i64 ln], .int .i64 at'] w fun e w' => e = .returned (.tuple (goalV b o (t0 || t1) (goalN at' ln s.m))) ∧ Below w.heap.size w w' := by
  have R0 := Lib.hid (heap_alloc_new w (.cells #[.int .i64 op, .int .i64 sz, .int .i64 cd, .int .i64 fr, .int .i64 d.k, .int .i64 d.r, .int .i64 d.b, .int .i64 d.i, .int .i64 d.s, .int .i64 d.d, .int .i64 d.m, .int .i64 s.k, .int .i64 s.r, .int .i64 s.b, .int .i64 s.i, .int .i64 s.s, .int .i64 s.d, .int .i64 s.m, .int .i64 ln] 30))
  have B0 := Lib.hid (belA w (.cells #[.int .i64 op, .int .i64 sz, .int .i64 cd, .int .i64 fr, .int .i64 d.k, .int .i64 d.r, .int .i64 d.b, .int .i64 d.i, .int .i64 d.s, .int .i64 d.d, .int .i64 d.m, .int .i64 s.k, .int .i64 s.r, .int .i64 s.b, .int .i64 s.i, .int .i64 s.s, .int .i64 s.d, .int .i64 s.m, .int .i64 ln] 30))
  have CC := Lib.hid (fun W => goal0S op sz cd fr d s ln W at' t0 t1 CF e1)
  go_enter Tryd.func19, Tryd.ntmps19
  go_wp2_with (first | refine wpList_load_row rfl 30 (.tmp 2) rfl w.heap.size rfl 30 #[.int .i64 op, .int .i64 sz, .int .i64 cd, .int .i64 fr, .int .i64 d.k, .int .i64 d.r, .int .i64 d.b, .int .i64 d.i, .int .i64 d.s, .int .i64 d.d, .int .i64 d.m, .int .i64 s.k, .int .i64 s.r, .int .i64 s.b, .int .i64 s.i, .int .i64 s.s, .int .i64 s.d, .int .i64 s.m, .int .i64 ln] (0, 0) _ R0.out Tryd.underlying30 rfl (by kernel_rfl) ?_ | refine load_rowT (by rfl) 30 (.tmp 2) rfl w.heap.size rfl 30 #[.int .i64 op, .int .i64 sz, .int .i64 cd, .int .i64 fr, .int .i64 d.k, .int .i64 d.r, .int .i64 d.b, .int .i64 d.i, .int .i64 d.s, .int .i64 d.d, .int .i64 d.m, .int .i64 s.k, .int .i64 s.r, .int .i64 s.b, .int .i64 s.i, .int .i64 s.s, .int .i64 s.d, .int .i64 s.m, .int .i64 ln] (0, 0) _ R0.out Tryd.underlying30 rfl (by kernel_rfl) ?_)
  refine (CI.out _).mono ?_
  rintro e w1 ⟨rfl, hb⟩
  have B1 := Lib.hid (B0.out.trans (hb.mono B0.out.size))
  have R1 := Lib.hid ((hb.block _ (lt_of_blk R0.out)).trans R0.out)
  clear hb
  cases b
  · go_wp2
    go_ret3
    exact ⟨rfl, B1.out⟩
  · go_wp2_with fail
    refine (CN.out _).mono ?_
    rintro e w2 ⟨rfl, rfl⟩
    cases o
    · cases t0
      · cases t1
        · simp only [goal0, Bool.true_or, Bool.or_true, Bool.false_or, Bool.or_false, Bool.or_self] at CC
          go_wp2_with (first | refine wpList_load_row rfl 30 (.tmp 2) rfl w.heap.size rfl 30 #[.int .i64 op, .int .i64 sz, .int .i64 cd, .int .i64 fr, .int .i64 d.k, .int .i64 d.r, .int .i64 d.b, .int .i64 d.i, .int .i64 d.s, .int .i64 d.d, .int .i64 d.m, .int .i64 s.k, .int .i64 s.r, .int .i64 s.b, .int .i64 s.i, .int .i64 s.s, .int .i64 s.d, .int .i64 s.m, .int .i64 ln] (0, 0) _ R1.out Tryd.underlying30 rfl (by kernel_rfl) ?_ | refine load_rowT (by rfl) 30 (.tmp 2) rfl w.heap.size rfl 30 #[.int .i64 op, .int .i64 sz, .int .i64 cd, .int .i64 fr, .int .i64 d.k, .int .i64 d.r, .int .i64 d.b, .int .i64 d.i, .int .i64 d.s, .int .i64 d.d, .int .i64 d.m, .int .i64 s.k, .int .i64 s.r, .int .i64 s.b, .int .i64 s.i, .int .i64 s.s, .int .i64 s.d, .int .i64 s.m, .int .i64 ln] (0, 0) _ R1.out Tryd.underlying30 rfl (by kernel_rfl) ?_)
          refine (CC.out _).mono ?_
          rintro e w2 ⟨rfl, hb⟩
          have B2 := Lib.hid (B1.out.trans (hb.mono B1.out.size))
          clear hb
          go_wp2
          go_ret3
          exact ⟨rfl, B2.out⟩
        · simp only [goal0, Bool.true_or, Bool.or_true, Bool.false_or, Bool.or_false, Bool.or_self] at CC
          go_wp2_with (first | refine wpList_load_row rfl 30 (.tmp 2) rfl w.heap.size rfl 30 #[.int .i64 op, .int .i64 sz, .int .i64 cd, .int .i64 fr, .int .i64 d.k, .int .i64 d.r, .int .i64 d.b, .int .i64 d.i, .int .i64 d.s, .int .i64 d.d, .int .i64 d.m, .int .i64 s.k, .int .i64 s.r, .int .i64 s.b, .int .i64 s.i, .int .i64 s.s, .int .i64 s.d, .int .i64 s.m, .int .i64 ln] (0, 0) _ R1.out Tryd.underlying30 rfl (by kernel_rfl) ?_ | refine load_rowT (by rfl) 30 (.tmp 2) rfl w.heap.size rfl 30 #[.int .i64 op, .int .i64 sz, .int .i64 cd, .int .i64 fr, .int .i64 d.k, .int .i64 d.r, .int .i64 d.b, .int .i64 d.i, .int .i64 d.s, .int .i64 d.d, .int .i64 d.m, .int .i64 s.k, .int .i64 s.r, .int .i64 s.b, .int .i64 s.i, .int .i64 s.s, .int .i64 s.d, .int .i64 s.m, .int .i64 ln] (0, 0) _ R1.out Tryd.underlying30 rfl (by kernel_rfl) ?_)
          refine (CC.out _).mono ?_
          rintro e w2 ⟨rfl, hb⟩
          have B2 := Lib.hid (B1.out.trans (hb.mono B1.out.size))
          clear hb
          go_wp2
          go_ret3
          exact ⟨rfl, B2.out⟩
      · simp only [goal0, Bool.true_or, Bool.or_true, Bool.false_or, Bool.or_false, Bool.or_self] at CC
        go_wp2_with (first | refine wpList_load_row rfl 30 (.tmp 2) rfl w.heap.size rfl 30 #[.int .i64 op, .int .i64 sz, .int .i64 cd, .int .i64 fr, .int .i64 d.k, .int .i64 d.r, .int .i64 d.b, .int .i64 d.i, .int .i64 d.s, .int .i64 d.d, .int .i64 d.m, .int .i64 s.k, .int .i64 s.r, .int .i64 s.b, .int .i64 s.i, .int .i64 s.s, .int .i64 s.d, .int .i64 s.m, .int .i64 ln] (0, 0) _ R1.out Tryd.underlying30 rfl (by kernel_rfl) ?_ | refine load_rowT (by rfl) 30 (.tmp 2) rfl w.heap.size rfl 30 #[.int .i64 op, .int .i64 sz, .int .i64 cd, .int .i64 fr, .int .i64 d.k, .int .i64 d.r, .int .i64 d.b, .int .i64 d.i, .int .i64 d.s, .int .i64 d.d, .int .i64 d.m, .int .i64 s.k, .int .i64 s.r, .int .i64 s.b, .int .i64 s.i, .int .i64 s.s, .int .i64 s.d, .int .i64 s.m, .int .i64 ln] (0, 0) _ R1.out Tryd.underlying30 rfl (by kernel_rfl) ?_)
        refine (CC.out _).mono ?_
        rintro e w2 ⟨rfl, hb⟩
        have B2 := Lib.hid (B1.out.trans (hb.mono B1.out.size))
        clear hb
        go_wp2
        go_ret3
        exact ⟨rfl, B2.out⟩
    · go_wp2
      go_ret3
      exact ⟨rfl, B1.out⟩
end Go.Proofs.YtjnjlgaemmdkhaaDoor
