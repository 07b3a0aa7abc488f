/-
  What MemoryOf and ThroughOf of impl and their helpers of spec answer, by what InstrOK and ClassOf answer; conditions: those in each head.
-/
import Derived.Test.YtjnjlgaemmdkhaaDoorWalkTo
import Derived.Test.YtjnjlgaemmdkhaaDoorWalkShape4
import Derived.Laws.CopyOwn
namespace Go.Proofs.YtjnjlgaemmdkhaaDoor
open Go.RowKit Go.Sort
set_option linter.unusedVariables false
set_option linter.unusedSimpArgs false
theorem results_opd3 {P : Program} {fn : Func} {p u v : Tmp} {ty : TypeId} (h : fn.results = #[.cell p ty, .tmp u, .tmp v]) (tmps : Array Value) (w : World) (g : Nat) (t : TypeId) (cs : Array Value) (fr : Nat × Nat) (d : TypeDesc)
    (hp : tmps.getD p undef = .pointer (some ⟨g, 0, none⟩)) (hg : w.heap[g]? = some (.cells cs t fr))
    (hu : P.underlying ty = some d) (hd : (match d with | .struct _ | .array _ _ => true | _ => false) = true) (hi : (P.info? ty).map (·.size) = some cs.size) :
    (results fn tmps).run P w = .ok (.tuple #[.agg cs, tmps.getD u undef, tmps.getD v undef]) w := by
  have hp' : tmps[p]?.getD undef = .pointer (some ⟨g, 0, none⟩) := by simpa using hp
  simp [results, h, hp', asAddr, run_loadVar_row w g t ty cs fr d hg hu hd hi]
def opdA (o : Opd) : Array Value := #[.int .i64 o.k, .int .i64 o.r, .int .i64 o.b, .int .i64 o.i, .int .i64 o.s, .int .i64 o.d, .int .i64 o.m]
theorem opd_one (o : Opd) : (opdA o).all (·.oneCell') = true := by unfold opdA; kernel_rfl
def memV (b t0 t1 t2 : Bool) (d s : Opd) : Array Value := match b, t0, t1, t2 with
  | false, _, _, _ => #[.agg (opdA noOpd), .bool false, .int .i64 1]
  | true, true, _, _ => #[.agg (opdA noOpd), .bool false, .int .i64 0]
  | true, false, true, _ => #[.agg (opdA d), .bool true, .int .i64 0]
  | true, false, false, true => #[.agg (opdA s), .bool true, .int .i64 0]
  | true, false, false, false => #[.agg (opdA noOpd), .bool false, .int .i64 0]
def mem0 (t0 t1 t2 : Bool) (d s : Opd) : Array Value := match t0, t1, t2 with
  | true, _, _ => #[.agg (opdA noOpd), .bool false]
  | false, true, _ => #[.agg (opdA d), .bool true]
  | false, false, t => #[.agg (opdA s), .bool t]
def thrV (b t0 t1 : Bool) (s : Opd) : Array Value := match b, t0, t1 with
  | false, _, _ => #[.agg (opdA noOpd), .bool false, .int .i64 1]
  | true, true, _ => #[.agg (opdA noOpd), .bool false, .int .i64 0]
  | true, false, true => #[.agg (opdA noOpd), .bool false, .int .i64 0]
  | true, false, false => #[.agg (opdA s), .bool true, .int .i64 0]
def thr0 (t0 t1 : Bool) (s : Opd) : Array Value := match t0, t1 with
  | true, _ => #[.agg (opdA noOpd), .bool false]
  | false, true => #[.agg (opdA noOpd), .bool false]
  | false, false => #[.agg (opdA s), .bool true]
set_option maxRecDepth 100000 in
set_option maxHeartbeats 2000000 in
theorem memI (op sz cd fr : Int) (d s : Opd) (ln : Int) (w : World) (b t0 t1 t2 : Bool) (CI : Hid (∀ W, Below w.heap.size w W → Calls Tryd.prog 27 #[.agg #[.int .i64 op, .int .i64 sz, .int .i64 cd, .int .i64 fr, .int .i64 d.k, .int .i64 d.r, .int .i64 d.b, .int .i64 d.i, .int .i64 d.s, .int .i64 d.d, .int .i64 d.m, .int .i64 s.k, .int .i64 s.r, .int .i64 s.b, .int .i64 s.i, .int .i64 s.s, .int .i64 s.d, .int .i64 s.m, .int .i64 ln]] W fun e w' => e = .returned (.bool b) ∧ Below W.heap.size W w')) (e0 : (op == 25) = t0) (e1 : (d.k == 2) = t1) (e2 : (s.k == 2) = t2) :
    Calls Tryd.prog 13 #[.agg #[.int .i64 op, .int .i64 sz, .int .i64 cd, .int .i64 fr, .int .i64 d.k, .int .i64 d.r, .int .i64 d.b, .int .i64 d.i, .int .i64 d.s, .int .i64 d.d, .int .i64 d.m, .int .i64 s.k, .int .i64 s.r, .int .i64 s.b, .int .i64 s.i, .int .i64 s.s, .int .i64 s.d, .int .i64 s.m, .int .i64 ln]] w fun e w' => e = .returned (.tuple (memV b t0 t1 t2 d s)) ∧ Below w.heap.size w w' := by
  have R0 := Lib.hid (show (((w.alloc (.cells #[.int .i64 op, .int .i64 sz, .int .i64 cd, .int .i64 fr, .int .i64 d.k, .int .i64 d.r, .int .i64 d.b, .int .i64 d.i, .int .i64 d.s, .int .i64 d.d, .int .i64 d.m, .int .i64 s.k, .int .i64 s.r, .int .i64 s.b, .int .i64 s.i, .int .i64 s.s, .int .i64 s.d, .int .i64 s.m, .int .i64 ln] 30)).alloc (.cells (opdA noOpd) 28))).heap[w.heap.size]? = some (.cells #[.int .i64 op, .int .i64 sz, .int .i64 cd, .int .i64 fr, .int .i64 d.k, .int .i64 d.r, .int .i64 d.b, .int .i64 d.i, .int .i64 d.s, .int .i64 d.d, .int .i64 d.m, .int .i64 s.k, .int .i64 s.r, .int .i64 s.b, .int .i64 s.i, .int .i64 s.s, .int .i64 s.d, .int .i64 s.m, .int .i64 ln] 30 (0, 0)) from (Below.heap_alloc _ _ _ (by simp)).trans (heap_alloc_new w _))
  have Z0 := Lib.hid (show (((w.alloc (.cells #[.int .i64 op, .int .i64 sz, .int .i64 cd, .int .i64 fr, .int .i64 d.k, .int .i64 d.r, .int .i64 d.b, .int .i64 d.i, .int .i64 d.s, .int .i64 d.d, .int .i64 d.m, .int .i64 s.k, .int .i64 s.r, .int .i64 s.b, .int .i64 s.i, .int .i64 s.s, .int .i64 s.d, .int .i64 s.m, .int .i64 ln] 30)).alloc (.cells (opdA noOpd) 28))).heap[w.heap.size + 1]? = some (.cells (opdA noOpd) 28 (0, 0)) from by simpa using heap_alloc_new (w.alloc (.cells #[.int .i64 op, .int .i64 sz, .int .i64 cd, .int .i64 fr, .int .i64 d.k, .int .i64 d.r, .int .i64 d.b, .int .i64 d.i, .int .i64 d.s, .int .i64 d.d, .int .i64 d.m, .int .i64 s.k, .int .i64 s.r, .int .i64 s.b, .int .i64 s.i, .int .i64 s.s, .int .i64 s.d, .int .i64 s.m, .int .i64 ln] 30)) (.cells (opdA noOpd) 28))
  have B0 := Lib.hid (show Below w.heap.size w ((w.alloc (.cells #[.int .i64 op, .int .i64 sz, .int .i64 cd, .int .i64 fr, .int .i64 d.k, .int .i64 d.r, .int .i64 d.b, .int .i64 d.i, .int .i64 d.s, .int .i64 d.d, .int .i64 d.m, .int .i64 s.k, .int .i64 s.r, .int .i64 s.b, .int .i64 s.i, .int .i64 s.s, .int .i64 s.d, .int .i64 s.m, .int .i64 ln] 30)).alloc (.cells (opdA noOpd) 28)) from ((Below.refl _ _).alloc (Nat.le_refl _) _).alloc (by simp) _)
  go_enter Tryd.func13, Tryd.ntmps13
  go_wp2_with (first | refine wpList_load_row rfl 30 (.tmp 1) rfl w.heap.size rfl 30 #[.int .i64 op, .int .i64 sz, .int .i64 cd, .int .i64 fr, .int .i64 d.k, .int .i64 d.r, .int .i64 d.b, .int .i64 d.i, .int .i64 d.s, .int .i64 d.d, .int .i64 d.m, .int .i64 s.k, .int .i64 s.r, .int .i64 s.b, .int .i64 s.i, .int .i64 s.s, .int .i64 s.d, .int .i64 s.m, .int .i64 ln] (0, 0) _ R0.out Tryd.underlying30 rfl (by kernel_rfl) ?_ | refine load_rowT (by rfl) 30 (.tmp 1) rfl w.heap.size rfl 30 #[.int .i64 op, .int .i64 sz, .int .i64 cd, .int .i64 fr, .int .i64 d.k, .int .i64 d.r, .int .i64 d.b, .int .i64 d.i, .int .i64 d.s, .int .i64 d.d, .int .i64 d.m, .int .i64 s.k, .int .i64 s.r, .int .i64 s.b, .int .i64 s.i, .int .i64 s.s, .int .i64 s.d, .int .i64 s.m, .int .i64 ln] (0, 0) _ R0.out Tryd.underlying30 rfl (by kernel_rfl) ?_)
  refine (CI.out _ B0.out).mono ?_
  rintro e w1 ⟨rfl, hb⟩
  have B1 := Lib.hid (B0.out.trans (hb.mono B0.out.size))
  have R1 := Lib.hid ((hb.block _ (lt_of_blk R0.out)).trans R0.out)
  have Z1 := Lib.hid ((hb.block _ (lt_of_blk Z0.out)).trans Z0.out)
  clear hb
  cases b
  · go_wp2_with (first | (refine wpList_store_row rfl 28 (.tmp 2) (.tmp 9) rfl (w.heap.size + 1) (opdA noOpd) rfl rfl 28 _ Z1.out (by kernel_rfl) rfl (opd_one _) ?_))
    refine bodyPost_ret (v := .tuple #[.agg (opdA noOpd), .bool false, .int .i64 1]) (by exact results_opd3 Tryd.results13 _ _ (w.heap.size + 1) 28 (opdA noOpd) (0, 0) _ rfl (setRow_heap _ _ _ _ _ _ Z1.out) Tryd.underlying28 rfl (by kernel_rfl)) (by rfl) ⟨rfl, Go.below_setRow B1.out (by omega) _⟩
  · have c0 := cell_of_row _ _ 0 _ _ _ R1.out
    have c4 := cell_of_row _ _ 4 _ _ _ R1.out
    have c5 := cell_of_row _ _ 5 _ _ _ R1.out
    have c6 := cell_of_row _ _ 6 _ _ _ R1.out
    have c7 := cell_of_row _ _ 7 _ _ _ R1.out
    have c8 := cell_of_row _ _ 8 _ _ _ R1.out
    have c9 := cell_of_row _ _ 9 _ _ _ R1.out
    have c10 := cell_of_row _ _ 10 _ _ _ R1.out
    have c11 := cell_of_row _ _ 11 _ _ _ R1.out
    have c12 := cell_of_row _ _ 12 _ _ _ R1.out
    have c13 := cell_of_row _ _ 13 _ _ _ R1.out
    have c14 := cell_of_row _ _ 14 _ _ _ R1.out
    have c15 := cell_of_row _ _ 15 _ _ _ R1.out
    have c16 := cell_of_row _ _ 16 _ _ _ R1.out
    have c17 := cell_of_row _ _ 17 _ _ _ R1.out
    simp only [List.getElem?_toArray, List.getElem?_cons_zero, List.getElem?_cons_succ] at c0 c4 c5 c6 c7 c8 c9 c10 c11 c12 c13 c14 c15 c16 c17
    cases t0
    · cases t1
      · cases t2
        · go_wp2_with (first | (refine wpList_store_row rfl 28 (.tmp 2) (.tmp 29) rfl (w.heap.size + 1) (opdA noOpd) rfl rfl 28 _ Z1.out (by kernel_rfl) rfl (opd_one _) ?_))
          refine bodyPost_ret (v := .tuple #[.agg (opdA noOpd), .bool false, .int .i64 0]) (by exact results_opd3 Tryd.results13 _ _ (w.heap.size + 1) 28 (opdA noOpd) (0, 0) _ rfl (setRow_heap _ _ _ _ _ _ Z1.out) Tryd.underlying28 rfl (by kernel_rfl)) (by rfl) ⟨rfl, Go.below_setRow B1.out (by omega) _⟩
        · go_wp2_with (first | (refine wpList_store_row rfl 28 (.tmp 2) (.tmp 28) rfl (w.heap.size + 1) (opdA s) rfl rfl 28 _ Z1.out (by kernel_rfl) rfl (opd_one _) ?_))
          refine bodyPost_ret (v := .tuple #[.agg (opdA s), .bool true, .int .i64 0]) (by exact results_opd3 Tryd.results13 _ _ (w.heap.size + 1) 28 (opdA s) (0, 0) _ rfl (setRow_heap _ _ _ _ _ _ Z1.out) Tryd.underlying28 rfl (by kernel_rfl)) (by rfl) ⟨rfl, Go.below_setRow B1.out (by omega) _⟩
      · go_wp2_with (first | (refine wpList_store_row rfl 28 (.tmp 2) (.tmp 21) rfl (w.heap.size + 1) (opdA d) rfl rfl 28 _ Z1.out (by kernel_rfl) rfl (opd_one _) ?_))
        refine bodyPost_ret (v := .tuple #[.agg (opdA d), .bool true, .int .i64 0]) (by exact results_opd3 Tryd.results13 _ _ (w.heap.size + 1) 28 (opdA d) (0, 0) _ rfl (setRow_heap _ _ _ _ _ _ Z1.out) Tryd.underlying28 rfl (by kernel_rfl)) (by rfl) ⟨rfl, Go.below_setRow B1.out (by omega) _⟩
    · go_wp2_with (first | (refine wpList_store_row rfl 28 (.tmp 2) (.tmp 14) rfl (w.heap.size + 1) (opdA noOpd) rfl rfl 28 _ Z1.out (by kernel_rfl) rfl (opd_one _) ?_))
      refine bodyPost_ret (v := .tuple #[.agg (opdA noOpd), .bool false, .int .i64 0]) (by exact results_opd3 Tryd.results13 _ _ (w.heap.size + 1) 28 (opdA noOpd) (0, 0) _ rfl (setRow_heap _ _ _ _ _ _ Z1.out) Tryd.underlying28 rfl (by kernel_rfl)) (by rfl) ⟨rfl, Go.below_setRow B1.out (by omega) _⟩
set_option maxRecDepth 100000 in
set_option maxHeartbeats 2000000 in
theorem thrI (op sz cd fr : Int) (d s : Opd) (ln : Int) (w : World) (k : Int) (b t0 t1 : Bool) (CI : Hid (∀ W, Below w.heap.size w W → Calls Tryd.prog 27 #[.agg #[.int .i64 op, .int .i64 sz, .int .i64 cd, .int .i64 fr, .int .i64 d.k, .int .i64 d.r, .int .i64 d.b, .int .i64 d.i, .int .i64 d.s, .int .i64 d.d, .int .i64 d.m, .int .i64 s.k, .int .i64 s.r, .int .i64 s.b, .int .i64 s.i, .int .i64 s.s, .int .i64 s.d, .int .i64 s.m, .int .i64 ln]] W fun e w' => e = .returned (.bool b) ∧ Below W.heap.size W w')) (CC0 : Hid (b = true → ∀ W, Calls Tryd.prog 36 #[.int .i64 op] W fun e w' => e = .returned (.tuple #[.int .i64 k, .int .i64 0]) ∧ W = w')) (e0 : (k != 2) = t0) (e1 : (s.k == 3) = t1) :
    Calls Tryd.prog 22 #[.agg #[.int .i64 op, .int .i64 sz, .int .i64 cd, .int .i64 fr, .int .i64 d.k, .int .i64 d.r, .int .i64 d.b, .int .i64 d.i, .int .i64 d.s, .int .i64 d.d, .int .i64 d.m, .int .i64 s.k, .int .i64 s.r, .int .i64 s.b, .int .i64 s.i, .int .i64 s.s, .int .i64 s.d, .int .i64 s.m, .int .i64 ln]] w fun e w' => e = .returned (.tuple (thrV b t0 t1 s)) ∧ Below w.heap.size w w' := by
  have R0 := Lib.hid (show (((w.alloc (.cells #[.int .i64 op, .int .i64 sz, .int .i64 cd, .int .i64 fr, .int .i64 d.k, .int .i64 d.r, .int .i64 d.b, .int .i64 d.i, .int .i64 d.s, .int .i64 d.d, .int .i64 d.m, .int .i64 s.k, .int .i64 s.r, .int .i64 s.b, .int .i64 s.i, .int .i64 s.s, .int .i64 s.d, .int .i64 s.m, .int .i64 ln] 30)).alloc (.cells (opdA noOpd) 28))).heap[w.heap.size]? = some (.cells #[.int .i64 op, .int .i64 sz, .int .i64 cd, .int .i64 fr, .int .i64 d.k, .int .i64 d.r, .int .i64 d.b, .int .i64 d.i, .int .i64 d.s, .int .i64 d.d, .int .i64 d.m, .int .i64 s.k, .int .i64 s.r, .int .i64 s.b, .int .i64 s.i, .int .i64 s.s, .int .i64 s.d, .int .i64 s.m, .int .i64 ln] 30 (0, 0)) from (Below.heap_alloc _ _ _ (by simp)).trans (heap_alloc_new w _))
  have Z0 := Lib.hid (show (((w.alloc (.cells #[.int .i64 op, .int .i64 sz, .int .i64 cd, .int .i64 fr, .int .i64 d.k, .int .i64 d.r, .int .i64 d.b, .int .i64 d.i, .int .i64 d.s, .int .i64 d.d, .int .i64 d.m, .int .i64 s.k, .int .i64 s.r, .int .i64 s.b, .int .i64 s.i, .int .i64 s.s, .int .i64 s.d, .int .i64 s.m, .int .i64 ln] 30)).alloc (.cells (opdA noOpd) 28))).heap[w.heap.size + 1]? = some (.cells (opdA noOpd) 28 (0, 0)) from by simpa using heap_alloc_new (w.alloc (.cells #[.int .i64 op, .int .i64 sz, .int .i64 cd, .int .i64 fr, .int .i64 d.k, .int .i64 d.r, .int .i64 d.b, .int .i64 d.i, .int .i64 d.s, .int .i64 d.d, .int .i64 d.m, .int .i64 s.k, .int .i64 s.r, .int .i64 s.b, .int .i64 s.i, .int .i64 s.s, .int .i64 s.d, .int .i64 s.m, .int .i64 ln] 30)) (.cells (opdA noOpd) 28))
  have B0 := Lib.hid (show Below w.heap.size w ((w.alloc (.cells #[.int .i64 op, .int .i64 sz, .int .i64 cd, .int .i64 fr, .int .i64 d.k, .int .i64 d.r, .int .i64 d.b, .int .i64 d.i, .int .i64 d.s, .int .i64 d.d, .int .i64 d.m, .int .i64 s.k, .int .i64 s.r, .int .i64 s.b, .int .i64 s.i, .int .i64 s.s, .int .i64 s.d, .int .i64 s.m, .int .i64 ln] 30)).alloc (.cells (opdA noOpd) 28)) from ((Below.refl _ _).alloc (Nat.le_refl _) _).alloc (by simp) _)
  go_enter Tryd.func22, Tryd.ntmps22
  go_wp2_with (first | refine wpList_load_row rfl 30 (.tmp 1) rfl w.heap.size rfl 30 #[.int .i64 op, .int .i64 sz, .int .i64 cd, .int .i64 fr, .int .i64 d.k, .int .i64 d.r, .int .i64 d.b, .int .i64 d.i, .int .i64 d.s, .int .i64 d.d, .int .i64 d.m, .int .i64 s.k, .int .i64 s.r, .int .i64 s.b, .int .i64 s.i, .int .i64 s.s, .int .i64 s.d, .int .i64 s.m, .int .i64 ln] (0, 0) _ R0.out Tryd.underlying30 rfl (by kernel_rfl) ?_ | refine load_rowT (by rfl) 30 (.tmp 1) rfl w.heap.size rfl 30 #[.int .i64 op, .int .i64 sz, .int .i64 cd, .int .i64 fr, .int .i64 d.k, .int .i64 d.r, .int .i64 d.b, .int .i64 d.i, .int .i64 d.s, .int .i64 d.d, .int .i64 d.m, .int .i64 s.k, .int .i64 s.r, .int .i64 s.b, .int .i64 s.i, .int .i64 s.s, .int .i64 s.d, .int .i64 s.m, .int .i64 ln] (0, 0) _ R0.out Tryd.underlying30 rfl (by kernel_rfl) ?_)
  refine (CI.out _ B0.out).mono ?_
  rintro e w1 ⟨rfl, hb⟩
  have B1 := Lib.hid (B0.out.trans (hb.mono B0.out.size))
  have R1 := Lib.hid ((hb.block _ (lt_of_blk R0.out)).trans R0.out)
  have Z1 := Lib.hid ((hb.block _ (lt_of_blk Z0.out)).trans Z0.out)
  clear hb
  cases b
  · go_wp2_with (first | (refine wpList_store_row rfl 28 (.tmp 2) (.tmp 10) rfl (w.heap.size + 1) (opdA noOpd) rfl rfl 28 _ Z1.out (by kernel_rfl) rfl (opd_one _) ?_))
    refine bodyPost_ret (v := .tuple #[.agg (opdA noOpd), .bool false, .int .i64 1]) (by exact results_opd3 Tryd.results22 _ _ (w.heap.size + 1) 28 (opdA noOpd) (0, 0) _ rfl (setRow_heap _ _ _ _ _ _ Z1.out) Tryd.underlying28 rfl (by kernel_rfl)) (by rfl) ⟨rfl, Go.below_setRow B1.out (by omega) _⟩
  · have c0 := cell_of_row _ _ 0 _ _ _ R1.out
    have c11 := cell_of_row _ _ 11 _ _ _ R1.out
    have c12 := cell_of_row _ _ 12 _ _ _ R1.out
    have c13 := cell_of_row _ _ 13 _ _ _ R1.out
    have c14 := cell_of_row _ _ 14 _ _ _ R1.out
    have c15 := cell_of_row _ _ 15 _ _ _ R1.out
    have c16 := cell_of_row _ _ 16 _ _ _ R1.out
    have c17 := cell_of_row _ _ 17 _ _ _ R1.out
    simp only [List.getElem?_toArray, List.getElem?_cons_zero, List.getElem?_cons_succ] at c0 c11 c12 c13 c14 c15 c16 c17
    have CC := Lib.hid (CC0.out rfl)
    go_wp2_with fail
    refine (CC.out _).mono ?_
    rintro e w2 ⟨rfl, rfl⟩
    cases t0
    · cases t1
      · go_wp2_with (first | (refine wpList_store_row rfl 28 (.tmp 2) (.tmp 27) rfl (w.heap.size + 1) (opdA s) rfl rfl 28 _ Z1.out (by kernel_rfl) rfl (opd_one _) ?_))
        refine bodyPost_ret (v := .tuple #[.agg (opdA s), .bool true, .int .i64 0]) (by exact results_opd3 Tryd.results22 _ _ (w.heap.size + 1) 28 (opdA s) (0, 0) _ rfl (setRow_heap _ _ _ _ _ _ Z1.out) Tryd.underlying28 rfl (by kernel_rfl)) (by rfl) ⟨rfl, Go.below_setRow B1.out (by omega) _⟩
      · go_wp2_with (first | (refine wpList_store_row rfl 28 (.tmp 2) (.tmp 25) rfl (w.heap.size + 1) (opdA noOpd) rfl rfl 28 _ Z1.out (by kernel_rfl) rfl (opd_one _) ?_))
        refine bodyPost_ret (v := .tuple #[.agg (opdA noOpd), .bool false, .int .i64 0]) (by exact results_opd3 Tryd.results22 _ _ (w.heap.size + 1) 28 (opdA noOpd) (0, 0) _ rfl (setRow_heap _ _ _ _ _ _ Z1.out) Tryd.underlying28 rfl (by kernel_rfl)) (by rfl) ⟨rfl, Go.below_setRow B1.out (by omega) _⟩
    · go_wp2_with (first | (refine wpList_store_row rfl 28 (.tmp 2) (.tmp 25) rfl (w.heap.size + 1) (opdA noOpd) rfl rfl 28 _ Z1.out (by kernel_rfl) rfl (opd_one _) ?_))
      refine bodyPost_ret (v := .tuple #[.agg (opdA noOpd), .bool false, .int .i64 0]) (by exact results_opd3 Tryd.results22 _ _ (w.heap.size + 1) 28 (opdA noOpd) (0, 0) _ rfl (setRow_heap _ _ _ _ _ _ Z1.out) Tryd.underlying28 rfl (by kernel_rfl)) (by rfl) ⟨rfl, Go.below_setRow B1.out (by omega) _⟩
set_option maxRecDepth 100000 in
set_option maxHeartbeats 2000000 in
theorem thr0S (op sz cd fr : Int) (d s : Opd) (ln : Int) (w : World) (t0 t1 : Bool) (CF : Hid (∀ W, Calls Tryd.prog 56 #[.int .i64 op] W fun e w' => e = .returned (.bool (!t0)) ∧ Below W.heap.size W w')) (e1 : (s.k == 3) = t1) :
    Calls Tryd.prog 37 #[.agg #[.int .i64 op, .int .i64 sz, .int .i64 cd, .int .i64 fr, .int .i64 d.k, .int .i64 d.r, .int .i64 d.b, .int .i64 d.i, .int .i64 d.s, .int .i64 d.d, .int .i64 d.m, .int .i64 s.k, .int .i64 s.r, .int .i64 s.b, .int .i64 s.i, .int .i64 s.s, .int .i64 s.d, .int .i64 s.m, .int .i64 ln]] w fun e w' => e = .returned (.tuple (thr0 t0 t1 s)) ∧ Below w.heap.size w w' := by
  have R0 := Lib.hid (show (((w.alloc (.cells #[.int .i64 op, .int .i64 sz, .int .i64 cd, .int .i64 fr, .int .i64 d.k, .int .i64 d.r, .int .i64 d.b, .int .i64 d.i, .int .i64 d.s, .int .i64 d.d, .int .i64 d.m, .int .i64 s.k, .int .i64 s.r, .int .i64 s.b, .int .i64 s.i, .int .i64 s.s, .int .i64 s.d, .int .i64 s.m, .int .i64 ln] 30)).alloc (.cells (opdA noOpd) 28))).heap[w.heap.size]? = some (.cells #[.int .i64 op, .int .i64 sz, .int .i64 cd, .int .i64 fr, .int .i64 d.k, .int .i64 d.r, .int .i64 d.b, .int .i64 d.i, .int .i64 d.s, .int .i64 d.d, .int .i64 d.m, .int .i64 s.k, .int .i64 s.r, .int .i64 s.b, .int .i64 s.i, .int .i64 s.s, .int .i64 s.d, .int .i64 s.m, .int .i64 ln] 30 (0, 0)) from (Below.heap_alloc _ _ _ (by simp)).trans (heap_alloc_new w _))
  have Z0 := Lib.hid (show (((w.alloc (.cells #[.int .i64 op, .int .i64 sz, .int .i64 cd, .int .i64 fr, .int .i64 d.k, .int .i64 d.r, .int .i64 d.b, .int .i64 d.i, .int .i64 d.s, .int .i64 d.d, .int .i64 d.m, .int .i64 s.k, .int .i64 s.r, .int .i64 s.b, .int .i64 s.i, .int .i64 s.s, .int .i64 s.d, .int .i64 s.m, .int .i64 ln] 30)).alloc (.cells (opdA noOpd) 28))).heap[w.heap.size + 1]? = some (.cells (opdA noOpd) 28 (0, 0)) from by simpa using heap_alloc_new (w.alloc (.cells #[.int .i64 op, .int .i64 sz, .int .i64 cd, .int .i64 fr, .int .i64 d.k, .int .i64 d.r, .int .i64 d.b, .int .i64 d.i, .int .i64 d.s, .int .i64 d.d, .int .i64 d.m, .int .i64 s.k, .int .i64 s.r, .int .i64 s.b, .int .i64 s.i, .int .i64 s.s, .int .i64 s.d, .int .i64 s.m, .int .i64 ln] 30)) (.cells (opdA noOpd) 28))
  have B0 := Lib.hid (show Below w.heap.size w ((w.alloc (.cells #[.int .i64 op, .int .i64 sz, .int .i64 cd, .int .i64 fr, .int .i64 d.k, .int .i64 d.r, .int .i64 d.b, .int .i64 d.i, .int .i64 d.s, .int .i64 d.d, .int .i64 d.m, .int .i64 s.k, .int .i64 s.r, .int .i64 s.b, .int .i64 s.i, .int .i64 s.s, .int .i64 s.d, .int .i64 s.m, .int .i64 ln] 30)).alloc (.cells (opdA noOpd) 28)) from ((Below.refl _ _).alloc (Nat.le_refl _) _).alloc (by simp) _)
  go_enter Tryd.func37, Tryd.ntmps37
  have c0 := cell_of_row _ _ 0 _ _ _ R0.out
  simp only [List.getElem?_toArray, List.getElem?_cons_zero, List.getElem?_cons_succ] at c0
  go_wp2_with fail
  refine (CF.out _).mono ?_
  rintro e w1 ⟨rfl, hb⟩
  have B1 := Lib.hid (B0.out.trans (hb.mono B0.out.size))
  have R1 := Lib.hid ((hb.block _ (lt_of_blk R0.out)).trans R0.out)
  have Z1 := Lib.hid ((hb.block _ (lt_of_blk Z0.out)).trans Z0.out)
  clear hb
  clear c0
  have c11 := cell_of_row _ _ 11 _ _ _ R1.out
  have c12 := cell_of_row _ _ 12 _ _ _ R1.out
  have c13 := cell_of_row _ _ 13 _ _ _ R1.out
  have c14 := cell_of_row _ _ 14 _ _ _ R1.out
  have c15 := cell_of_row _ _ 15 _ _ _ R1.out
  have c16 := cell_of_row _ _ 16 _ _ _ R1.out
  have c17 := cell_of_row _ _ 17 _ _ _ R1.out
  simp only [List.getElem?_toArray, List.getElem?_cons_zero, List.getElem?_cons_succ] at c11 c12 c13 c14 c15 c16 c17
  cases t0
  · cases t1
    · go_wp2_with (first | (refine wpList_store_row rfl 28 (.tmp 2) (.tmp 16) rfl (w.heap.size + 1) (opdA s) rfl rfl 28 _ Z1.out (by kernel_rfl) rfl (opd_one _) ?_))
      refine bodyPost_ret (v := .tuple #[.agg (opdA s), .bool true]) (by exact results_cell_row2 Tryd.results37 _ _ (w.heap.size + 1) 28 (opdA s) (0, 0) _ rfl (setRow_heap _ _ _ _ _ _ Z1.out) Tryd.underlying28 rfl (by kernel_rfl)) (by rfl) ⟨rfl, Go.below_setRow B1.out (by omega) _⟩
    · go_wp2_with (first | (refine wpList_store_row rfl 28 (.tmp 2) (.tmp 14) rfl (w.heap.size + 1) (opdA noOpd) rfl rfl 28 _ Z1.out (by kernel_rfl) rfl (opd_one _) ?_))
      refine bodyPost_ret (v := .tuple #[.agg (opdA noOpd), .bool false]) (by exact results_cell_row2 Tryd.results37 _ _ (w.heap.size + 1) 28 (opdA noOpd) (0, 0) _ rfl (setRow_heap _ _ _ _ _ _ Z1.out) Tryd.underlying28 rfl (by kernel_rfl)) (by rfl) ⟨rfl, Go.below_setRow B1.out (by omega) _⟩
  · go_wp2_with (first | (refine wpList_store_row rfl 28 (.tmp 2) (.tmp 14) rfl (w.heap.size + 1) (opdA noOpd) rfl rfl 28 _ Z1.out (by kernel_rfl) rfl (opd_one _) ?_))
    refine bodyPost_ret (v := .tuple #[.agg (opdA noOpd), .bool false]) (by exact results_cell_row2 Tryd.results37 _ _ (w.heap.size + 1) 28 (opdA noOpd) (0, 0) _ rfl (setRow_heap _ _ _ _ _ _ Z1.out) Tryd.underlying28 rfl (by kernel_rfl)) (by rfl) ⟨rfl, Go.below_setRow B1.out (by omega) _⟩
set_option maxRecDepth 100000 in
set_option maxHeartbeats 2000000 in
theorem mem0S (op sz cd fr : Int) (d s : Opd) (ln : Int) (w : World) (t0 t1 t2 : Bool) (e0 : (op == 25) = t0) (e1 : (d.k == 2) = t1) (e2 : (s.k == 2) = t2) :
    Calls Tryd.prog 31 #[.agg #[.int .i64 op, .int .i64 sz, .int .i64 cd, .int .i64 fr, .int .i64 d.k, .int .i64 d.r, .int .i64 d.b, .int .i64 d.i, .int .i64 d.s, .int .i64 d.d, .int .i64 d.m, .int .i64 s.k, .int .i64 s.r, .int .i64 s.b, .int .i64 s.i, .int .i64 s.s, .int .i64 s.d, .int .i64 s.m, .int .i64 ln]] w fun e w' => e = .returned (.tuple (mem0 t0 t1 t2 d s)) ∧ Below w.heap.size w w' := by
  have R0 := Lib.hid (show (((w.alloc (.cells #[.int .i64 op, .int .i64 sz, .int .i64 cd, .int .i64 fr, .int .i64 d.k, .int .i64 d.r, .int .i64 d.b, .int .i64 d.i, .int .i64 d.s, .int .i64 d.d, .int .i64 d.m, .int .i64 s.k, .int .i64 s.r, .int .i64 s.b, .int .i64 s.i, .int .i64 s.s, .int .i64 s.d, .int .i64 s.m, .int .i64 ln] 30)).alloc (.cells (opdA noOpd) 28))).heap[w.heap.size]? = some (.cells #[.int .i64 op, .int .i64 sz, .int .i64 cd, .int .i64 fr, .int .i64 d.k, .int .i64 d.r, .int .i64 d.b, .int .i64 d.i, .int .i64 d.s, .int .i64 d.d, .int .i64 d.m, .int .i64 s.k, .int .i64 s.r, .int .i64 s.b, .int .i64 s.i, .int .i64 s.s, .int .i64 s.d, .int .i64 s.m, .int .i64 ln] 30 (0, 0)) from (Below.heap_alloc _ _ _ (by simp)).trans (heap_alloc_new w _))
  have Z0 := Lib.hid (show (((w.alloc (.cells #[.int .i64 op, .int .i64 sz, .int .i64 cd, .int .i64 fr, .int .i64 d.k, .int .i64 d.r, .int .i64 d.b, .int .i64 d.i, .int .i64 d.s, .int .i64 d.d, .int .i64 d.m, .int .i64 s.k, .int .i64 s.r, .int .i64 s.b, .int .i64 s.i, .int .i64 s.s, .int .i64 s.d, .int .i64 s.m, .int .i64 ln] 30)).alloc (.cells (opdA noOpd) 28))).heap[w.heap.size + 1]? = some (.cells (opdA noOpd) 28 (0, 0)) from by simpa using heap_alloc_new (w.alloc (.cells #[.int .i64 op, .int .i64 sz, .int .i64 cd, .int .i64 fr, .int .i64 d.k, .int .i64 d.r, .int .i64 d.b, .int .i64 d.i, .int .i64 d.s, .int .i64 d.d, .int .i64 d.m, .int .i64 s.k, .int .i64 s.r, .int .i64 s.b, .int .i64 s.i, .int .i64 s.s, .int .i64 s.d, .int .i64 s.m, .int .i64 ln] 30)) (.cells (opdA noOpd) 28))
  have B0 := Lib.hid (show Below w.heap.size w ((w.alloc (.cells #[.int .i64 op, .int .i64 sz, .int .i64 cd, .int .i64 fr, .int .i64 d.k, .int .i64 d.r, .int .i64 d.b, .int .i64 d.i, .int .i64 d.s, .int .i64 d.d, .int .i64 d.m, .int .i64 s.k, .int .i64 s.r, .int .i64 s.b, .int .i64 s.i, .int .i64 s.s, .int .i64 s.d, .int .i64 s.m, .int .i64 ln] 30)).alloc (.cells (opdA noOpd) 28)) from ((Below.refl _ _).alloc (Nat.le_refl _) _).alloc (by simp) _)
  go_enter Tryd.func31, Tryd.ntmps31
  have c0 := cell_of_row _ _ 0 _ _ _ R0.out
  have c4 := cell_of_row _ _ 4 _ _ _ R0.out
  have c5 := cell_of_row _ _ 5 _ _ _ R0.out
  have c6 := cell_of_row _ _ 6 _ _ _ R0.out
  have c7 := cell_of_row _ _ 7 _ _ _ R0.out
  have c8 := cell_of_row _ _ 8 _ _ _ R0.out
  have c9 := cell_of_row _ _ 9 _ _ _ R0.out
  have c10 := cell_of_row _ _ 10 _ _ _ R0.out
  have c11 := cell_of_row _ _ 11 _ _ _ R0.out
  have c12 := cell_of_row _ _ 12 _ _ _ R0.out
  have c13 := cell_of_row _ _ 13 _ _ _ R0.out
  have c14 := cell_of_row _ _ 14 _ _ _ R0.out
  have c15 := cell_of_row _ _ 15 _ _ _ R0.out
  have c16 := cell_of_row _ _ 16 _ _ _ R0.out
  have c17 := cell_of_row _ _ 17 _ _ _ R0.out
  simp only [List.getElem?_toArray, List.getElem?_cons_zero, List.getElem?_cons_succ] at c0 c4 c5 c6 c7 c8 c9 c10 c11 c12 c13 c14 c15 c16 c17
  cases t0
  · cases t1
    · go_wp2_with fail
      go_region
      go_wp2
      refine bodyPost_ret (v := .tuple #[.agg (opdA s), .bool t2]) (by exact results_cell_row2 Tryd.results31 _ _ (w.heap.size + 1) 28 (opdA s) (0, 0) _ rfl (show (((w.alloc (.cells #[.int .i64 op, .int .i64 sz, .int .i64 cd, .int .i64 fr, .int .i64 d.k, .int .i64 d.r, .int .i64 d.b, .int .i64 d.i, .int .i64 d.s, .int .i64 d.d, .int .i64 d.m, .int .i64 s.k, .int .i64 s.r, .int .i64 s.b, .int .i64 s.i, .int .i64 s.s, .int .i64 s.d, .int .i64 s.m, .int .i64 ln] 30)).alloc (.cells (opdA s) 28))).drew.heap[w.heap.size + 1]? = some (.cells (opdA s) 28 (0, 0)) from (show (((w.alloc (.cells #[.int .i64 op, .int .i64 sz, .int .i64 cd, .int .i64 fr, .int .i64 d.k, .int .i64 d.r, .int .i64 d.b, .int .i64 d.i, .int .i64 d.s, .int .i64 d.d, .int .i64 d.m, .int .i64 s.k, .int .i64 s.r, .int .i64 s.b, .int .i64 s.i, .int .i64 s.s, .int .i64 s.d, .int .i64 s.m, .int .i64 ln] 30)).alloc (.cells (opdA s) 28))).heap[w.heap.size + 1]? = some (.cells (opdA s) 28 (0, 0)) from (by simpa using heap_alloc_new (w.alloc (.cells #[.int .i64 op, .int .i64 sz, .int .i64 cd, .int .i64 fr, .int .i64 d.k, .int .i64 d.r, .int .i64 d.b, .int .i64 d.i, .int .i64 d.s, .int .i64 d.d, .int .i64 d.m, .int .i64 s.k, .int .i64 s.r, .int .i64 s.b, .int .i64 s.i, .int .i64 s.s, .int .i64 s.d, .int .i64 s.m, .int .i64 ln] 30)) (.cells (opdA s) 28)))) Tryd.underlying28 rfl (by kernel_rfl)) (by rfl) ⟨rfl, (((Below.refl _ _).alloc (Nat.le_refl _) _).alloc (by simp) _).drew⟩
    · go_wp2_with (first | (refine wpList_store_row rfl 28 (.tmp 2) (.tmp 13) rfl (w.heap.size + 1) (opdA d) rfl rfl 28 _ Z0.out (by kernel_rfl) rfl (opd_one _) ?_))
      refine bodyPost_ret (v := .tuple #[.agg (opdA d), .bool true]) (by exact results_cell_row2 Tryd.results31 _ _ (w.heap.size + 1) 28 (opdA d) (0, 0) _ rfl (setRow_heap _ _ _ _ _ _ Z0.out) Tryd.underlying28 rfl (by kernel_rfl)) (by rfl) ⟨rfl, Go.below_setRow B0.out (by omega) _⟩
  · go_wp2_with (first | (refine wpList_store_row rfl 28 (.tmp 2) (.tmp 7) rfl (w.heap.size + 1) (opdA noOpd) rfl rfl 28 _ Z0.out (by kernel_rfl) rfl (opd_one _) ?_))
    refine bodyPost_ret (v := .tuple #[.agg (opdA noOpd), .bool false]) (by exact results_cell_row2 Tryd.results31 _ _ (w.heap.size + 1) 28 (opdA noOpd) (0, 0) _ rfl (setRow_heap _ _ _ _ _ _ Z0.out) Tryd.underlying28 rfl (by kernel_rfl)) (by rfl) ⟨rfl, Go.below_setRow B0.out (by omega) _⟩
set_option maxRecDepth 100000 in
set_option maxHeartbeats 2000000 in
theorem memS (op sz cd fr : Int) (d s : Opd) (ln : Int) (w : World) (b t0 t1 t2 : Bool) (CI : Hid (∀ W, Calls Tryd.prog 23 #[.agg #[.int .i64 op, .int .i64 sz, .int .i64 cd, .int .i64 fr, .int .i64 d.k, .int .i64 d.r, .int .i64 d.b, .int .i64 d.i, .int .i64 d.s, .int .i64 d.d, .int .i64 d.m, .int .i64 s.k, .int .i64 s.r, .int .i64 s.b, .int .i64 s.i, .int .i64 s.s, .int .i64 s.d, .int .i64 s.m, .int .i64 ln]] W fun e w' => e = .returned (.bool b) ∧ Below W.heap.size W w')) (e0 : (op == 25) = t0) (e1 : (d.k == 2) = t1) (e2 : (s.k == 2) = t2) :
    Calls Tryd.prog 12 #[.agg #[.int .i64 op, .int .i64 sz, .int .i64 cd, .int .i64 fr, .int .i64 d.k, .int .i64 d.r, .int .i64 d.b, .int .i64 d.i, .int .i64 d.s, .int .i64 d.d, .int .i64 d.m, .int .i64 s.k, .int .i64 s.r, .int .i64 s.b, .int .i64 s.i, .int .i64 s.s, .int .i64 s.d, .int .i64 s.m, .int .i64 ln]] w fun e w' => e = .returned (.tuple (memV b t0 t1 t2 d s)) ∧ Below w.heap.size w w' := by
  have R0 := Lib.hid (show (((w.alloc (.cells #[.int .i64 op, .int .i64 sz, .int .i64 cd, .int .i64 fr, .int .i64 d.k, .int .i64 d.r, .int .i64 d.b, .int .i64 d.i, .int .i64 d.s, .int .i64 d.d, .int .i64 d.m, .int .i64 s.k, .int .i64 s.r, .int .i64 s.b, .int .i64 s.i, .int .i64 s.s, .int .i64 s.d, .int .i64 s.m, .int .i64 ln] 30)).alloc (.cells (opdA noOpd) 28))).heap[w.heap.size]? = some (.cells #[.int .i64 op, .int .i64 sz, .int .i64 cd, .int .i64 fr, .int .i64 d.k, .int .i64 d.r, .int .i64 d.b, .int .i64 d.i, .int .i64 d.s, .int .i64 d.d, .int .i64 d.m, .int .i64 s.k, .int .i64 s.r, .int .i64 s.b, .int .i64 s.i, .int .i64 s.s, .int .i64 s.d, .int .i64 s.m, .int .i64 ln] 30 (0, 0)) from (Below.heap_alloc _ _ _ (by simp)).trans (heap_alloc_new w _))
  have Z0 := Lib.hid (show (((w.alloc (.cells #[.int .i64 op, .int .i64 sz, .int .i64 cd, .int .i64 fr, .int .i64 d.k, .int .i64 d.r, .int .i64 d.b, .int .i64 d.i, .int .i64 d.s, .int .i64 d.d, .int .i64 d.m, .int .i64 s.k, .int .i64 s.r, .int .i64 s.b, .int .i64 s.i, .int .i64 s.s, .int .i64 s.d, .int .i64 s.m, .int .i64 ln] 30)).alloc (.cells (opdA noOpd) 28))).heap[w.heap.size + 1]? = some (.cells (opdA noOpd) 28 (0, 0)) from by simpa using heap_alloc_new (w.alloc (.cells #[.int .i64 op, .int .i64 sz, .int .i64 cd, .int .i64 fr, .int .i64 d.k, .int .i64 d.r, .int .i64 d.b, .int .i64 d.i, .int .i64 d.s, .int .i64 d.d, .int .i64 d.m, .int .i64 s.k, .int .i64 s.r, .int .i64 s.b, .int .i64 s.i, .int .i64 s.s, .int .i64 s.d, .int .i64 s.m, .int .i64 ln] 30)) (.cells (opdA noOpd) 28))
  have B0 := Lib.hid (show Below w.heap.size w ((w.alloc (.cells #[.int .i64 op, .int .i64 sz, .int .i64 cd, .int .i64 fr, .int .i64 d.k, .int .i64 d.r, .int .i64 d.b, .int .i64 d.i, .int .i64 d.s, .int .i64 d.d, .int .i64 d.m, .int .i64 s.k, .int .i64 s.r, .int .i64 s.b, .int .i64 s.i, .int .i64 s.s, .int .i64 s.d, .int .i64 s.m, .int .i64 ln] 30)).alloc (.cells (opdA noOpd) 28)) from ((Below.refl _ _).alloc (Nat.le_refl _) _).alloc (by simp) _)
  have CC := Lib.hid (fun W => mem0S op sz cd fr d s ln W t0 t1 t2 e0 e1 e2)
  go_enter Tryd.func12, Tryd.ntmps12
  go_wp2_with (first | refine wpList_load_row rfl 30 (.tmp 1) rfl w.heap.size rfl 30 #[.int .i64 op, .int .i64 sz, .int .i64 cd, .int .i64 fr, .int .i64 d.k, .int .i64 d.r, .int .i64 d.b, .int .i64 d.i, .int .i64 d.s, .int .i64 d.d, .int .i64 d.m, .int .i64 s.k, .int .i64 s.r, .int .i64 s.b, .int .i64 s.i, .int .i64 s.s, .int .i64 s.d, .int .i64 s.m, .int .i64 ln] (0, 0) _ R0.out Tryd.underlying30 rfl (by kernel_rfl) ?_ | refine load_rowT (by rfl) 30 (.tmp 1) rfl w.heap.size rfl 30 #[.int .i64 op, .int .i64 sz, .int .i64 cd, .int .i64 fr, .int .i64 d.k, .int .i64 d.r, .int .i64 d.b, .int .i64 d.i, .int .i64 d.s, .int .i64 d.d, .int .i64 d.m, .int .i64 s.k, .int .i64 s.r, .int .i64 s.b, .int .i64 s.i, .int .i64 s.s, .int .i64 s.d, .int .i64 s.m, .int .i64 ln] (0, 0) _ R0.out Tryd.underlying30 rfl (by kernel_rfl) ?_)
  refine (CI.out _).mono ?_
  rintro e w1 ⟨rfl, hb⟩
  have B1 := Lib.hid (B0.out.trans (hb.mono B0.out.size))
  have R1 := Lib.hid ((hb.block _ (lt_of_blk R0.out)).trans R0.out)
  have Z1 := Lib.hid ((hb.block _ (lt_of_blk Z0.out)).trans Z0.out)
  clear hb
  cases b
  · go_wp2_with (first | (refine wpList_store_row rfl 28 (.tmp 2) (.tmp 10) rfl (w.heap.size + 1) (opdA noOpd) rfl rfl 28 _ Z1.out (by kernel_rfl) rfl (opd_one _) ?_))
    refine bodyPost_ret (v := .tuple #[.agg (opdA noOpd), .bool false, .int .i64 1]) (by exact results_opd3 Tryd.results12 _ _ (w.heap.size + 1) 28 (opdA noOpd) (0, 0) _ rfl (setRow_heap _ _ _ _ _ _ Z1.out) Tryd.underlying28 rfl (by kernel_rfl)) (by rfl) ⟨rfl, Go.below_setRow B1.out (by omega) _⟩
  · cases t0
    · cases t1
      · cases t2
        · simp only [mem0, opdA, noOpd] at CC
          go_wp2_with (first | refine wpList_load_row rfl 30 (.tmp 1) rfl w.heap.size rfl 30 #[.int .i64 op, .int .i64 sz, .int .i64 cd, .int .i64 fr, .int .i64 d.k, .int .i64 d.r, .int .i64 d.b, .int .i64 d.i, .int .i64 d.s, .int .i64 d.d, .int .i64 d.m, .int .i64 s.k, .int .i64 s.r, .int .i64 s.b, .int .i64 s.i, .int .i64 s.s, .int .i64 s.d, .int .i64 s.m, .int .i64 ln] (0, 0) _ R1.out Tryd.underlying30 rfl (by kernel_rfl) ?_ | refine load_rowT (by rfl) 30 (.tmp 1) rfl w.heap.size rfl 30 #[.int .i64 op, .int .i64 sz, .int .i64 cd, .int .i64 fr, .int .i64 d.k, .int .i64 d.r, .int .i64 d.b, .int .i64 d.i, .int .i64 d.s, .int .i64 d.d, .int .i64 d.m, .int .i64 s.k, .int .i64 s.r, .int .i64 s.b, .int .i64 s.i, .int .i64 s.s, .int .i64 s.d, .int .i64 s.m, .int .i64 ln] (0, 0) _ R1.out Tryd.underlying30 rfl (by kernel_rfl) ?_)
          refine (CC.out _).mono ?_
          rintro e w2 ⟨rfl, hb⟩
          have B2 := Lib.hid (B1.out.trans (hb.mono B1.out.size))
          have R2 := Lib.hid ((hb.block _ (lt_of_blk R1.out)).trans R1.out)
          have Z2 := Lib.hid ((hb.block _ (lt_of_blk Z1.out)).trans Z1.out)
          clear hb
          have Z3 := Lib.hid ((Below.heap_alloc w2 (.cells #[.int .i64 s.k, .int .i64 s.r, .int .i64 s.b, .int .i64 s.i, .int .i64 s.s, .int .i64 s.d, .int .i64 s.m] 28) _ (lt_of_blk Z2.out)).trans Z2.out)
          have B3 := Lib.hid (B2.out.alloc B2.out.size (.cells #[.int .i64 s.k, .int .i64 s.r, .int .i64 s.b, .int .i64 s.i, .int .i64 s.s, .int .i64 s.d, .int .i64 s.m] 28))
          have P3 := Lib.hid (heap_alloc_new w2 (.cells #[.int .i64 s.k, .int .i64 s.r, .int .i64 s.b, .int .i64 s.i, .int .i64 s.s, .int .i64 s.d, .int .i64 s.m] 28))
          go_wp2_with (first | (refine wpList_load_row rfl 28 (.tmp 5) rfl w2.heap.size rfl 28 #[.int .i64 s.k, .int .i64 s.r, .int .i64 s.b, .int .i64 s.i, .int .i64 s.s, .int .i64 s.d, .int .i64 s.m] (0, 0) _ P3.out Tryd.underlying28 rfl (by kernel_rfl) ?_) | (refine wpList_store_row rfl 28 (.tmp 2) (.tmp 18) rfl (w.heap.size + 1) #[.int .i64 0, .int .i64 0, .int .i64 0, .int .i64 0, .int .i64 0, .int .i64 0, .int .i64 0] rfl rfl 28 _ Z3.out (by kernel_rfl) rfl (by kernel_rfl) ?_))
          refine bodyPost_ret (v := .tuple #[.agg #[.int .i64 0, .int .i64 0, .int .i64 0, .int .i64 0, .int .i64 0, .int .i64 0, .int .i64 0], .bool false, .int .i64 0]) (by exact results_opd3 Tryd.results12 _ _ (w.heap.size + 1) 28 #[.int .i64 0, .int .i64 0, .int .i64 0, .int .i64 0, .int .i64 0, .int .i64 0, .int .i64 0] (0, 0) _ rfl (setRow_heap _ _ _ _ _ _ Z3.out) Tryd.underlying28 rfl (by kernel_rfl)) (by rfl) ⟨rfl, Go.below_setRow B3.out (by omega) _⟩
        · simp only [mem0, opdA, noOpd] at CC
          go_wp2_with (first | refine wpList_load_row rfl 30 (.tmp 1) rfl w.heap.size rfl 30 #[.int .i64 op, .int .i64 sz, .int .i64 cd, .int .i64 fr, .int .i64 d.k, .int .i64 d.r, .int .i64 d.b, .int .i64 d.i, .int .i64 d.s, .int .i64 d.d, .int .i64 d.m, .int .i64 s.k, .int .i64 s.r, .int .i64 s.b, .int .i64 s.i, .int .i64 s.s, .int .i64 s.d, .int .i64 s.m, .int .i64 ln] (0, 0) _ R1.out Tryd.underlying30 rfl (by kernel_rfl) ?_ | refine load_rowT (by rfl) 30 (.tmp 1) rfl w.heap.size rfl 30 #[.int .i64 op, .int .i64 sz, .int .i64 cd, .int .i64 fr, .int .i64 d.k, .int .i64 d.r, .int .i64 d.b, .int .i64 d.i, .int .i64 d.s, .int .i64 d.d, .int .i64 d.m, .int .i64 s.k, .int .i64 s.r, .int .i64 s.b, .int .i64 s.i, .int .i64 s.s, .int .i64 s.d, .int .i64 s.m, .int .i64 ln] (0, 0) _ R1.out Tryd.underlying30 rfl (by kernel_rfl) ?_)
          refine (CC.out _).mono ?_
          rintro e w2 ⟨rfl, hb⟩
          have B2 := Lib.hid (B1.out.trans (hb.mono B1.out.size))
          have R2 := Lib.hid ((hb.block _ (lt_of_blk R1.out)).trans R1.out)
          have Z2 := Lib.hid ((hb.block _ (lt_of_blk Z1.out)).trans Z1.out)
          clear hb
          have Z3 := Lib.hid ((Below.heap_alloc w2 (.cells #[.int .i64 s.k, .int .i64 s.r, .int .i64 s.b, .int .i64 s.i, .int .i64 s.s, .int .i64 s.d, .int .i64 s.m] 28) _ (lt_of_blk Z2.out)).trans Z2.out)
          have B3 := Lib.hid (B2.out.alloc B2.out.size (.cells #[.int .i64 s.k, .int .i64 s.r, .int .i64 s.b, .int .i64 s.i, .int .i64 s.s, .int .i64 s.d, .int .i64 s.m] 28))
          have P3 := Lib.hid (heap_alloc_new w2 (.cells #[.int .i64 s.k, .int .i64 s.r, .int .i64 s.b, .int .i64 s.i, .int .i64 s.s, .int .i64 s.d, .int .i64 s.m] 28))
          go_wp2_with (first | (refine wpList_load_row rfl 28 (.tmp 5) rfl w2.heap.size rfl 28 #[.int .i64 s.k, .int .i64 s.r, .int .i64 s.b, .int .i64 s.i, .int .i64 s.s, .int .i64 s.d, .int .i64 s.m] (0, 0) _ P3.out Tryd.underlying28 rfl (by kernel_rfl) ?_) | (refine wpList_store_row rfl 28 (.tmp 2) (.tmp 19) rfl (w.heap.size + 1) #[.int .i64 s.k, .int .i64 s.r, .int .i64 s.b, .int .i64 s.i, .int .i64 s.s, .int .i64 s.d, .int .i64 s.m] rfl rfl 28 _ Z3.out (by kernel_rfl) rfl (by kernel_rfl) ?_))
          refine bodyPost_ret (v := .tuple #[.agg #[.int .i64 s.k, .int .i64 s.r, .int .i64 s.b, .int .i64 s.i, .int .i64 s.s, .int .i64 s.d, .int .i64 s.m], .bool true, .int .i64 0]) (by exact results_opd3 Tryd.results12 _ _ (w.heap.size + 1) 28 #[.int .i64 s.k, .int .i64 s.r, .int .i64 s.b, .int .i64 s.i, .int .i64 s.s, .int .i64 s.d, .int .i64 s.m] (0, 0) _ rfl (setRow_heap _ _ _ _ _ _ Z3.out) Tryd.underlying28 rfl (by kernel_rfl)) (by rfl) ⟨rfl, Go.below_setRow B3.out (by omega) _⟩
      · cases t2
        · simp only [mem0, opdA, noOpd] at CC
          go_wp2_with (first | refine wpList_load_row rfl 30 (.tmp 1) rfl w.heap.size rfl 30 #[.int .i64 op, .int .i64 sz, .int .i64 cd, .int .i64 fr, .int .i64 d.k, .int .i64 d.r, .int .i64 d.b, .int .i64 d.i, .int .i64 d.s, .int .i64 d.d, .int .i64 d.m, .int .i64 s.k, .int .i64 s.r, .int .i64 s.b, .int .i64 s.i, .int .i64 s.s, .int .i64 s.d, .int .i64 s.m, .int .i64 ln] (0, 0) _ R1.out Tryd.underlying30 rfl (by kernel_rfl) ?_ | refine load_rowT (by rfl) 30 (.tmp 1) rfl w.heap.size rfl 30 #[.int .i64 op, .int .i64 sz, .int .i64 cd, .int .i64 fr, .int .i64 d.k, .int .i64 d.r, .int .i64 d.b, .int .i64 d.i, .int .i64 d.s, .int .i64 d.d, .int .i64 d.m, .int .i64 s.k, .int .i64 s.r, .int .i64 s.b, .int .i64 s.i, .int .i64 s.s, .int .i64 s.d, .int .i64 s.m, .int .i64 ln] (0, 0) _ R1.out Tryd.underlying30 rfl (by kernel_rfl) ?_)
          refine (CC.out _).mono ?_
          rintro e w2 ⟨rfl, hb⟩
          have B2 := Lib.hid (B1.out.trans (hb.mono B1.out.size))
          have R2 := Lib.hid ((hb.block _ (lt_of_blk R1.out)).trans R1.out)
          have Z2 := Lib.hid ((hb.block _ (lt_of_blk Z1.out)).trans Z1.out)
          clear hb
          have Z3 := Lib.hid ((Below.heap_alloc w2 (.cells #[.int .i64 d.k, .int .i64 d.r, .int .i64 d.b, .int .i64 d.i, .int .i64 d.s, .int .i64 d.d, .int .i64 d.m] 28) _ (lt_of_blk Z2.out)).trans Z2.out)
          have B3 := Lib.hid (B2.out.alloc B2.out.size (.cells #[.int .i64 d.k, .int .i64 d.r, .int .i64 d.b, .int .i64 d.i, .int .i64 d.s, .int .i64 d.d, .int .i64 d.m] 28))
          have P3 := Lib.hid (heap_alloc_new w2 (.cells #[.int .i64 d.k, .int .i64 d.r, .int .i64 d.b, .int .i64 d.i, .int .i64 d.s, .int .i64 d.d, .int .i64 d.m] 28))
          go_wp2_with (first | (refine wpList_load_row rfl 28 (.tmp 5) rfl w2.heap.size rfl 28 #[.int .i64 d.k, .int .i64 d.r, .int .i64 d.b, .int .i64 d.i, .int .i64 d.s, .int .i64 d.d, .int .i64 d.m] (0, 0) _ P3.out Tryd.underlying28 rfl (by kernel_rfl) ?_) | (refine wpList_store_row rfl 28 (.tmp 2) (.tmp 19) rfl (w.heap.size + 1) #[.int .i64 d.k, .int .i64 d.r, .int .i64 d.b, .int .i64 d.i, .int .i64 d.s, .int .i64 d.d, .int .i64 d.m] rfl rfl 28 _ Z3.out (by kernel_rfl) rfl (by kernel_rfl) ?_))
          refine bodyPost_ret (v := .tuple #[.agg #[.int .i64 d.k, .int .i64 d.r, .int .i64 d.b, .int .i64 d.i, .int .i64 d.s, .int .i64 d.d, .int .i64 d.m], .bool true, .int .i64 0]) (by exact results_opd3 Tryd.results12 _ _ (w.heap.size + 1) 28 #[.int .i64 d.k, .int .i64 d.r, .int .i64 d.b, .int .i64 d.i, .int .i64 d.s, .int .i64 d.d, .int .i64 d.m] (0, 0) _ rfl (setRow_heap _ _ _ _ _ _ Z3.out) Tryd.underlying28 rfl (by kernel_rfl)) (by rfl) ⟨rfl, Go.below_setRow B3.out (by omega) _⟩
        · simp only [mem0, opdA, noOpd] at CC
          go_wp2_with (first | refine wpList_load_row rfl 30 (.tmp 1) rfl w.heap.size rfl 30 #[.int .i64 op, .int .i64 sz, .int .i64 cd, .int .i64 fr, .int .i64 d.k, .int .i64 d.r, .int .i64 d.b, .int .i64 d.i, .int .i64 d.s, .int .i64 d.d, .int .i64 d.m, .int .i64 s.k, .int .i64 s.r, .int .i64 s.b, .int .i64 s.i, .int .i64 s.s, .int .i64 s.d, .int .i64 s.m, .int .i64 ln] (0, 0) _ R1.out Tryd.underlying30 rfl (by kernel_rfl) ?_ | refine load_rowT (by rfl) 30 (.tmp 1) rfl w.heap.size rfl 30 #[.int .i64 op, .int .i64 sz, .int .i64 cd, .int .i64 fr, .int .i64 d.k, .int .i64 d.r, .int .i64 d.b, .int .i64 d.i, .int .i64 d.s, .int .i64 d.d, .int .i64 d.m, .int .i64 s.k, .int .i64 s.r, .int .i64 s.b, .int .i64 s.i, .int .i64 s.s, .int .i64 s.d, .int .i64 s.m, .int .i64 ln] (0, 0) _ R1.out Tryd.underlying30 rfl (by kernel_rfl) ?_)
          refine (CC.out _).mono ?_
          rintro e w2 ⟨rfl, hb⟩
          have B2 := Lib.hid (B1.out.trans (hb.mono B1.out.size))
          have R2 := Lib.hid ((hb.block _ (lt_of_blk R1.out)).trans R1.out)
          have Z2 := Lib.hid ((hb.block _ (lt_of_blk Z1.out)).trans Z1.out)
          clear hb
          have Z3 := Lib.hid ((Below.heap_alloc w2 (.cells #[.int .i64 d.k, .int .i64 d.r, .int .i64 d.b, .int .i64 d.i, .int .i64 d.s, .int .i64 d.d, .int .i64 d.m] 28) _ (lt_of_blk Z2.out)).trans Z2.out)
          have B3 := Lib.hid (B2.out.alloc B2.out.size (.cells #[.int .i64 d.k, .int .i64 d.r, .int .i64 d.b, .int .i64 d.i, .int .i64 d.s, .int .i64 d.d, .int .i64 d.m] 28))
          have P3 := Lib.hid (heap_alloc_new w2 (.cells #[.int .i64 d.k, .int .i64 d.r, .int .i64 d.b, .int .i64 d.i, .int .i64 d.s, .int .i64 d.d, .int .i64 d.m] 28))
          go_wp2_with (first | (refine wpList_load_row rfl 28 (.tmp 5) rfl w2.heap.size rfl 28 #[.int .i64 d.k, .int .i64 d.r, .int .i64 d.b, .int .i64 d.i, .int .i64 d.s, .int .i64 d.d, .int .i64 d.m] (0, 0) _ P3.out Tryd.underlying28 rfl (by kernel_rfl) ?_) | (refine wpList_store_row rfl 28 (.tmp 2) (.tmp 19) rfl (w.heap.size + 1) #[.int .i64 d.k, .int .i64 d.r, .int .i64 d.b, .int .i64 d.i, .int .i64 d.s, .int .i64 d.d, .int .i64 d.m] rfl rfl 28 _ Z3.out (by kernel_rfl) rfl (by kernel_rfl) ?_))
          refine bodyPost_ret (v := .tuple #[.agg #[.int .i64 d.k, .int .i64 d.r, .int .i64 d.b, .int .i64 d.i, .int .i64 d.s, .int .i64 d.d, .int .i64 d.m], .bool true, .int .i64 0]) (by exact results_opd3 Tryd.results12 _ _ (w.heap.size + 1) 28 #[.int .i64 d.k, .int .i64 d.r, .int .i64 d.b, .int .i64 d.i, .int .i64 d.s, .int .i64 d.d, .int .i64 d.m] (0, 0) _ rfl (setRow_heap _ _ _ _ _ _ Z3.out) Tryd.underlying28 rfl (by kernel_rfl)) (by rfl) ⟨rfl, Go.below_setRow B3.out (by omega) _⟩
    · cases t1
      · cases t2
        · simp only [mem0, opdA, noOpd] at CC
          go_wp2_with (first | refine wpList_load_row rfl 30 (.tmp 1) rfl w.heap.size rfl 30 #[.int .i64 op, .int .i64 sz, .int .i64 cd, .int .i64 fr, .int .i64 d.k, .int .i64 d.r, .int .i64 d.b, .int .i64 d.i, .int .i64 d.s, .int .i64 d.d, .int .i64 d.m, .int .i64 s.k, .int .i64 s.r, .int .i64 s.b, .int .i64 s.i, .int .i64 s.s, .int .i64 s.d, .int .i64 s.m, .int .i64 ln] (0, 0) _ R1.out Tryd.underlying30 rfl (by kernel_rfl) ?_ | refine load_rowT (by rfl) 30 (.tmp 1) rfl w.heap.size rfl 30 #[.int .i64 op, .int .i64 sz, .int .i64 cd, .int .i64 fr, .int .i64 d.k, .int .i64 d.r, .int .i64 d.b, .int .i64 d.i, .int .i64 d.s, .int .i64 d.d, .int .i64 d.m, .int .i64 s.k, .int .i64 s.r, .int .i64 s.b, .int .i64 s.i, .int .i64 s.s, .int .i64 s.d, .int .i64 s.m, .int .i64 ln] (0, 0) _ R1.out Tryd.underlying30 rfl (by kernel_rfl) ?_)
          refine (CC.out _).mono ?_
          rintro e w2 ⟨rfl, hb⟩
          have B2 := Lib.hid (B1.out.trans (hb.mono B1.out.size))
          have R2 := Lib.hid ((hb.block _ (lt_of_blk R1.out)).trans R1.out)
          have Z2 := Lib.hid ((hb.block _ (lt_of_blk Z1.out)).trans Z1.out)
          clear hb
          have Z3 := Lib.hid ((Below.heap_alloc w2 (.cells #[.int .i64 0, .int .i64 0, .int .i64 0, .int .i64 0, .int .i64 0, .int .i64 0, .int .i64 0] 28) _ (lt_of_blk Z2.out)).trans Z2.out)
          have B3 := Lib.hid (B2.out.alloc B2.out.size (.cells #[.int .i64 0, .int .i64 0, .int .i64 0, .int .i64 0, .int .i64 0, .int .i64 0, .int .i64 0] 28))
          have P3 := Lib.hid (heap_alloc_new w2 (.cells #[.int .i64 0, .int .i64 0, .int .i64 0, .int .i64 0, .int .i64 0, .int .i64 0, .int .i64 0] 28))
          go_wp2_with (first | (refine wpList_load_row rfl 28 (.tmp 5) rfl w2.heap.size rfl 28 #[.int .i64 0, .int .i64 0, .int .i64 0, .int .i64 0, .int .i64 0, .int .i64 0, .int .i64 0] (0, 0) _ P3.out Tryd.underlying28 rfl (by kernel_rfl) ?_) | (refine wpList_store_row rfl 28 (.tmp 2) (.tmp 18) rfl (w.heap.size + 1) #[.int .i64 0, .int .i64 0, .int .i64 0, .int .i64 0, .int .i64 0, .int .i64 0, .int .i64 0] rfl rfl 28 _ Z3.out (by kernel_rfl) rfl (by kernel_rfl) ?_))
          refine bodyPost_ret (v := .tuple #[.agg #[.int .i64 0, .int .i64 0, .int .i64 0, .int .i64 0, .int .i64 0, .int .i64 0, .int .i64 0], .bool false, .int .i64 0]) (by exact results_opd3 Tryd.results12 _ _ (w.heap.size + 1) 28 #[.int .i64 0, .int .i64 0, .int .i64 0, .int .i64 0, .int .i64 0, .int .i64 0, .int .i64 0] (0, 0) _ rfl (setRow_heap _ _ _ _ _ _ Z3.out) Tryd.underlying28 rfl (by kernel_rfl)) (by rfl) ⟨rfl, Go.below_setRow B3.out (by omega) _⟩
        · simp only [mem0, opdA, noOpd] at CC
          go_wp2_with (first | refine wpList_load_row rfl 30 (.tmp 1) rfl w.heap.size rfl 30 #[.int .i64 op, .int .i64 sz, .int .i64 cd, .int .i64 fr, .int .i64 d.k, .int .i64 d.r, .int .i64 d.b, .int .i64 d.i, .int .i64 d.s, .int .i64 d.d, .int .i64 d.m, .int .i64 s.k, .int .i64 s.r, .int .i64 s.b, .int .i64 s.i, .int .i64 s.s, .int .i64 s.d, .int .i64 s.m, .int .i64 ln] (0, 0) _ R1.out Tryd.underlying30 rfl (by kernel_rfl) ?_ | refine load_rowT (by rfl) 30 (.tmp 1) rfl w.heap.size rfl 30 #[.int .i64 op, .int .i64 sz, .int .i64 cd, .int .i64 fr, .int .i64 d.k, .int .i64 d.r, .int .i64 d.b, .int .i64 d.i, .int .i64 d.s, .int .i64 d.d, .int .i64 d.m, .int .i64 s.k, .int .i64 s.r, .int .i64 s.b, .int .i64 s.i, .int .i64 s.s, .int .i64 s.d, .int .i64 s.m, .int .i64 ln] (0, 0) _ R1.out Tryd.underlying30 rfl (by kernel_rfl) ?_)
          refine (CC.out _).mono ?_
          rintro e w2 ⟨rfl, hb⟩
          have B2 := Lib.hid (B1.out.trans (hb.mono B1.out.size))
          have R2 := Lib.hid ((hb.block _ (lt_of_blk R1.out)).trans R1.out)
          have Z2 := Lib.hid ((hb.block _ (lt_of_blk Z1.out)).trans Z1.out)
          clear hb
          have Z3 := Lib.hid ((Below.heap_alloc w2 (.cells #[.int .i64 0, .int .i64 0, .int .i64 0, .int .i64 0, .int .i64 0, .int .i64 0, .int .i64 0] 28) _ (lt_of_blk Z2.out)).trans Z2.out)
          have B3 := Lib.hid (B2.out.alloc B2.out.size (.cells #[.int .i64 0, .int .i64 0, .int .i64 0, .int .i64 0, .int .i64 0, .int .i64 0, .int .i64 0] 28))
          have P3 := Lib.hid (heap_alloc_new w2 (.cells #[.int .i64 0, .int .i64 0, .int .i64 0, .int .i64 0, .int .i64 0, .int .i64 0, .int .i64 0] 28))
          go_wp2_with (first | (refine wpList_load_row rfl 28 (.tmp 5) rfl w2.heap.size rfl 28 #[.int .i64 0, .int .i64 0, .int .i64 0, .int .i64 0, .int .i64 0, .int .i64 0, .int .i64 0] (0, 0) _ P3.out Tryd.underlying28 rfl (by kernel_rfl) ?_) | (refine wpList_store_row rfl 28 (.tmp 2) (.tmp 18) rfl (w.heap.size + 1) #[.int .i64 0, .int .i64 0, .int .i64 0, .int .i64 0, .int .i64 0, .int .i64 0, .int .i64 0] rfl rfl 28 _ Z3.out (by kernel_rfl) rfl (by kernel_rfl) ?_))
          refine bodyPost_ret (v := .tuple #[.agg #[.int .i64 0, .int .i64 0, .int .i64 0, .int .i64 0, .int .i64 0, .int .i64 0, .int .i64 0], .bool false, .int .i64 0]) (by exact results_opd3 Tryd.results12 _ _ (w.heap.size + 1) 28 #[.int .i64 0, .int .i64 0, .int .i64 0, .int .i64 0, .int .i64 0, .int .i64 0, .int .i64 0] (0, 0) _ rfl (setRow_heap _ _ _ _ _ _ Z3.out) Tryd.underlying28 rfl (by kernel_rfl)) (by rfl) ⟨rfl, Go.below_setRow B3.out (by omega) _⟩
      · cases t2
        · simp only [mem0, opdA, noOpd] at CC
          go_wp2_with (first | refine wpList_load_row rfl 30 (.tmp 1) rfl w.heap.size rfl 30 #[.int .i64 op, .int .i64 sz, .int .i64 cd, .int .i64 fr, .int .i64 d.k, .int .i64 d.r, .int .i64 d.b, .int .i64 d.i, .int .i64 d.s, .int .i64 d.d, .int .i64 d.m, .int .i64 s.k, .int .i64 s.r, .int .i64 s.b, .int .i64 s.i, .int .i64 s.s, .int .i64 s.d, .int .i64 s.m, .int .i64 ln] (0, 0) _ R1.out Tryd.underlying30 rfl (by kernel_rfl) ?_ | refine load_rowT (by rfl) 30 (.tmp 1) rfl w.heap.size rfl 30 #[.int .i64 op, .int .i64 sz, .int .i64 cd, .int .i64 fr, .int .i64 d.k, .int .i64 d.r, .int .i64 d.b, .int .i64 d.i, .int .i64 d.s, .int .i64 d.d, .int .i64 d.m, .int .i64 s.k, .int .i64 s.r, .int .i64 s.b, .int .i64 s.i, .int .i64 s.s, .int .i64 s.d, .int .i64 s.m, .int .i64 ln] (0, 0) _ R1.out Tryd.underlying30 rfl (by kernel_rfl) ?_)
          refine (CC.out _).mono ?_
          rintro e w2 ⟨rfl, hb⟩
          have B2 := Lib.hid (B1.out.trans (hb.mono B1.out.size))
          have R2 := Lib.hid ((hb.block _ (lt_of_blk R1.out)).trans R1.out)
          have Z2 := Lib.hid ((hb.block _ (lt_of_blk Z1.out)).trans Z1.out)
          clear hb
          have Z3 := Lib.hid ((Below.heap_alloc w2 (.cells #[.int .i64 0, .int .i64 0, .int .i64 0, .int .i64 0, .int .i64 0, .int .i64 0, .int .i64 0] 28) _ (lt_of_blk Z2.out)).trans Z2.out)
          have B3 := Lib.hid (B2.out.alloc B2.out.size (.cells #[.int .i64 0, .int .i64 0, .int .i64 0, .int .i64 0, .int .i64 0, .int .i64 0, .int .i64 0] 28))
          have P3 := Lib.hid (heap_alloc_new w2 (.cells #[.int .i64 0, .int .i64 0, .int .i64 0, .int .i64 0, .int .i64 0, .int .i64 0, .int .i64 0] 28))
          go_wp2_with (first | (refine wpList_load_row rfl 28 (.tmp 5) rfl w2.heap.size rfl 28 #[.int .i64 0, .int .i64 0, .int .i64 0, .int .i64 0, .int .i64 0, .int .i64 0, .int .i64 0] (0, 0) _ P3.out Tryd.underlying28 rfl (by kernel_rfl) ?_) | (refine wpList_store_row rfl 28 (.tmp 2) (.tmp 18) rfl (w.heap.size + 1) #[.int .i64 0, .int .i64 0, .int .i64 0, .int .i64 0, .int .i64 0, .int .i64 0, .int .i64 0] rfl rfl 28 _ Z3.out (by kernel_rfl) rfl (by kernel_rfl) ?_))
          refine bodyPost_ret (v := .tuple #[.agg #[.int .i64 0, .int .i64 0, .int .i64 0, .int .i64 0, .int .i64 0, .int .i64 0, .int .i64 0], .bool false, .int .i64 0]) (by exact results_opd3 Tryd.results12 _ _ (w.heap.size + 1) 28 #[.int .i64 0, .int .i64 0, .int .i64 0, .int .i64 0, .int .i64 0, .int .i64 0, .int .i64 0] (0, 0) _ rfl (setRow_heap _ _ _ _ _ _ Z3.out) Tryd.underlying28 rfl (by kernel_rfl)) (by rfl) ⟨rfl, Go.below_setRow B3.out (by omega) _⟩
        · simp only [mem0, opdA, noOpd] at CC
          go_wp2_with (first | refine wpList_load_row rfl 30 (.tmp 1) rfl w.heap.size rfl 30 #[.int .i64 op, .int .i64 sz, .int .i64 cd, .int .i64 fr, .int .i64 d.k, .int .i64 d.r, .int .i64 d.b, .int .i64 d.i, .int .i64 d.s, .int .i64 d.d, .int .i64 d.m, .int .i64 s.k, .int .i64 s.r, .int .i64 s.b, .int .i64 s.i, .int .i64 s.s, .int .i64 s.d, .int .i64 s.m, .int .i64 ln] (0, 0) _ R1.out Tryd.underlying30 rfl (by kernel_rfl) ?_ | refine load_rowT (by rfl) 30 (.tmp 1) rfl w.heap.size rfl 30 #[.int .i64 op, .int .i64 sz, .int .i64 cd, .int .i64 fr, .int .i64 d.k, .int .i64 d.r, .int .i64 d.b, .int .i64 d.i, .int .i64 d.s, .int .i64 d.d, .int .i64 d.m, .int .i64 s.k, .int .i64 s.r, .int .i64 s.b, .int .i64 s.i, .int .i64 s.s, .int .i64 s.d, .int .i64 s.m, .int .i64 ln] (0, 0) _ R1.out Tryd.underlying30 rfl (by kernel_rfl) ?_)
          refine (CC.out _).mono ?_
          rintro e w2 ⟨rfl, hb⟩
          have B2 := Lib.hid (B1.out.trans (hb.mono B1.out.size))
          have R2 := Lib.hid ((hb.block _ (lt_of_blk R1.out)).trans R1.out)
          have Z2 := Lib.hid ((hb.block _ (lt_of_blk Z1.out)).trans Z1.out)
          clear hb
          have Z3 := Lib.hid ((Below.heap_alloc w2 (.cells #[.int .i64 0, .int .i64 0, .int .i64 0, .int .i64 0, .int .i64 0, .int .i64 0, .int .i64 0] 28) _ (lt_of_blk Z2.out)).trans Z2.out)
          have B3 := Lib.hid (B2.out.alloc B2.out.size (.cells #[.int .i64 0, .int .i64 0, .int .i64 0, .int .i64 0, .int .i64 0, .int .i64 0, .int .i64 0] 28))
          have P3 := Lib.hid (heap_alloc_new w2 (.cells #[.int .i64 0, .int .i64 0, .int .i64 0, .int .i64 0, .int .i64 0, .int .i64 0, .int .i64 0] 28))
          go_wp2_with (first | (refine wpList_load_row rfl 28 (.tmp 5) rfl w2.heap.size rfl 28 #[.int .i64 0, .int .i64 0, .int .i64 0, .int .i64 0, .int .i64 0, .int .i64 0, .int .i64 0] (0, 0) _ P3.out Tryd.underlying28 rfl (by kernel_rfl) ?_) | (refine wpList_store_row rfl 28 (.tmp 2) (.tmp 18) rfl (w.heap.size + 1) #[.int .i64 0, .int .i64 0, .int .i64 0, .int .i64 0, .int .i64 0, .int .i64 0, .int .i64 0] rfl rfl 28 _ Z3.out (by kernel_rfl) rfl (by kernel_rfl) ?_))
          refine bodyPost_ret (v := .tuple #[.agg #[.int .i64 0, .int .i64 0, .int .i64 0, .int .i64 0, .int .i64 0, .int .i64 0, .int .i64 0], .bool false, .int .i64 0]) (by exact results_opd3 Tryd.results12 _ _ (w.heap.size + 1) 28 #[.int .i64 0, .int .i64 0, .int .i64 0, .int .i64 0, .int .i64 0, .int .i64 0, .int .i64 0] (0, 0) _ rfl (setRow_heap _ _ _ _ _ _ Z3.out) Tryd.underlying28 rfl (by kernel_rfl)) (by rfl) ⟨rfl, Go.below_setRow B3.out (by omega) _⟩
set_option maxRecDepth 100000 in
set_option maxHeartbeats 2000000 in
theorem thrS (op sz cd fr : Int) (d s : Opd) (ln : Int) (w : World) (b t0 t1 : Bool) (CI : Hid (∀ W, Calls Tryd.prog 23 #[.agg #[.int .i64 op, .int .i64 sz, .int .i64 cd, .int .i64 fr, .int .i64 d.k, .int .i64 d.r, .int .i64 d.b, .int .i64 d.i, .int .i64 d.s, .int .i64 d.d, .int .i64 d.m, .int .i64 s.k, .int .i64 s.r, .int .i64 s.b, .int .i64 s.i, .int .i64 s.s, .int .i64 s.d, .int .i64 s.m, .int .i64 ln]] W fun e w' => e = .returned (.bool b) ∧ Below W.heap.size W w')) (CF : Hid (∀ W, Calls Tryd.prog 56 #[.int .i64 op] W fun e w' => e = .returned (.bool (!t0)) ∧ Below W.heap.size W w')) (e1 : (s.k == 3) = t1) :
    Calls Tryd.prog 21 #[.agg #[.int .i64 op, .int .i64 sz, .int .i64 cd, .int .i64 fr, .int .i64 d.k, .int .i64 d.r, .int .i64 d.b, .int .i64 d.i, .int .i64 d.s, .int .i64 d.d, .int .i64 d.m, .int .i64 s.k, .int .i64 s.r, .int .i64 s.b, .int .i64 s.i, .int .i64 s.s, .int .i64 s.d, .int .i64 s.m, .int .i64 ln]] w fun e w' => e = .returned (.tuple (thrV b t0 t1 s)) ∧ Below w.heap.size w w' := by
  have R0 := Lib.hid (show (((w.alloc (.cells #[.int .i64 op, .int .i64 sz, .int .i64 cd, .int .i64 fr, .int .i64 d.k, .int .i64 d.r, .int .i64 d.b, .int .i64 d.i, .int .i64 d.s, .int .i64 d.d, .int .i64 d.m, .int .i64 s.k, .int .i64 s.r, .int .i64 s.b, .int .i64 s.i, .int .i64 s.s, .int .i64 s.d, .int .i64 s.m, .int .i64 ln] 30)).alloc (.cells (opdA noOpd) 28))).heap[w.heap.size]? = some (.cells #[.int .i64 op, .int .i64 sz, .int .i64 cd, .int .i64 fr, .int .i64 d.k, .int .i64 d.r, .int .i64 d.b, .int .i64 d.i, .int .i64 d.s, .int .i64 d.d, .int .i64 d.m, .int .i64 s.k, .int .i64 s.r, .int .i64 s.b, .int .i64 s.i, .int .i64 s.s, .int .i64 s.d, .int .i64 s.m, .int .i64 ln] 30 (0, 0)) from (Below.heap_alloc _ _ _ (by simp)).trans (heap_alloc_new w _))
  have Z0 := Lib.hid (show (((w.alloc (.cells #[.int .i64 op, .int .i64 sz, .int .i64 cd, .int .i64 fr, .int .i64 d.k, .int .i64 d.r, .int .i64 d.b, .int .i64 d.i, .int .i64 d.s, .int .i64 d.d, .int .i64 d.m, .int .i64 s.k, .int .i64 s.r, .int .i64 s.b, .int .i64 s.i, .int .i64 s.s, .int .i64 s.d, .int .i64 s.m, .int .i64 ln] 30)).alloc (.cells (opdA noOpd) 28))).heap[w.heap.size + 1]? = some (.cells (opdA noOpd) 28 (0, 0)) from by simpa using heap_alloc_new (w.alloc (.cells #[.int .i64 op, .int .i64 sz, .int .i64 cd, .int .i64 fr, .int .i64 d.k, .int .i64 d.r, .int .i64 d.b, .int .i64 d.i, .int .i64 d.s, .int .i64 d.d, .int .i64 d.m, .int .i64 s.k, .int .i64 s.r, .int .i64 s.b, .int .i64 s.i, .int .i64 s.s, .int .i64 s.d, .int .i64 s.m, .int .i64 ln] 30)) (.cells (opdA noOpd) 28))
  have B0 := Lib.hid (show Below w.heap.size w ((w.alloc (.cells #[.int .i64 op, .int .i64 sz, .int .i64 cd, .int .i64 fr, .int .i64 d.k, .int .i64 d.r, .int .i64 d.b, .int .i64 d.i, .int .i64 d.s, .int .i64 d.d, .int .i64 d.m, .int .i64 s.k, .int .i64 s.r, .int .i64 s.b, .int .i64 s.i, .int .i64 s.s, .int .i64 s.d, .int .i64 s.m, .int .i64 ln] 30)).alloc (.cells (opdA noOpd) 28)) from ((Below.refl _ _).alloc (Nat.le_refl _) _).alloc (by simp) _)
  have CC := Lib.hid (fun W => thr0S op sz cd fr d s ln W t0 t1 CF e1)
  go_enter Tryd.func21, Tryd.ntmps21
  go_wp2_with (first | refine wpList_load_row rfl 30 (.tmp 1) rfl w.heap.size rfl 30 #[.int .i64 op, .int .i64 sz, .int .i64 cd, .int .i64 fr, .int .i64 d.k, .int .i64 d.r, .int .i64 d.b, .int .i64 d.i, .int .i64 d.s, .int .i64 d.d, .int .i64 d.m, .int .i64 s.k, .int .i64 s.r, .int .i64 s.b, .int .i64 s.i, .int .i64 s.s, .int .i64 s.d, .int .i64 s.m, .int .i64 ln] (0, 0) _ R0.out Tryd.underlying30 rfl (by kernel_rfl) ?_ | refine load_rowT (by rfl) 30 (.tmp 1) rfl w.heap.size rfl 30 #[.int .i64 op, .int .i64 sz, .int .i64 cd, .int .i64 fr, .int .i64 d.k, .int .i64 d.r, .int .i64 d.b, .int .i64 d.i, .int .i64 d.s, .int .i64 d.d, .int .i64 d.m, .int .i64 s.k, .int .i64 s.r, .int .i64 s.b, .int .i64 s.i, .int .i64 s.s, .int .i64 s.d, .int .i64 s.m, .int .i64 ln] (0, 0) _ R0.out Tryd.underlying30 rfl (by kernel_rfl) ?_)
  refine (CI.out _).mono ?_
  rintro e w1 ⟨rfl, hb⟩
  have B1 := Lib.hid (B0.out.trans (hb.mono B0.out.size))
  have R1 := Lib.hid ((hb.block _ (lt_of_blk R0.out)).trans R0.out)
  have Z1 := Lib.hid ((hb.block _ (lt_of_blk Z0.out)).trans Z0.out)
  clear hb
  cases b
  · go_wp2_with (first | (refine wpList_store_row rfl 28 (.tmp 2) (.tmp 10) rfl (w.heap.size + 1) (opdA noOpd) rfl rfl 28 _ Z1.out (by kernel_rfl) rfl (opd_one _) ?_))
    refine bodyPost_ret (v := .tuple #[.agg (opdA noOpd), .bool false, .int .i64 1]) (by exact results_opd3 Tryd.results21 _ _ (w.heap.size + 1) 28 (opdA noOpd) (0, 0) _ rfl (setRow_heap _ _ _ _ _ _ Z1.out) Tryd.underlying28 rfl (by kernel_rfl)) (by rfl) ⟨rfl, Go.below_setRow B1.out (by omega) _⟩
  · cases t0
    · cases t1
      · simp only [thr0, opdA, noOpd] at CC
        go_wp2_with (first | refine wpList_load_row rfl 30 (.tmp 1) rfl w.heap.size rfl 30 #[.int .i64 op, .int .i64 sz, .int .i64 cd, .int .i64 fr, .int .i64 d.k, .int .i64 d.r, .int .i64 d.b, .int .i64 d.i, .int .i64 d.s, .int .i64 d.d, .int .i64 d.m, .int .i64 s.k, .int .i64 s.r, .int .i64 s.b, .int .i64 s.i, .int .i64 s.s, .int .i64 s.d, .int .i64 s.m, .int .i64 ln] (0, 0) _ R1.out Tryd.underlying30 rfl (by kernel_rfl) ?_ | refine load_rowT (by rfl) 30 (.tmp 1) rfl w.heap.size rfl 30 #[.int .i64 op, .int .i64 sz, .int .i64 cd, .int .i64 fr, .int .i64 d.k, .int .i64 d.r, .int .i64 d.b, .int .i64 d.i, .int .i64 d.s, .int .i64 d.d, .int .i64 d.m, .int .i64 s.k, .int .i64 s.r, .int .i64 s.b, .int .i64 s.i, .int .i64 s.s, .int .i64 s.d, .int .i64 s.m, .int .i64 ln] (0, 0) _ R1.out Tryd.underlying30 rfl (by kernel_rfl) ?_)
        refine (CC.out _).mono ?_
        rintro e w2 ⟨rfl, hb⟩
        have B2 := Lib.hid (B1.out.trans (hb.mono B1.out.size))
        have R2 := Lib.hid ((hb.block _ (lt_of_blk R1.out)).trans R1.out)
        have Z2 := Lib.hid ((hb.block _ (lt_of_blk Z1.out)).trans Z1.out)
        clear hb
        have Z3 := Lib.hid ((Below.heap_alloc w2 (.cells #[.int .i64 s.k, .int .i64 s.r, .int .i64 s.b, .int .i64 s.i, .int .i64 s.s, .int .i64 s.d, .int .i64 s.m] 28) _ (lt_of_blk Z2.out)).trans Z2.out)
        have B3 := Lib.hid (B2.out.alloc B2.out.size (.cells #[.int .i64 s.k, .int .i64 s.r, .int .i64 s.b, .int .i64 s.i, .int .i64 s.s, .int .i64 s.d, .int .i64 s.m] 28))
        have P3 := Lib.hid (heap_alloc_new w2 (.cells #[.int .i64 s.k, .int .i64 s.r, .int .i64 s.b, .int .i64 s.i, .int .i64 s.s, .int .i64 s.d, .int .i64 s.m] 28))
        go_wp2_with (first | (refine wpList_load_row rfl 28 (.tmp 5) rfl w2.heap.size rfl 28 #[.int .i64 s.k, .int .i64 s.r, .int .i64 s.b, .int .i64 s.i, .int .i64 s.s, .int .i64 s.d, .int .i64 s.m] (0, 0) _ P3.out Tryd.underlying28 rfl (by kernel_rfl) ?_) | (refine wpList_store_row rfl 28 (.tmp 2) (.tmp 16) rfl (w.heap.size + 1) #[.int .i64 s.k, .int .i64 s.r, .int .i64 s.b, .int .i64 s.i, .int .i64 s.s, .int .i64 s.d, .int .i64 s.m] rfl rfl 28 _ Z3.out (by kernel_rfl) rfl (by kernel_rfl) ?_))
        refine bodyPost_ret (v := .tuple #[.agg #[.int .i64 s.k, .int .i64 s.r, .int .i64 s.b, .int .i64 s.i, .int .i64 s.s, .int .i64 s.d, .int .i64 s.m], .bool true, .int .i64 0]) (by exact results_opd3 Tryd.results21 _ _ (w.heap.size + 1) 28 #[.int .i64 s.k, .int .i64 s.r, .int .i64 s.b, .int .i64 s.i, .int .i64 s.s, .int .i64 s.d, .int .i64 s.m] (0, 0) _ rfl (setRow_heap _ _ _ _ _ _ Z3.out) Tryd.underlying28 rfl (by kernel_rfl)) (by rfl) ⟨rfl, Go.below_setRow B3.out (by omega) _⟩
      · simp only [thr0, opdA, noOpd] at CC
        go_wp2_with (first | refine wpList_load_row rfl 30 (.tmp 1) rfl w.heap.size rfl 30 #[.int .i64 op, .int .i64 sz, .int .i64 cd, .int .i64 fr, .int .i64 d.k, .int .i64 d.r, .int .i64 d.b, .int .i64 d.i, .int .i64 d.s, .int .i64 d.d, .int .i64 d.m, .int .i64 s.k, .int .i64 s.r, .int .i64 s.b, .int .i64 s.i, .int .i64 s.s, .int .i64 s.d, .int .i64 s.m, .int .i64 ln] (0, 0) _ R1.out Tryd.underlying30 rfl (by kernel_rfl) ?_ | refine load_rowT (by rfl) 30 (.tmp 1) rfl w.heap.size rfl 30 #[.int .i64 op, .int .i64 sz, .int .i64 cd, .int .i64 fr, .int .i64 d.k, .int .i64 d.r, .int .i64 d.b, .int .i64 d.i, .int .i64 d.s, .int .i64 d.d, .int .i64 d.m, .int .i64 s.k, .int .i64 s.r, .int .i64 s.b, .int .i64 s.i, .int .i64 s.s, .int .i64 s.d, .int .i64 s.m, .int .i64 ln] (0, 0) _ R1.out Tryd.underlying30 rfl (by kernel_rfl) ?_)
        refine (CC.out _).mono ?_
        rintro e w2 ⟨rfl, hb⟩
        have B2 := Lib.hid (B1.out.trans (hb.mono B1.out.size))
        have R2 := Lib.hid ((hb.block _ (lt_of_blk R1.out)).trans R1.out)
        have Z2 := Lib.hid ((hb.block _ (lt_of_blk Z1.out)).trans Z1.out)
        clear hb
        have Z3 := Lib.hid ((Below.heap_alloc w2 (.cells #[.int .i64 0, .int .i64 0, .int .i64 0, .int .i64 0, .int .i64 0, .int .i64 0, .int .i64 0] 28) _ (lt_of_blk Z2.out)).trans Z2.out)
        have B3 := Lib.hid (B2.out.alloc B2.out.size (.cells #[.int .i64 0, .int .i64 0, .int .i64 0, .int .i64 0, .int .i64 0, .int .i64 0, .int .i64 0] 28))
        have P3 := Lib.hid (heap_alloc_new w2 (.cells #[.int .i64 0, .int .i64 0, .int .i64 0, .int .i64 0, .int .i64 0, .int .i64 0, .int .i64 0] 28))
        go_wp2_with (first | (refine wpList_load_row rfl 28 (.tmp 5) rfl w2.heap.size rfl 28 #[.int .i64 0, .int .i64 0, .int .i64 0, .int .i64 0, .int .i64 0, .int .i64 0, .int .i64 0] (0, 0) _ P3.out Tryd.underlying28 rfl (by kernel_rfl) ?_) | (refine wpList_store_row rfl 28 (.tmp 2) (.tmp 16) rfl (w.heap.size + 1) #[.int .i64 0, .int .i64 0, .int .i64 0, .int .i64 0, .int .i64 0, .int .i64 0, .int .i64 0] rfl rfl 28 _ Z3.out (by kernel_rfl) rfl (by kernel_rfl) ?_))
        refine bodyPost_ret (v := .tuple #[.agg #[.int .i64 0, .int .i64 0, .int .i64 0, .int .i64 0, .int .i64 0, .int .i64 0, .int .i64 0], .bool false, .int .i64 0]) (by exact results_opd3 Tryd.results21 _ _ (w.heap.size + 1) 28 #[.int .i64 0, .int .i64 0, .int .i64 0, .int .i64 0, .int .i64 0, .int .i64 0, .int .i64 0] (0, 0) _ rfl (setRow_heap _ _ _ _ _ _ Z3.out) Tryd.underlying28 rfl (by kernel_rfl)) (by rfl) ⟨rfl, Go.below_setRow B3.out (by omega) _⟩
    · cases t1
      · simp only [thr0, opdA, noOpd] at CC
        go_wp2_with (first | refine wpList_load_row rfl 30 (.tmp 1) rfl w.heap.size rfl 30 #[.int .i64 op, .int .i64 sz, .int .i64 cd, .int .i64 fr, .int .i64 d.k, .int .i64 d.r, .int .i64 d.b, .int .i64 d.i, .int .i64 d.s, .int .i64 d.d, .int .i64 d.m, .int .i64 s.k, .int .i64 s.r, .int .i64 s.b, .int .i64 s.i, .int .i64 s.s, .int .i64 s.d, .int .i64 s.m, .int .i64 ln] (0, 0) _ R1.out Tryd.underlying30 rfl (by kernel_rfl) ?_ | refine load_rowT (by rfl) 30 (.tmp 1) rfl w.heap.size rfl 30 #[.int .i64 op, .int .i64 sz, .int .i64 cd, .int .i64 fr, .int .i64 d.k, .int .i64 d.r, .int .i64 d.b, .int .i64 d.i, .int .i64 d.s, .int .i64 d.d, .int .i64 d.m, .int .i64 s.k, .int .i64 s.r, .int .i64 s.b, .int .i64 s.i, .int .i64 s.s, .int .i64 s.d, .int .i64 s.m, .int .i64 ln] (0, 0) _ R1.out Tryd.underlying30 rfl (by kernel_rfl) ?_)
        refine (CC.out _).mono ?_
        rintro e w2 ⟨rfl, hb⟩
        have B2 := Lib.hid (B1.out.trans (hb.mono B1.out.size))
        have R2 := Lib.hid ((hb.block _ (lt_of_blk R1.out)).trans R1.out)
        have Z2 := Lib.hid ((hb.block _ (lt_of_blk Z1.out)).trans Z1.out)
        clear hb
        have Z3 := Lib.hid ((Below.heap_alloc w2 (.cells #[.int .i64 0, .int .i64 0, .int .i64 0, .int .i64 0, .int .i64 0, .int .i64 0, .int .i64 0] 28) _ (lt_of_blk Z2.out)).trans Z2.out)
        have B3 := Lib.hid (B2.out.alloc B2.out.size (.cells #[.int .i64 0, .int .i64 0, .int .i64 0, .int .i64 0, .int .i64 0, .int .i64 0, .int .i64 0] 28))
        have P3 := Lib.hid (heap_alloc_new w2 (.cells #[.int .i64 0, .int .i64 0, .int .i64 0, .int .i64 0, .int .i64 0, .int .i64 0, .int .i64 0] 28))
        go_wp2_with (first | (refine wpList_load_row rfl 28 (.tmp 5) rfl w2.heap.size rfl 28 #[.int .i64 0, .int .i64 0, .int .i64 0, .int .i64 0, .int .i64 0, .int .i64 0, .int .i64 0] (0, 0) _ P3.out Tryd.underlying28 rfl (by kernel_rfl) ?_) | (refine wpList_store_row rfl 28 (.tmp 2) (.tmp 16) rfl (w.heap.size + 1) #[.int .i64 0, .int .i64 0, .int .i64 0, .int .i64 0, .int .i64 0, .int .i64 0, .int .i64 0] rfl rfl 28 _ Z3.out (by kernel_rfl) rfl (by kernel_rfl) ?_))
        refine bodyPost_ret (v := .tuple #[.agg #[.int .i64 0, .int .i64 0, .int .i64 0, .int .i64 0, .int .i64 0, .int .i64 0, .int .i64 0], .bool false, .int .i64 0]) (by exact results_opd3 Tryd.results21 _ _ (w.heap.size + 1) 28 #[.int .i64 0, .int .i64 0, .int .i64 0, .int .i64 0, .int .i64 0, .int .i64 0, .int .i64 0] (0, 0) _ rfl (setRow_heap _ _ _ _ _ _ Z3.out) Tryd.underlying28 rfl (by kernel_rfl)) (by rfl) ⟨rfl, Go.below_setRow B3.out (by omega) _⟩
      · simp only [thr0, opdA, noOpd] at CC
        go_wp2_with (first | refine wpList_load_row rfl 30 (.tmp 1) rfl w.heap.size rfl 30 #[.int .i64 op, .int .i64 sz, .int .i64 cd, .int .i64 fr, .int .i64 d.k, .int .i64 d.r, .int .i64 d.b, .int .i64 d.i, .int .i64 d.s, .int .i64 d.d, .int .i64 d.m, .int .i64 s.k, .int .i64 s.r, .int .i64 s.b, .int .i64 s.i, .int .i64 s.s, .int .i64 s.d, .int .i64 s.m, .int .i64 ln] (0, 0) _ R1.out Tryd.underlying30 rfl (by kernel_rfl) ?_ | refine load_rowT (by rfl) 30 (.tmp 1) rfl w.heap.size rfl 30 #[.int .i64 op, .int .i64 sz, .int .i64 cd, .int .i64 fr, .int .i64 d.k, .int .i64 d.r, .int .i64 d.b, .int .i64 d.i, .int .i64 d.s, .int .i64 d.d, .int .i64 d.m, .int .i64 s.k, .int .i64 s.r, .int .i64 s.b, .int .i64 s.i, .int .i64 s.s, .int .i64 s.d, .int .i64 s.m, .int .i64 ln] (0, 0) _ R1.out Tryd.underlying30 rfl (by kernel_rfl) ?_)
        refine (CC.out _).mono ?_
        rintro e w2 ⟨rfl, hb⟩
        have B2 := Lib.hid (B1.out.trans (hb.mono B1.out.size))
        have R2 := Lib.hid ((hb.block _ (lt_of_blk R1.out)).trans R1.out)
        have Z2 := Lib.hid ((hb.block _ (lt_of_blk Z1.out)).trans Z1.out)
        clear hb
        have Z3 := Lib.hid ((Below.heap_alloc w2 (.cells #[.int .i64 0, .int .i64 0, .int .i64 0, .int .i64 0, .int .i64 0, .int .i64 0, .int .i64 0] 28) _ (lt_of_blk Z2.out)).trans Z2.out)
        have B3 := Lib.hid (B2.out.alloc B2.out.size (.cells #[.int .i64 0, .int .i64 0, .int .i64 0, .int .i64 0, .int .i64 0, .int .i64 0, .int .i64 0] 28))
        have P3 := Lib.hid (heap_alloc_new w2 (.cells #[.int .i64 0, .int .i64 0, .int .i64 0, .int .i64 0, .int .i64 0, .int .i64 0, .int .i64 0] 28))
        go_wp2_with (first | (refine wpList_load_row rfl 28 (.tmp 5) rfl w2.heap.size rfl 28 #[.int .i64 0, .int .i64 0, .int .i64 0, .int .i64 0, .int .i64 0, .int .i64 0, .int .i64 0] (0, 0) _ P3.out Tryd.underlying28 rfl (by kernel_rfl) ?_) | (refine wpList_store_row rfl 28 (.tmp 2) (.tmp 16) rfl (w.heap.size + 1) #[.int .i64 0, .int .i64 0, .int .i64 0, .int .i64 0, .int .i64 0, .int .i64 0, .int .i64 0] rfl rfl 28 _ Z3.out (by kernel_rfl) rfl (by kernel_rfl) ?_))
        refine bodyPost_ret (v := .tuple #[.agg #[.int .i64 0, .int .i64 0, .int .i64 0, .int .i64 0, .int .i64 0, .int .i64 0, .int .i64 0], .bool false, .int .i64 0]) (by exact results_opd3 Tryd.results21 _ _ (w.heap.size + 1) 28 #[.int .i64 0, .int .i64 0, .int .i64 0, .int .i64 0, .int .i64 0, .int .i64 0, .int .i64 0] (0, 0) _ rfl (setRow_heap _ _ _ _ _ _ Z3.out) Tryd.underlying28 rfl (by kernel_rfl)) (by rfl) ⟨rfl, Go.below_setRow B3.out (by omega) _⟩
end Go.Proofs.YtjnjlgaemmdkhaaDoor
