/-
  What l08Touch of spec answers, by its parts; conditions: those in each head.
-/
import Derived.Test.YtjnjlgaemmdkhaaGreatDoorWalkTt
import Derived.Test.YtjnjlgaemmdkhaaGreatDoorWalkTs
namespace Go.Proofs.YtjnjlgaemmdkhaaGreatDoor
open Go.RowKit Go.Maps
set_option linter.unusedVariables false
set_option linter.unusedSimpArgs false
set_option maxRecDepth 100000 in
set_option maxHeartbeats 8000000 in
theorem touch0S_31 (sz cd fr : Int) (d s : Opd) (ln : Int) (w : World) (L : List Int) (t0 t1 wr : Bool) (e0 : (d.k == 2) = t0) (e1 : (s.k == 2) = t1) (hwr : (((31 : Int) != 8) && ((31 : Int) != 10)) = wr) (CR : Hid (∀ W, Calls Tryz.prog 28 #[.agg #[.int .i64 31, .int .i64 sz, .int .i64 cd, .int .i64 fr, .int .i64 d.k, .int .i64 d.r, .int .i64 d.b, .int .i64 d.i, .int .i64 d.s, .int .i64 d.d, .int .i64 d.m, .int .i64 s.k, .int .i64 s.r, .int .i64 s.b, .int .i64 s.i, .int .i64 s.s, .int .i64 s.d, .int .i64 s.m, .int .i64 ln]] W fun e w' => ∃ v, e = .returned v ∧ w'.ownsRow W.heap.size 3 1 v L.length (L.map (fun i => .int .i64 i)) ∧ Below W.heap.size W w'))  :
    Calls Tryz.prog 11 #[.agg #[.int .i64 31, .int .i64 sz, .int .i64 cd, .int .i64 fr, .int .i64 d.k, .int .i64 d.r, .int .i64 d.b, .int .i64 d.i, .int .i64 d.s, .int .i64 d.d, .int .i64 d.m, .int .i64 s.k, .int .i64 s.r, .int .i64 s.b, .int .i64 s.i, .int .i64 s.s, .int .i64 s.d, .int .i64 s.m, .int .i64 ln]] w fun e w' => ∃ v, e = .returned (.agg #[v, .bool (rdS 31 t0 t1), .bool (wtS 31 t0 wr), .bool (stk 31)]) ∧ w'.ownsRow w.heap.size 3 1 v L.length (L.map (fun i => .int .i64 i)) ∧ Below w.heap.size w w' := by
  have R0 := Lib.hid (show (((w.alloc (.cells #[.int .i64 31, .int .i64 sz, .int .i64 cd, .int .i64 fr, .int .i64 d.k, .int .i64 d.r, .int .i64 d.b, .int .i64 d.i, .int .i64 d.s, .int .i64 d.d, .int .i64 d.m, .int .i64 s.k, .int .i64 s.r, .int .i64 s.b, .int .i64 s.i, .int .i64 s.s, .int .i64 s.d, .int .i64 s.m, .int .i64 ln] 33)).alloc (.cells #[.slice none 0 0, .bool false, .bool false, .bool false] 28))).heap[w.heap.size]? = some (.cells #[.int .i64 31, .int .i64 sz, .int .i64 cd, .int .i64 fr, .int .i64 d.k, .int .i64 d.r, .int .i64 d.b, .int .i64 d.i, .int .i64 d.s, .int .i64 d.d, .int .i64 d.m, .int .i64 s.k, .int .i64 s.r, .int .i64 s.b, .int .i64 s.i, .int .i64 s.s, .int .i64 s.d, .int .i64 s.m, .int .i64 ln] 33 (0, 0)) from (Below.heap_alloc _ _ _ (by simp)).trans (heap_alloc_new w _))
  have Z0 := Lib.hid (show (((w.alloc (.cells #[.int .i64 31, .int .i64 sz, .int .i64 cd, .int .i64 fr, .int .i64 d.k, .int .i64 d.r, .int .i64 d.b, .int .i64 d.i, .int .i64 d.s, .int .i64 d.d, .int .i64 d.m, .int .i64 s.k, .int .i64 s.r, .int .i64 s.b, .int .i64 s.i, .int .i64 s.s, .int .i64 s.d, .int .i64 s.m, .int .i64 ln] 33)).alloc (.cells #[.slice none 0 0, .bool false, .bool false, .bool false] 28))).heap[w.heap.size + 1]? = some (.cells #[.slice none 0 0, .bool false, .bool false, .bool false] 28 (0, 0)) from by simpa using heap_alloc_new (w.alloc (.cells #[.int .i64 31, .int .i64 sz, .int .i64 cd, .int .i64 fr, .int .i64 d.k, .int .i64 d.r, .int .i64 d.b, .int .i64 d.i, .int .i64 d.s, .int .i64 d.d, .int .i64 d.m, .int .i64 s.k, .int .i64 s.r, .int .i64 s.b, .int .i64 s.i, .int .i64 s.s, .int .i64 s.d, .int .i64 s.m, .int .i64 ln] 33)) (.cells #[.slice none 0 0, .bool false, .bool false, .bool false] 28))
  have B0 := Lib.hid (show Below w.heap.size w ((w.alloc (.cells #[.int .i64 31, .int .i64 sz, .int .i64 cd, .int .i64 fr, .int .i64 d.k, .int .i64 d.r, .int .i64 d.b, .int .i64 d.i, .int .i64 d.s, .int .i64 d.d, .int .i64 d.m, .int .i64 s.k, .int .i64 s.r, .int .i64 s.b, .int .i64 s.i, .int .i64 s.s, .int .i64 s.d, .int .i64 s.m, .int .i64 ln] 33)).alloc (.cells #[.slice none 0 0, .bool false, .bool false, .bool false] 28)) from ((Below.refl _ _).alloc (Nat.le_refl _) _).alloc (by simp) _)
  have CW := Lib.hid (fun W => writesC 31 W)
  rw [hwr] at CW
  go_enter Tryz.func11, Tryz.ntmps11
  go_wp2_with (first | refine wpList_load_row rfl 33 (.tmp 1) rfl w.heap.size rfl 33 #[.int .i64 31, .int .i64 sz, .int .i64 cd, .int .i64 fr, .int .i64 d.k, .int .i64 d.r, .int .i64 d.b, .int .i64 d.i, .int .i64 d.s, .int .i64 d.d, .int .i64 d.m, .int .i64 s.k, .int .i64 s.r, .int .i64 s.b, .int .i64 s.i, .int .i64 s.s, .int .i64 s.d, .int .i64 s.m, .int .i64 ln] (0, 0) _ R0.out Tryz.underlying33 rfl (by kernel_rfl) ?_ | refine load_rowT (by rfl) 33 (.tmp 1) rfl w.heap.size rfl 33 #[.int .i64 31, .int .i64 sz, .int .i64 cd, .int .i64 fr, .int .i64 d.k, .int .i64 d.r, .int .i64 d.b, .int .i64 d.i, .int .i64 d.s, .int .i64 d.d, .int .i64 d.m, .int .i64 s.k, .int .i64 s.r, .int .i64 s.b, .int .i64 s.i, .int .i64 s.s, .int .i64 s.d, .int .i64 s.m, .int .i64 ln] (0, 0) _ R0.out Tryz.underlying33 rfl (by kernel_rfl) ?_)
  refine (CR.out _).mono ?_
  rintro e w1 ⟨v, rfl, ho, hb⟩
  obtain ⟨pv, cv, rfl⟩ := form_ownT ho
  have hb2 : w.heap.size + 2 ≤ w1.heap.size := by have := hb.size; simp at this; omega
  have B1 := Lib.hid (B0.out.trans (hb.mono B0.out.size))
  have R1 := Lib.hid ((hb.block _ (lt_of_blk R0.out)).trans R0.out)
  have Z1 := Lib.hid ((hb.block _ (lt_of_blk Z0.out)).trans Z0.out)
  have HO := Lib.hid (show w1.ownsRow (w.heap.size + 2) 3 1 (.slice pv L.length cv) L.length (L.map (fun i => .int .i64 i)) from Joins.ownsRow_le ho (by simp))
  clear ho hb hwr
  have c0 := cell_of_row _ _ 0 _ _ _ R1.out
  have c4 := cell_of_row _ _ 4 _ _ _ R1.out
  have c11 := cell_of_row _ _ 11 _ _ _ R1.out
  simp only [List.getElem?_toArray, List.getElem?_cons_zero, List.getElem?_cons_succ] at c0 c4 c11
  have hlt : w.heap.size < w1.heap.size := by omega
  cases t0
  · cases t1
    · have ER : rdS 31 false false = false := by decide
      have EW : wtS 31 false wr = true := by cases wr <;> decide
      have ES : stk 31 = true := by decide
      have HER := Lib.hid ER; have HEW := Lib.hid EW; have HES := Lib.hid ES
      clear ER EW ES
      have Z4 := Lib.hid ((Below.heap_alloc w1 (.cells #[.slice pv L.length cv, .bool false, .bool true, .bool true] 28) _ (lt_of_blk Z1.out)).trans Z1.out)
      have P4 := Lib.hid (heap_alloc_new w1 (.cells #[.slice pv L.length cv, .bool false, .bool true, .bool true] 28))
      have B4 := Lib.hid (B1.out.alloc B1.out.size (.cells #[.slice pv L.length cv, .bool false, .bool true, .bool true] 28))
      have O4 := Lib.hid (World.ownsRow.alloc HO.out (.cells #[.slice pv L.length cv, .bool false, .bool true, .bool true] 28))
      go_wp2_with (first | (go_at_call 29; refine (CW.out _).mono ?_; rintro e w2 ⟨rfl, rfl⟩) | (refine wpList_load_row rfl 28 (.tmp 3) rfl w1.heap.size rfl 28 #[.slice pv L.length cv, .bool false, .bool true, .bool true] (0, 0) _ P4.out Tryz.underlying28 rfl (by kernel_rfl) ?_) | (refine wpList_store_row rfl 28 (.tmp 2) (.tmp 73) rfl (w.heap.size + 1) #[.slice pv L.length cv, .bool false, .bool true, .bool true] rfl rfl 28 _ Z4.out (by kernel_rfl) rfl (by kernel_rfl) ?_))
      refine bodyPost_ret (v := .agg #[.slice pv L.length cv, .bool false, .bool true, .bool true]) (by exact results_cell_row Tryz.results11 _ _ (w.heap.size + 1) 28 #[.slice pv L.length cv, .bool false, .bool true, .bool true] (0, 0) _ rfl (setRow_heap _ _ _ _ _ _ Z4.out) Tryz.underlying28 rfl (by kernel_rfl)) (by rfl) ⟨.slice pv L.length cv, by rw [HER.out, HEW.out, HES.out], own_keptT (Joins.ownsRow_le O4.out (by omega)) (fun k hk => setRow_other (by have := (HO.out.lt k hk).1; omega)), Go.below_setRow B4.out (by omega) _⟩
    · have ER : rdS 31 false true = true := by decide
      have EW : wtS 31 false wr = true := by cases wr <;> decide
      have ES : stk 31 = true := by decide
      have HER := Lib.hid ER; have HEW := Lib.hid EW; have HES := Lib.hid ES
      clear ER EW ES
      have Z4 := Lib.hid ((Below.heap_alloc w1 (.cells #[.slice pv L.length cv, .bool true, .bool true, .bool true] 28) _ (lt_of_blk Z1.out)).trans Z1.out)
      have P4 := Lib.hid (heap_alloc_new w1 (.cells #[.slice pv L.length cv, .bool true, .bool true, .bool true] 28))
      have B4 := Lib.hid (B1.out.alloc B1.out.size (.cells #[.slice pv L.length cv, .bool true, .bool true, .bool true] 28))
      have O4 := Lib.hid (World.ownsRow.alloc HO.out (.cells #[.slice pv L.length cv, .bool true, .bool true, .bool true] 28))
      go_wp2_with (first | (go_at_call 29; refine (CW.out _).mono ?_; rintro e w2 ⟨rfl, rfl⟩) | (refine wpList_load_row rfl 28 (.tmp 3) rfl w1.heap.size rfl 28 #[.slice pv L.length cv, .bool true, .bool true, .bool true] (0, 0) _ P4.out Tryz.underlying28 rfl (by kernel_rfl) ?_) | (refine wpList_store_row rfl 28 (.tmp 2) (.tmp 73) rfl (w.heap.size + 1) #[.slice pv L.length cv, .bool true, .bool true, .bool true] rfl rfl 28 _ Z4.out (by kernel_rfl) rfl (by kernel_rfl) ?_))
      refine bodyPost_ret (v := .agg #[.slice pv L.length cv, .bool true, .bool true, .bool true]) (by exact results_cell_row Tryz.results11 _ _ (w.heap.size + 1) 28 #[.slice pv L.length cv, .bool true, .bool true, .bool true] (0, 0) _ rfl (setRow_heap _ _ _ _ _ _ Z4.out) Tryz.underlying28 rfl (by kernel_rfl)) (by rfl) ⟨.slice pv L.length cv, by rw [HER.out, HEW.out, HES.out], own_keptT (Joins.ownsRow_le O4.out (by omega)) (fun k hk => setRow_other (by have := (HO.out.lt k hk).1; omega)), Go.below_setRow B4.out (by omega) _⟩
  · cases t1
    · have ER : rdS 31 true false = true := by decide
      have EW : wtS 31 true wr = true := by cases wr <;> decide
      have ES : stk 31 = true := by decide
      have HER := Lib.hid ER; have HEW := Lib.hid EW; have HES := Lib.hid ES
      clear ER EW ES
      have Z4 := Lib.hid ((Below.heap_alloc w1 (.cells #[.slice pv L.length cv, .bool true, .bool true, .bool true] 28) _ (lt_of_blk Z1.out)).trans Z1.out)
      have P4 := Lib.hid (heap_alloc_new w1 (.cells #[.slice pv L.length cv, .bool true, .bool true, .bool true] 28))
      have B4 := Lib.hid (B1.out.alloc B1.out.size (.cells #[.slice pv L.length cv, .bool true, .bool true, .bool true] 28))
      have O4 := Lib.hid (World.ownsRow.alloc HO.out (.cells #[.slice pv L.length cv, .bool true, .bool true, .bool true] 28))
      go_wp2_with (first | (go_at_call 29; refine (CW.out _).mono ?_; rintro e w2 ⟨rfl, rfl⟩) | (refine wpList_load_row rfl 28 (.tmp 3) rfl w1.heap.size rfl 28 #[.slice pv L.length cv, .bool true, .bool true, .bool true] (0, 0) _ P4.out Tryz.underlying28 rfl (by kernel_rfl) ?_) | (refine wpList_store_row rfl 28 (.tmp 2) (.tmp 73) rfl (w.heap.size + 1) #[.slice pv L.length cv, .bool true, .bool true, .bool true] rfl rfl 28 _ Z4.out (by kernel_rfl) rfl (by kernel_rfl) ?_))
      refine bodyPost_ret (v := .agg #[.slice pv L.length cv, .bool true, .bool true, .bool true]) (by exact results_cell_row Tryz.results11 _ _ (w.heap.size + 1) 28 #[.slice pv L.length cv, .bool true, .bool true, .bool true] (0, 0) _ rfl (setRow_heap _ _ _ _ _ _ Z4.out) Tryz.underlying28 rfl (by kernel_rfl)) (by rfl) ⟨.slice pv L.length cv, by rw [HER.out, HEW.out, HES.out], own_keptT (Joins.ownsRow_le O4.out (by omega)) (fun k hk => setRow_other (by have := (HO.out.lt k hk).1; omega)), Go.below_setRow B4.out (by omega) _⟩
    · have ER : rdS 31 true true = true := by decide
      have EW : wtS 31 true wr = true := by cases wr <;> decide
      have ES : stk 31 = true := by decide
      have HER := Lib.hid ER; have HEW := Lib.hid EW; have HES := Lib.hid ES
      clear ER EW ES
      have Z4 := Lib.hid ((Below.heap_alloc w1 (.cells #[.slice pv L.length cv, .bool true, .bool true, .bool true] 28) _ (lt_of_blk Z1.out)).trans Z1.out)
      have P4 := Lib.hid (heap_alloc_new w1 (.cells #[.slice pv L.length cv, .bool true, .bool true, .bool true] 28))
      have B4 := Lib.hid (B1.out.alloc B1.out.size (.cells #[.slice pv L.length cv, .bool true, .bool true, .bool true] 28))
      have O4 := Lib.hid (World.ownsRow.alloc HO.out (.cells #[.slice pv L.length cv, .bool true, .bool true, .bool true] 28))
      go_wp2_with (first | (go_at_call 29; refine (CW.out _).mono ?_; rintro e w2 ⟨rfl, rfl⟩) | (refine wpList_load_row rfl 28 (.tmp 3) rfl w1.heap.size rfl 28 #[.slice pv L.length cv, .bool true, .bool true, .bool true] (0, 0) _ P4.out Tryz.underlying28 rfl (by kernel_rfl) ?_) | (refine wpList_store_row rfl 28 (.tmp 2) (.tmp 73) rfl (w.heap.size + 1) #[.slice pv L.length cv, .bool true, .bool true, .bool true] rfl rfl 28 _ Z4.out (by kernel_rfl) rfl (by kernel_rfl) ?_))
      refine bodyPost_ret (v := .agg #[.slice pv L.length cv, .bool true, .bool true, .bool true]) (by exact results_cell_row Tryz.results11 _ _ (w.heap.size + 1) 28 #[.slice pv L.length cv, .bool true, .bool true, .bool true] (0, 0) _ rfl (setRow_heap _ _ _ _ _ _ Z4.out) Tryz.underlying28 rfl (by kernel_rfl)) (by rfl) ⟨.slice pv L.length cv, by rw [HER.out, HEW.out, HES.out], own_keptT (Joins.ownsRow_le O4.out (by omega)) (fun k hk => setRow_other (by have := (HO.out.lt k hk).1; omega)), Go.below_setRow B4.out (by omega) _⟩
set_option maxRecDepth 100000 in
set_option maxHeartbeats 8000000 in
theorem touch0S_41 (sz cd fr : Int) (d s : Opd) (ln : Int) (w : World) (L : List Int) (t0 t1 wr : Bool) (e0 : (d.k == 2) = t0) (e1 : (s.k == 2) = t1) (hwr : (((41 : Int) != 8) && ((41 : Int) != 10)) = wr) (CR : Hid (∀ W, Calls Tryz.prog 28 #[.agg #[.int .i64 41, .int .i64 sz, .int .i64 cd, .int .i64 fr, .int .i64 d.k, .int .i64 d.r, .int .i64 d.b, .int .i64 d.i, .int .i64 d.s, .int .i64 d.d, .int .i64 d.m, .int .i64 s.k, .int .i64 s.r, .int .i64 s.b, .int .i64 s.i, .int .i64 s.s, .int .i64 s.d, .int .i64 s.m, .int .i64 ln]] W fun e w' => ∃ v, e = .returned v ∧ w'.ownsRow W.heap.size 3 1 v L.length (L.map (fun i => .int .i64 i)) ∧ Below W.heap.size W w'))  :
    Calls Tryz.prog 11 #[.agg #[.int .i64 41, .int .i64 sz, .int .i64 cd, .int .i64 fr, .int .i64 d.k, .int .i64 d.r, .int .i64 d.b, .int .i64 d.i, .int .i64 d.s, .int .i64 d.d, .int .i64 d.m, .int .i64 s.k, .int .i64 s.r, .int .i64 s.b, .int .i64 s.i, .int .i64 s.s, .int .i64 s.d, .int .i64 s.m, .int .i64 ln]] w fun e w' => ∃ v, e = .returned (.agg #[v, .bool (rdS 41 t0 t1), .bool (wtS 41 t0 wr), .bool (stk 41)]) ∧ w'.ownsRow w.heap.size 3 1 v L.length (L.map (fun i => .int .i64 i)) ∧ Below w.heap.size w w' := by
  have R0 := Lib.hid (show (((w.alloc (.cells #[.int .i64 41, .int .i64 sz, .int .i64 cd, .int .i64 fr, .int .i64 d.k, .int .i64 d.r, .int .i64 d.b, .int .i64 d.i, .int .i64 d.s, .int .i64 d.d, .int .i64 d.m, .int .i64 s.k, .int .i64 s.r, .int .i64 s.b, .int .i64 s.i, .int .i64 s.s, .int .i64 s.d, .int .i64 s.m, .int .i64 ln] 33)).alloc (.cells #[.slice none 0 0, .bool false, .bool false, .bool false] 28))).heap[w.heap.size]? = some (.cells #[.int .i64 41, .int .i64 sz, .int .i64 cd, .int .i64 fr, .int .i64 d.k, .int .i64 d.r, .int .i64 d.b, .int .i64 d.i, .int .i64 d.s, .int .i64 d.d, .int .i64 d.m, .int .i64 s.k, .int .i64 s.r, .int .i64 s.b, .int .i64 s.i, .int .i64 s.s, .int .i64 s.d, .int .i64 s.m, .int .i64 ln] 33 (0, 0)) from (Below.heap_alloc _ _ _ (by simp)).trans (heap_alloc_new w _))
  have Z0 := Lib.hid (show (((w.alloc (.cells #[.int .i64 41, .int .i64 sz, .int .i64 cd, .int .i64 fr, .int .i64 d.k, .int .i64 d.r, .int .i64 d.b, .int .i64 d.i, .int .i64 d.s, .int .i64 d.d, .int .i64 d.m, .int .i64 s.k, .int .i64 s.r, .int .i64 s.b, .int .i64 s.i, .int .i64 s.s, .int .i64 s.d, .int .i64 s.m, .int .i64 ln] 33)).alloc (.cells #[.slice none 0 0, .bool false, .bool false, .bool false] 28))).heap[w.heap.size + 1]? = some (.cells #[.slice none 0 0, .bool false, .bool false, .bool false] 28 (0, 0)) from by simpa using heap_alloc_new (w.alloc (.cells #[.int .i64 41, .int .i64 sz, .int .i64 cd, .int .i64 fr, .int .i64 d.k, .int .i64 d.r, .int .i64 d.b, .int .i64 d.i, .int .i64 d.s, .int .i64 d.d, .int .i64 d.m, .int .i64 s.k, .int .i64 s.r, .int .i64 s.b, .int .i64 s.i, .int .i64 s.s, .int .i64 s.d, .int .i64 s.m, .int .i64 ln] 33)) (.cells #[.slice none 0 0, .bool false, .bool false, .bool false] 28))
  have B0 := Lib.hid (show Below w.heap.size w ((w.alloc (.cells #[.int .i64 41, .int .i64 sz, .int .i64 cd, .int .i64 fr, .int .i64 d.k, .int .i64 d.r, .int .i64 d.b, .int .i64 d.i, .int .i64 d.s, .int .i64 d.d, .int .i64 d.m, .int .i64 s.k, .int .i64 s.r, .int .i64 s.b, .int .i64 s.i, .int .i64 s.s, .int .i64 s.d, .int .i64 s.m, .int .i64 ln] 33)).alloc (.cells #[.slice none 0 0, .bool false, .bool false, .bool false] 28)) from ((Below.refl _ _).alloc (Nat.le_refl _) _).alloc (by simp) _)
  have CW := Lib.hid (fun W => writesC 41 W)
  rw [hwr] at CW
  go_enter Tryz.func11, Tryz.ntmps11
  go_wp2_with (first | refine wpList_load_row rfl 33 (.tmp 1) rfl w.heap.size rfl 33 #[.int .i64 41, .int .i64 sz, .int .i64 cd, .int .i64 fr, .int .i64 d.k, .int .i64 d.r, .int .i64 d.b, .int .i64 d.i, .int .i64 d.s, .int .i64 d.d, .int .i64 d.m, .int .i64 s.k, .int .i64 s.r, .int .i64 s.b, .int .i64 s.i, .int .i64 s.s, .int .i64 s.d, .int .i64 s.m, .int .i64 ln] (0, 0) _ R0.out Tryz.underlying33 rfl (by kernel_rfl) ?_ | refine load_rowT (by rfl) 33 (.tmp 1) rfl w.heap.size rfl 33 #[.int .i64 41, .int .i64 sz, .int .i64 cd, .int .i64 fr, .int .i64 d.k, .int .i64 d.r, .int .i64 d.b, .int .i64 d.i, .int .i64 d.s, .int .i64 d.d, .int .i64 d.m, .int .i64 s.k, .int .i64 s.r, .int .i64 s.b, .int .i64 s.i, .int .i64 s.s, .int .i64 s.d, .int .i64 s.m, .int .i64 ln] (0, 0) _ R0.out Tryz.underlying33 rfl (by kernel_rfl) ?_)
  refine (CR.out _).mono ?_
  rintro e w1 ⟨v, rfl, ho, hb⟩
  obtain ⟨pv, cv, rfl⟩ := form_ownT ho
  have hb2 : w.heap.size + 2 ≤ w1.heap.size := by have := hb.size; simp at this; omega
  have B1 := Lib.hid (B0.out.trans (hb.mono B0.out.size))
  have R1 := Lib.hid ((hb.block _ (lt_of_blk R0.out)).trans R0.out)
  have Z1 := Lib.hid ((hb.block _ (lt_of_blk Z0.out)).trans Z0.out)
  have HO := Lib.hid (show w1.ownsRow (w.heap.size + 2) 3 1 (.slice pv L.length cv) L.length (L.map (fun i => .int .i64 i)) from Joins.ownsRow_le ho (by simp))
  clear ho hb hwr
  have c0 := cell_of_row _ _ 0 _ _ _ R1.out
  have c4 := cell_of_row _ _ 4 _ _ _ R1.out
  have c11 := cell_of_row _ _ 11 _ _ _ R1.out
  simp only [List.getElem?_toArray, List.getElem?_cons_zero, List.getElem?_cons_succ] at c0 c4 c11
  have hlt : w.heap.size < w1.heap.size := by omega
  cases t0
  · cases t1
    · have ER : rdS 41 false false = false := by decide
      have EW : wtS 41 false wr = true := by cases wr <;> decide
      have ES : stk 41 = false := by decide
      have HER := Lib.hid ER; have HEW := Lib.hid EW; have HES := Lib.hid ES
      clear ER EW ES
      have Z4 := Lib.hid ((Below.heap_alloc w1 (.cells #[.slice pv L.length cv, .bool false, .bool true, .bool false] 28) _ (lt_of_blk Z1.out)).trans Z1.out)
      have P4 := Lib.hid (heap_alloc_new w1 (.cells #[.slice pv L.length cv, .bool false, .bool true, .bool false] 28))
      have B4 := Lib.hid (B1.out.alloc B1.out.size (.cells #[.slice pv L.length cv, .bool false, .bool true, .bool false] 28))
      have O4 := Lib.hid (World.ownsRow.alloc HO.out (.cells #[.slice pv L.length cv, .bool false, .bool true, .bool false] 28))
      go_wp2_with (first | (go_at_call 29; refine (CW.out _).mono ?_; rintro e w2 ⟨rfl, rfl⟩) | (refine wpList_load_row rfl 28 (.tmp 3) rfl w1.heap.size rfl 28 #[.slice pv L.length cv, .bool false, .bool true, .bool false] (0, 0) _ P4.out Tryz.underlying28 rfl (by kernel_rfl) ?_) | (refine wpList_store_row rfl 28 (.tmp 2) (.tmp 73) rfl (w.heap.size + 1) #[.slice pv L.length cv, .bool false, .bool true, .bool false] rfl rfl 28 _ Z4.out (by kernel_rfl) rfl (by kernel_rfl) ?_))
      refine bodyPost_ret (v := .agg #[.slice pv L.length cv, .bool false, .bool true, .bool false]) (by exact results_cell_row Tryz.results11 _ _ (w.heap.size + 1) 28 #[.slice pv L.length cv, .bool false, .bool true, .bool false] (0, 0) _ rfl (setRow_heap _ _ _ _ _ _ Z4.out) Tryz.underlying28 rfl (by kernel_rfl)) (by rfl) ⟨.slice pv L.length cv, by rw [HER.out, HEW.out, HES.out], own_keptT (Joins.ownsRow_le O4.out (by omega)) (fun k hk => setRow_other (by have := (HO.out.lt k hk).1; omega)), Go.below_setRow B4.out (by omega) _⟩
    · have ER : rdS 41 false true = true := by decide
      have EW : wtS 41 false wr = true := by cases wr <;> decide
      have ES : stk 41 = false := by decide
      have HER := Lib.hid ER; have HEW := Lib.hid EW; have HES := Lib.hid ES
      clear ER EW ES
      have Z4 := Lib.hid ((Below.heap_alloc w1 (.cells #[.slice pv L.length cv, .bool true, .bool true, .bool false] 28) _ (lt_of_blk Z1.out)).trans Z1.out)
      have P4 := Lib.hid (heap_alloc_new w1 (.cells #[.slice pv L.length cv, .bool true, .bool true, .bool false] 28))
      have B4 := Lib.hid (B1.out.alloc B1.out.size (.cells #[.slice pv L.length cv, .bool true, .bool true, .bool false] 28))
      have O4 := Lib.hid (World.ownsRow.alloc HO.out (.cells #[.slice pv L.length cv, .bool true, .bool true, .bool false] 28))
      go_wp2_with (first | (go_at_call 29; refine (CW.out _).mono ?_; rintro e w2 ⟨rfl, rfl⟩) | (refine wpList_load_row rfl 28 (.tmp 3) rfl w1.heap.size rfl 28 #[.slice pv L.length cv, .bool true, .bool true, .bool false] (0, 0) _ P4.out Tryz.underlying28 rfl (by kernel_rfl) ?_) | (refine wpList_store_row rfl 28 (.tmp 2) (.tmp 73) rfl (w.heap.size + 1) #[.slice pv L.length cv, .bool true, .bool true, .bool false] rfl rfl 28 _ Z4.out (by kernel_rfl) rfl (by kernel_rfl) ?_))
      refine bodyPost_ret (v := .agg #[.slice pv L.length cv, .bool true, .bool true, .bool false]) (by exact results_cell_row Tryz.results11 _ _ (w.heap.size + 1) 28 #[.slice pv L.length cv, .bool true, .bool true, .bool false] (0, 0) _ rfl (setRow_heap _ _ _ _ _ _ Z4.out) Tryz.underlying28 rfl (by kernel_rfl)) (by rfl) ⟨.slice pv L.length cv, by rw [HER.out, HEW.out, HES.out], own_keptT (Joins.ownsRow_le O4.out (by omega)) (fun k hk => setRow_other (by have := (HO.out.lt k hk).1; omega)), Go.below_setRow B4.out (by omega) _⟩
  · cases t1
    · have ER : rdS 41 true false = true := by decide
      have EW : wtS 41 true wr = true := by cases wr <;> decide
      have ES : stk 41 = false := by decide
      have HER := Lib.hid ER; have HEW := Lib.hid EW; have HES := Lib.hid ES
      clear ER EW ES
      have Z4 := Lib.hid ((Below.heap_alloc w1 (.cells #[.slice pv L.length cv, .bool true, .bool true, .bool false] 28) _ (lt_of_blk Z1.out)).trans Z1.out)
      have P4 := Lib.hid (heap_alloc_new w1 (.cells #[.slice pv L.length cv, .bool true, .bool true, .bool false] 28))
      have B4 := Lib.hid (B1.out.alloc B1.out.size (.cells #[.slice pv L.length cv, .bool true, .bool true, .bool false] 28))
      have O4 := Lib.hid (World.ownsRow.alloc HO.out (.cells #[.slice pv L.length cv, .bool true, .bool true, .bool false] 28))
      go_wp2_with (first | (go_at_call 29; refine (CW.out _).mono ?_; rintro e w2 ⟨rfl, rfl⟩) | (refine wpList_load_row rfl 28 (.tmp 3) rfl w1.heap.size rfl 28 #[.slice pv L.length cv, .bool true, .bool true, .bool false] (0, 0) _ P4.out Tryz.underlying28 rfl (by kernel_rfl) ?_) | (refine wpList_store_row rfl 28 (.tmp 2) (.tmp 73) rfl (w.heap.size + 1) #[.slice pv L.length cv, .bool true, .bool true, .bool false] rfl rfl 28 _ Z4.out (by kernel_rfl) rfl (by kernel_rfl) ?_))
      refine bodyPost_ret (v := .agg #[.slice pv L.length cv, .bool true, .bool true, .bool false]) (by exact results_cell_row Tryz.results11 _ _ (w.heap.size + 1) 28 #[.slice pv L.length cv, .bool true, .bool true, .bool false] (0, 0) _ rfl (setRow_heap _ _ _ _ _ _ Z4.out) Tryz.underlying28 rfl (by kernel_rfl)) (by rfl) ⟨.slice pv L.length cv, by rw [HER.out, HEW.out, HES.out], own_keptT (Joins.ownsRow_le O4.out (by omega)) (fun k hk => setRow_other (by have := (HO.out.lt k hk).1; omega)), Go.below_setRow B4.out (by omega) _⟩
    · have ER : rdS 41 true true = true := by decide
      have EW : wtS 41 true wr = true := by cases wr <;> decide
      have ES : stk 41 = false := by decide
      have HER := Lib.hid ER; have HEW := Lib.hid EW; have HES := Lib.hid ES
      clear ER EW ES
      have Z4 := Lib.hid ((Below.heap_alloc w1 (.cells #[.slice pv L.length cv, .bool true, .bool true, .bool false] 28) _ (lt_of_blk Z1.out)).trans Z1.out)
      have P4 := Lib.hid (heap_alloc_new w1 (.cells #[.slice pv L.length cv, .bool true, .bool true, .bool false] 28))
      have B4 := Lib.hid (B1.out.alloc B1.out.size (.cells #[.slice pv L.length cv, .bool true, .bool true, .bool false] 28))
      have O4 := Lib.hid (World.ownsRow.alloc HO.out (.cells #[.slice pv L.length cv, .bool true, .bool true, .bool false] 28))
      go_wp2_with (first | (go_at_call 29; refine (CW.out _).mono ?_; rintro e w2 ⟨rfl, rfl⟩) | (refine wpList_load_row rfl 28 (.tmp 3) rfl w1.heap.size rfl 28 #[.slice pv L.length cv, .bool true, .bool true, .bool false] (0, 0) _ P4.out Tryz.underlying28 rfl (by kernel_rfl) ?_) | (refine wpList_store_row rfl 28 (.tmp 2) (.tmp 73) rfl (w.heap.size + 1) #[.slice pv L.length cv, .bool true, .bool true, .bool false] rfl rfl 28 _ Z4.out (by kernel_rfl) rfl (by kernel_rfl) ?_))
      refine bodyPost_ret (v := .agg #[.slice pv L.length cv, .bool true, .bool true, .bool false]) (by exact results_cell_row Tryz.results11 _ _ (w.heap.size + 1) 28 #[.slice pv L.length cv, .bool true, .bool true, .bool false] (0, 0) _ rfl (setRow_heap _ _ _ _ _ _ Z4.out) Tryz.underlying28 rfl (by kernel_rfl)) (by rfl) ⟨.slice pv L.length cv, by rw [HER.out, HEW.out, HES.out], own_keptT (Joins.ownsRow_le O4.out (by omega)) (fun k hk => setRow_other (by have := (HO.out.lt k hk).1; omega)), Go.below_setRow B4.out (by omega) _⟩
set_option maxRecDepth 100000 in
set_option maxHeartbeats 8000000 in
theorem touch0S_34 (sz cd fr : Int) (d s : Opd) (ln : Int) (w : World) (L : List Int) (t0 t1 wr : Bool) (e0 : (d.k == 2) = t0) (e1 : (s.k == 2) = t1) (hwr : (((34 : Int) != 8) && ((34 : Int) != 10)) = wr) (CR : Hid (∀ W, Calls Tryz.prog 28 #[.agg #[.int .i64 34, .int .i64 sz, .int .i64 cd, .int .i64 fr, .int .i64 d.k, .int .i64 d.r, .int .i64 d.b, .int .i64 d.i, .int .i64 d.s, .int .i64 d.d, .int .i64 d.m, .int .i64 s.k, .int .i64 s.r, .int .i64 s.b, .int .i64 s.i, .int .i64 s.s, .int .i64 s.d, .int .i64 s.m, .int .i64 ln]] W fun e w' => ∃ v, e = .returned v ∧ w'.ownsRow W.heap.size 3 1 v L.length (L.map (fun i => .int .i64 i)) ∧ Below W.heap.size W w'))  :
    Calls Tryz.prog 11 #[.agg #[.int .i64 34, .int .i64 sz, .int .i64 cd, .int .i64 fr, .int .i64 d.k, .int .i64 d.r, .int .i64 d.b, .int .i64 d.i, .int .i64 d.s, .int .i64 d.d, .int .i64 d.m, .int .i64 s.k, .int .i64 s.r, .int .i64 s.b, .int .i64 s.i, .int .i64 s.s, .int .i64 s.d, .int .i64 s.m, .int .i64 ln]] w fun e w' => ∃ v, e = .returned (.agg #[v, .bool (rdS 34 t0 t1), .bool (wtS 34 t0 wr), .bool (stk 34)]) ∧ w'.ownsRow w.heap.size 3 1 v L.length (L.map (fun i => .int .i64 i)) ∧ Below w.heap.size w w' := by
  have R0 := Lib.hid (show (((w.alloc (.cells #[.int .i64 34, .int .i64 sz, .int .i64 cd, .int .i64 fr, .int .i64 d.k, .int .i64 d.r, .int .i64 d.b, .int .i64 d.i, .int .i64 d.s, .int .i64 d.d, .int .i64 d.m, .int .i64 s.k, .int .i64 s.r, .int .i64 s.b, .int .i64 s.i, .int .i64 s.s, .int .i64 s.d, .int .i64 s.m, .int .i64 ln] 33)).alloc (.cells #[.slice none 0 0, .bool false, .bool false, .bool false] 28))).heap[w.heap.size]? = some (.cells #[.int .i64 34, .int .i64 sz, .int .i64 cd, .int .i64 fr, .int .i64 d.k, .int .i64 d.r, .int .i64 d.b, .int .i64 d.i, .int .i64 d.s, .int .i64 d.d, .int .i64 d.m, .int .i64 s.k, .int .i64 s.r, .int .i64 s.b, .int .i64 s.i, .int .i64 s.s, .int .i64 s.d, .int .i64 s.m, .int .i64 ln] 33 (0, 0)) from (Below.heap_alloc _ _ _ (by simp)).trans (heap_alloc_new w _))
  have Z0 := Lib.hid (show (((w.alloc (.cells #[.int .i64 34, .int .i64 sz, .int .i64 cd, .int .i64 fr, .int .i64 d.k, .int .i64 d.r, .int .i64 d.b, .int .i64 d.i, .int .i64 d.s, .int .i64 d.d, .int .i64 d.m, .int .i64 s.k, .int .i64 s.r, .int .i64 s.b, .int .i64 s.i, .int .i64 s.s, .int .i64 s.d, .int .i64 s.m, .int .i64 ln] 33)).alloc (.cells #[.slice none 0 0, .bool false, .bool false, .bool false] 28))).heap[w.heap.size + 1]? = some (.cells #[.slice none 0 0, .bool false, .bool false, .bool false] 28 (0, 0)) from by simpa using heap_alloc_new (w.alloc (.cells #[.int .i64 34, .int .i64 sz, .int .i64 cd, .int .i64 fr, .int .i64 d.k, .int .i64 d.r, .int .i64 d.b, .int .i64 d.i, .int .i64 d.s, .int .i64 d.d, .int .i64 d.m, .int .i64 s.k, .int .i64 s.r, .int .i64 s.b, .int .i64 s.i, .int .i64 s.s, .int .i64 s.d, .int .i64 s.m, .int .i64 ln] 33)) (.cells #[.slice none 0 0, .bool false, .bool false, .bool false] 28))
  have B0 := Lib.hid (show Below w.heap.size w ((w.alloc (.cells #[.int .i64 34, .int .i64 sz, .int .i64 cd, .int .i64 fr, .int .i64 d.k, .int .i64 d.r, .int .i64 d.b, .int .i64 d.i, .int .i64 d.s, .int .i64 d.d, .int .i64 d.m, .int .i64 s.k, .int .i64 s.r, .int .i64 s.b, .int .i64 s.i, .int .i64 s.s, .int .i64 s.d, .int .i64 s.m, .int .i64 ln] 33)).alloc (.cells #[.slice none 0 0, .bool false, .bool false, .bool false] 28)) from ((Below.refl _ _).alloc (Nat.le_refl _) _).alloc (by simp) _)
  have CW := Lib.hid (fun W => writesC 34 W)
  rw [hwr] at CW
  go_enter Tryz.func11, Tryz.ntmps11
  go_wp2_with (first | refine wpList_load_row rfl 33 (.tmp 1) rfl w.heap.size rfl 33 #[.int .i64 34, .int .i64 sz, .int .i64 cd, .int .i64 fr, .int .i64 d.k, .int .i64 d.r, .int .i64 d.b, .int .i64 d.i, .int .i64 d.s, .int .i64 d.d, .int .i64 d.m, .int .i64 s.k, .int .i64 s.r, .int .i64 s.b, .int .i64 s.i, .int .i64 s.s, .int .i64 s.d, .int .i64 s.m, .int .i64 ln] (0, 0) _ R0.out Tryz.underlying33 rfl (by kernel_rfl) ?_ | refine load_rowT (by rfl) 33 (.tmp 1) rfl w.heap.size rfl 33 #[.int .i64 34, .int .i64 sz, .int .i64 cd, .int .i64 fr, .int .i64 d.k, .int .i64 d.r, .int .i64 d.b, .int .i64 d.i, .int .i64 d.s, .int .i64 d.d, .int .i64 d.m, .int .i64 s.k, .int .i64 s.r, .int .i64 s.b, .int .i64 s.i, .int .i64 s.s, .int .i64 s.d, .int .i64 s.m, .int .i64 ln] (0, 0) _ R0.out Tryz.underlying33 rfl (by kernel_rfl) ?_)
  refine (CR.out _).mono ?_
  rintro e w1 ⟨v, rfl, ho, hb⟩
  obtain ⟨pv, cv, rfl⟩ := form_ownT ho
  have hb2 : w.heap.size + 2 ≤ w1.heap.size := by have := hb.size; simp at this; omega
  have B1 := Lib.hid (B0.out.trans (hb.mono B0.out.size))
  have R1 := Lib.hid ((hb.block _ (lt_of_blk R0.out)).trans R0.out)
  have Z1 := Lib.hid ((hb.block _ (lt_of_blk Z0.out)).trans Z0.out)
  have HO := Lib.hid (show w1.ownsRow (w.heap.size + 2) 3 1 (.slice pv L.length cv) L.length (L.map (fun i => .int .i64 i)) from Joins.ownsRow_le ho (by simp))
  clear ho hb hwr
  have c0 := cell_of_row _ _ 0 _ _ _ R1.out
  have c4 := cell_of_row _ _ 4 _ _ _ R1.out
  have c11 := cell_of_row _ _ 11 _ _ _ R1.out
  simp only [List.getElem?_toArray, List.getElem?_cons_zero, List.getElem?_cons_succ] at c0 c4 c11
  have hlt : w.heap.size < w1.heap.size := by omega
  cases t0
  · cases t1
    · have ER : rdS 34 false false = true := by decide
      have EW : wtS 34 false wr = false := by cases wr <;> decide
      have ES : stk 34 = true := by decide
      have HER := Lib.hid ER; have HEW := Lib.hid EW; have HES := Lib.hid ES
      clear ER EW ES
      have Z4 := Lib.hid ((Below.heap_alloc w1 (.cells #[.slice pv L.length cv, .bool true, .bool false, .bool true] 28) _ (lt_of_blk Z1.out)).trans Z1.out)
      have P4 := Lib.hid (heap_alloc_new w1 (.cells #[.slice pv L.length cv, .bool true, .bool false, .bool true] 28))
      have B4 := Lib.hid (B1.out.alloc B1.out.size (.cells #[.slice pv L.length cv, .bool true, .bool false, .bool true] 28))
      have O4 := Lib.hid (World.ownsRow.alloc HO.out (.cells #[.slice pv L.length cv, .bool true, .bool false, .bool true] 28))
      go_wp2_with (first | (go_at_call 29; refine (CW.out _).mono ?_; rintro e w2 ⟨rfl, rfl⟩) | (refine wpList_load_row rfl 28 (.tmp 3) rfl w1.heap.size rfl 28 #[.slice pv L.length cv, .bool true, .bool false, .bool true] (0, 0) _ P4.out Tryz.underlying28 rfl (by kernel_rfl) ?_) | (refine wpList_store_row rfl 28 (.tmp 2) (.tmp 73) rfl (w.heap.size + 1) #[.slice pv L.length cv, .bool true, .bool false, .bool true] rfl rfl 28 _ Z4.out (by kernel_rfl) rfl (by kernel_rfl) ?_))
      refine bodyPost_ret (v := .agg #[.slice pv L.length cv, .bool true, .bool false, .bool true]) (by exact results_cell_row Tryz.results11 _ _ (w.heap.size + 1) 28 #[.slice pv L.length cv, .bool true, .bool false, .bool true] (0, 0) _ rfl (setRow_heap _ _ _ _ _ _ Z4.out) Tryz.underlying28 rfl (by kernel_rfl)) (by rfl) ⟨.slice pv L.length cv, by rw [HER.out, HEW.out, HES.out], own_keptT (Joins.ownsRow_le O4.out (by omega)) (fun k hk => setRow_other (by have := (HO.out.lt k hk).1; omega)), Go.below_setRow B4.out (by omega) _⟩
    · have ER : rdS 34 false true = true := by decide
      have EW : wtS 34 false wr = false := by cases wr <;> decide
      have ES : stk 34 = true := by decide
      have HER := Lib.hid ER; have HEW := Lib.hid EW; have HES := Lib.hid ES
      clear ER EW ES
      have Z4 := Lib.hid ((Below.heap_alloc w1 (.cells #[.slice pv L.length cv, .bool true, .bool false, .bool true] 28) _ (lt_of_blk Z1.out)).trans Z1.out)
      have P4 := Lib.hid (heap_alloc_new w1 (.cells #[.slice pv L.length cv, .bool true, .bool false, .bool true] 28))
      have B4 := Lib.hid (B1.out.alloc B1.out.size (.cells #[.slice pv L.length cv, .bool true, .bool false, .bool true] 28))
      have O4 := Lib.hid (World.ownsRow.alloc HO.out (.cells #[.slice pv L.length cv, .bool true, .bool false, .bool true] 28))
      go_wp2_with (first | (go_at_call 29; refine (CW.out _).mono ?_; rintro e w2 ⟨rfl, rfl⟩) | (refine wpList_load_row rfl 28 (.tmp 3) rfl w1.heap.size rfl 28 #[.slice pv L.length cv, .bool true, .bool false, .bool true] (0, 0) _ P4.out Tryz.underlying28 rfl (by kernel_rfl) ?_) | (refine wpList_store_row rfl 28 (.tmp 2) (.tmp 73) rfl (w.heap.size + 1) #[.slice pv L.length cv, .bool true, .bool false, .bool true] rfl rfl 28 _ Z4.out (by kernel_rfl) rfl (by kernel_rfl) ?_))
      refine bodyPost_ret (v := .agg #[.slice pv L.length cv, .bool true, .bool false, .bool true]) (by exact results_cell_row Tryz.results11 _ _ (w.heap.size + 1) 28 #[.slice pv L.length cv, .bool true, .bool false, .bool true] (0, 0) _ rfl (setRow_heap _ _ _ _ _ _ Z4.out) Tryz.underlying28 rfl (by kernel_rfl)) (by rfl) ⟨.slice pv L.length cv, by rw [HER.out, HEW.out, HES.out], own_keptT (Joins.ownsRow_le O4.out (by omega)) (fun k hk => setRow_other (by have := (HO.out.lt k hk).1; omega)), Go.below_setRow B4.out (by omega) _⟩
  · cases t1
    · have ER : rdS 34 true false = true := by decide
      have EW : wtS 34 true wr = wr := by cases wr <;> decide
      have ES : stk 34 = true := by decide
      have HER := Lib.hid ER; have HEW := Lib.hid EW; have HES := Lib.hid ES
      clear ER EW ES
      have Z4 := Lib.hid ((Below.heap_alloc w1 (.cells #[.slice pv L.length cv, .bool true, .bool wr, .bool true] 28) _ (lt_of_blk Z1.out)).trans Z1.out)
      have P4 := Lib.hid (heap_alloc_new w1 (.cells #[.slice pv L.length cv, .bool true, .bool wr, .bool true] 28))
      have B4 := Lib.hid (B1.out.alloc B1.out.size (.cells #[.slice pv L.length cv, .bool true, .bool wr, .bool true] 28))
      have O4 := Lib.hid (World.ownsRow.alloc HO.out (.cells #[.slice pv L.length cv, .bool true, .bool wr, .bool true] 28))
      go_wp2_with (first | (go_at_call 29; refine (CW.out _).mono ?_; rintro e w2 ⟨rfl, rfl⟩) | (refine wpList_load_row rfl 28 (.tmp 3) rfl w1.heap.size rfl 28 #[.slice pv L.length cv, .bool true, .bool wr, .bool true] (0, 0) _ P4.out Tryz.underlying28 rfl (by kernel_rfl) ?_) | (refine wpList_store_row rfl 28 (.tmp 2) (.tmp 73) rfl (w.heap.size + 1) #[.slice pv L.length cv, .bool true, .bool wr, .bool true] rfl rfl 28 _ Z4.out (by kernel_rfl) rfl (by kernel_rfl) ?_))
      refine bodyPost_ret (v := .agg #[.slice pv L.length cv, .bool true, .bool wr, .bool true]) (by exact results_cell_row Tryz.results11 _ _ (w.heap.size + 1) 28 #[.slice pv L.length cv, .bool true, .bool wr, .bool true] (0, 0) _ rfl (setRow_heap _ _ _ _ _ _ Z4.out) Tryz.underlying28 rfl (by kernel_rfl)) (by rfl) ⟨.slice pv L.length cv, by rw [HER.out, HEW.out, HES.out], own_keptT (Joins.ownsRow_le O4.out (by omega)) (fun k hk => setRow_other (by have := (HO.out.lt k hk).1; omega)), Go.below_setRow B4.out (by omega) _⟩
    · have ER : rdS 34 true true = true := by decide
      have EW : wtS 34 true wr = wr := by cases wr <;> decide
      have ES : stk 34 = true := by decide
      have HER := Lib.hid ER; have HEW := Lib.hid EW; have HES := Lib.hid ES
      clear ER EW ES
      have Z4 := Lib.hid ((Below.heap_alloc w1 (.cells #[.slice pv L.length cv, .bool true, .bool wr, .bool true] 28) _ (lt_of_blk Z1.out)).trans Z1.out)
      have P4 := Lib.hid (heap_alloc_new w1 (.cells #[.slice pv L.length cv, .bool true, .bool wr, .bool true] 28))
      have B4 := Lib.hid (B1.out.alloc B1.out.size (.cells #[.slice pv L.length cv, .bool true, .bool wr, .bool true] 28))
      have O4 := Lib.hid (World.ownsRow.alloc HO.out (.cells #[.slice pv L.length cv, .bool true, .bool wr, .bool true] 28))
      go_wp2_with (first | (go_at_call 29; refine (CW.out _).mono ?_; rintro e w2 ⟨rfl, rfl⟩) | (refine wpList_load_row rfl 28 (.tmp 3) rfl w1.heap.size rfl 28 #[.slice pv L.length cv, .bool true, .bool wr, .bool true] (0, 0) _ P4.out Tryz.underlying28 rfl (by kernel_rfl) ?_) | (refine wpList_store_row rfl 28 (.tmp 2) (.tmp 73) rfl (w.heap.size + 1) #[.slice pv L.length cv, .bool true, .bool wr, .bool true] rfl rfl 28 _ Z4.out (by kernel_rfl) rfl (by kernel_rfl) ?_))
      refine bodyPost_ret (v := .agg #[.slice pv L.length cv, .bool true, .bool wr, .bool true]) (by exact results_cell_row Tryz.results11 _ _ (w.heap.size + 1) 28 #[.slice pv L.length cv, .bool true, .bool wr, .bool true] (0, 0) _ rfl (setRow_heap _ _ _ _ _ _ Z4.out) Tryz.underlying28 rfl (by kernel_rfl)) (by rfl) ⟨.slice pv L.length cv, by rw [HER.out, HEW.out, HES.out], own_keptT (Joins.ownsRow_le O4.out (by omega)) (fun k hk => setRow_other (by have := (HO.out.lt k hk).1; omega)), Go.below_setRow B4.out (by omega) _⟩
set_option maxRecDepth 100000 in
set_option maxHeartbeats 8000000 in
theorem touch0S_42 (sz cd fr : Int) (d s : Opd) (ln : Int) (w : World) (L : List Int) (t0 t1 wr : Bool) (e0 : (d.k == 2) = t0) (e1 : (s.k == 2) = t1) (hwr : (((42 : Int) != 8) && ((42 : Int) != 10)) = wr) (CR : Hid (∀ W, Calls Tryz.prog 28 #[.agg #[.int .i64 42, .int .i64 sz, .int .i64 cd, .int .i64 fr, .int .i64 d.k, .int .i64 d.r, .int .i64 d.b, .int .i64 d.i, .int .i64 d.s, .int .i64 d.d, .int .i64 d.m, .int .i64 s.k, .int .i64 s.r, .int .i64 s.b, .int .i64 s.i, .int .i64 s.s, .int .i64 s.d, .int .i64 s.m, .int .i64 ln]] W fun e w' => ∃ v, e = .returned v ∧ w'.ownsRow W.heap.size 3 1 v L.length (L.map (fun i => .int .i64 i)) ∧ Below W.heap.size W w'))  :
    Calls Tryz.prog 11 #[.agg #[.int .i64 42, .int .i64 sz, .int .i64 cd, .int .i64 fr, .int .i64 d.k, .int .i64 d.r, .int .i64 d.b, .int .i64 d.i, .int .i64 d.s, .int .i64 d.d, .int .i64 d.m, .int .i64 s.k, .int .i64 s.r, .int .i64 s.b, .int .i64 s.i, .int .i64 s.s, .int .i64 s.d, .int .i64 s.m, .int .i64 ln]] w fun e w' => ∃ v, e = .returned (.agg #[v, .bool (rdS 42 t0 t1), .bool (wtS 42 t0 wr), .bool (stk 42)]) ∧ w'.ownsRow w.heap.size 3 1 v L.length (L.map (fun i => .int .i64 i)) ∧ Below w.heap.size w w' := by
  have R0 := Lib.hid (show (((w.alloc (.cells #[.int .i64 42, .int .i64 sz, .int .i64 cd, .int .i64 fr, .int .i64 d.k, .int .i64 d.r, .int .i64 d.b, .int .i64 d.i, .int .i64 d.s, .int .i64 d.d, .int .i64 d.m, .int .i64 s.k, .int .i64 s.r, .int .i64 s.b, .int .i64 s.i, .int .i64 s.s, .int .i64 s.d, .int .i64 s.m, .int .i64 ln] 33)).alloc (.cells #[.slice none 0 0, .bool false, .bool false, .bool false] 28))).heap[w.heap.size]? = some (.cells #[.int .i64 42, .int .i64 sz, .int .i64 cd, .int .i64 fr, .int .i64 d.k, .int .i64 d.r, .int .i64 d.b, .int .i64 d.i, .int .i64 d.s, .int .i64 d.d, .int .i64 d.m, .int .i64 s.k, .int .i64 s.r, .int .i64 s.b, .int .i64 s.i, .int .i64 s.s, .int .i64 s.d, .int .i64 s.m, .int .i64 ln] 33 (0, 0)) from (Below.heap_alloc _ _ _ (by simp)).trans (heap_alloc_new w _))
  have Z0 := Lib.hid (show (((w.alloc (.cells #[.int .i64 42, .int .i64 sz, .int .i64 cd, .int .i64 fr, .int .i64 d.k, .int .i64 d.r, .int .i64 d.b, .int .i64 d.i, .int .i64 d.s, .int .i64 d.d, .int .i64 d.m, .int .i64 s.k, .int .i64 s.r, .int .i64 s.b, .int .i64 s.i, .int .i64 s.s, .int .i64 s.d, .int .i64 s.m, .int .i64 ln] 33)).alloc (.cells #[.slice none 0 0, .bool false, .bool false, .bool false] 28))).heap[w.heap.size + 1]? = some (.cells #[.slice none 0 0, .bool false, .bool false, .bool false] 28 (0, 0)) from by simpa using heap_alloc_new (w.alloc (.cells #[.int .i64 42, .int .i64 sz, .int .i64 cd, .int .i64 fr, .int .i64 d.k, .int .i64 d.r, .int .i64 d.b, .int .i64 d.i, .int .i64 d.s, .int .i64 d.d, .int .i64 d.m, .int .i64 s.k, .int .i64 s.r, .int .i64 s.b, .int .i64 s.i, .int .i64 s.s, .int .i64 s.d, .int .i64 s.m, .int .i64 ln] 33)) (.cells #[.slice none 0 0, .bool false, .bool false, .bool false] 28))
  have B0 := Lib.hid (show Below w.heap.size w ((w.alloc (.cells #[.int .i64 42, .int .i64 sz, .int .i64 cd, .int .i64 fr, .int .i64 d.k, .int .i64 d.r, .int .i64 d.b, .int .i64 d.i, .int .i64 d.s, .int .i64 d.d, .int .i64 d.m, .int .i64 s.k, .int .i64 s.r, .int .i64 s.b, .int .i64 s.i, .int .i64 s.s, .int .i64 s.d, .int .i64 s.m, .int .i64 ln] 33)).alloc (.cells #[.slice none 0 0, .bool false, .bool false, .bool false] 28)) from ((Below.refl _ _).alloc (Nat.le_refl _) _).alloc (by simp) _)
  have CW := Lib.hid (fun W => writesC 42 W)
  rw [hwr] at CW
  go_enter Tryz.func11, Tryz.ntmps11
  go_wp2_with (first | refine wpList_load_row rfl 33 (.tmp 1) rfl w.heap.size rfl 33 #[.int .i64 42, .int .i64 sz, .int .i64 cd, .int .i64 fr, .int .i64 d.k, .int .i64 d.r, .int .i64 d.b, .int .i64 d.i, .int .i64 d.s, .int .i64 d.d, .int .i64 d.m, .int .i64 s.k, .int .i64 s.r, .int .i64 s.b, .int .i64 s.i, .int .i64 s.s, .int .i64 s.d, .int .i64 s.m, .int .i64 ln] (0, 0) _ R0.out Tryz.underlying33 rfl (by kernel_rfl) ?_ | refine load_rowT (by rfl) 33 (.tmp 1) rfl w.heap.size rfl 33 #[.int .i64 42, .int .i64 sz, .int .i64 cd, .int .i64 fr, .int .i64 d.k, .int .i64 d.r, .int .i64 d.b, .int .i64 d.i, .int .i64 d.s, .int .i64 d.d, .int .i64 d.m, .int .i64 s.k, .int .i64 s.r, .int .i64 s.b, .int .i64 s.i, .int .i64 s.s, .int .i64 s.d, .int .i64 s.m, .int .i64 ln] (0, 0) _ R0.out Tryz.underlying33 rfl (by kernel_rfl) ?_)
  refine (CR.out _).mono ?_
  rintro e w1 ⟨v, rfl, ho, hb⟩
  obtain ⟨pv, cv, rfl⟩ := form_ownT ho
  have hb2 : w.heap.size + 2 ≤ w1.heap.size := by have := hb.size; simp at this; omega
  have B1 := Lib.hid (B0.out.trans (hb.mono B0.out.size))
  have R1 := Lib.hid ((hb.block _ (lt_of_blk R0.out)).trans R0.out)
  have Z1 := Lib.hid ((hb.block _ (lt_of_blk Z0.out)).trans Z0.out)
  have HO := Lib.hid (show w1.ownsRow (w.heap.size + 2) 3 1 (.slice pv L.length cv) L.length (L.map (fun i => .int .i64 i)) from Joins.ownsRow_le ho (by simp))
  clear ho hb hwr
  have c0 := cell_of_row _ _ 0 _ _ _ R1.out
  have c4 := cell_of_row _ _ 4 _ _ _ R1.out
  have c11 := cell_of_row _ _ 11 _ _ _ R1.out
  simp only [List.getElem?_toArray, List.getElem?_cons_zero, List.getElem?_cons_succ] at c0 c4 c11
  have hlt : w.heap.size < w1.heap.size := by omega
  cases t0
  · cases t1
    · have ER : rdS 42 false false = true := by decide
      have EW : wtS 42 false wr = true := by cases wr <;> decide
      have ES : stk 42 = false := by decide
      have HER := Lib.hid ER; have HEW := Lib.hid EW; have HES := Lib.hid ES
      clear ER EW ES
      have Z4 := Lib.hid ((Below.heap_alloc w1 (.cells #[.slice pv L.length cv, .bool true, .bool true, .bool false] 28) _ (lt_of_blk Z1.out)).trans Z1.out)
      have P4 := Lib.hid (heap_alloc_new w1 (.cells #[.slice pv L.length cv, .bool true, .bool true, .bool false] 28))
      have B4 := Lib.hid (B1.out.alloc B1.out.size (.cells #[.slice pv L.length cv, .bool true, .bool true, .bool false] 28))
      have O4 := Lib.hid (World.ownsRow.alloc HO.out (.cells #[.slice pv L.length cv, .bool true, .bool true, .bool false] 28))
      go_wp2_with (first | (go_at_call 29; refine (CW.out _).mono ?_; rintro e w2 ⟨rfl, rfl⟩) | (refine wpList_load_row rfl 28 (.tmp 3) rfl w1.heap.size rfl 28 #[.slice pv L.length cv, .bool true, .bool true, .bool false] (0, 0) _ P4.out Tryz.underlying28 rfl (by kernel_rfl) ?_) | (refine wpList_store_row rfl 28 (.tmp 2) (.tmp 73) rfl (w.heap.size + 1) #[.slice pv L.length cv, .bool true, .bool true, .bool false] rfl rfl 28 _ Z4.out (by kernel_rfl) rfl (by kernel_rfl) ?_))
      refine bodyPost_ret (v := .agg #[.slice pv L.length cv, .bool true, .bool true, .bool false]) (by exact results_cell_row Tryz.results11 _ _ (w.heap.size + 1) 28 #[.slice pv L.length cv, .bool true, .bool true, .bool false] (0, 0) _ rfl (setRow_heap _ _ _ _ _ _ Z4.out) Tryz.underlying28 rfl (by kernel_rfl)) (by rfl) ⟨.slice pv L.length cv, by rw [HER.out, HEW.out, HES.out], own_keptT (Joins.ownsRow_le O4.out (by omega)) (fun k hk => setRow_other (by have := (HO.out.lt k hk).1; omega)), Go.below_setRow B4.out (by omega) _⟩
    · have ER : rdS 42 false true = true := by decide
      have EW : wtS 42 false wr = true := by cases wr <;> decide
      have ES : stk 42 = false := by decide
      have HER := Lib.hid ER; have HEW := Lib.hid EW; have HES := Lib.hid ES
      clear ER EW ES
      have Z4 := Lib.hid ((Below.heap_alloc w1 (.cells #[.slice pv L.length cv, .bool true, .bool true, .bool false] 28) _ (lt_of_blk Z1.out)).trans Z1.out)
      have P4 := Lib.hid (heap_alloc_new w1 (.cells #[.slice pv L.length cv, .bool true, .bool true, .bool false] 28))
      have B4 := Lib.hid (B1.out.alloc B1.out.size (.cells #[.slice pv L.length cv, .bool true, .bool true, .bool false] 28))
      have O4 := Lib.hid (World.ownsRow.alloc HO.out (.cells #[.slice pv L.length cv, .bool true, .bool true, .bool false] 28))
      go_wp2_with (first | (go_at_call 29; refine (CW.out _).mono ?_; rintro e w2 ⟨rfl, rfl⟩) | (refine wpList_load_row rfl 28 (.tmp 3) rfl w1.heap.size rfl 28 #[.slice pv L.length cv, .bool true, .bool true, .bool false] (0, 0) _ P4.out Tryz.underlying28 rfl (by kernel_rfl) ?_) | (refine wpList_store_row rfl 28 (.tmp 2) (.tmp 73) rfl (w.heap.size + 1) #[.slice pv L.length cv, .bool true, .bool true, .bool false] rfl rfl 28 _ Z4.out (by kernel_rfl) rfl (by kernel_rfl) ?_))
      refine bodyPost_ret (v := .agg #[.slice pv L.length cv, .bool true, .bool true, .bool false]) (by exact results_cell_row Tryz.results11 _ _ (w.heap.size + 1) 28 #[.slice pv L.length cv, .bool true, .bool true, .bool false] (0, 0) _ rfl (setRow_heap _ _ _ _ _ _ Z4.out) Tryz.underlying28 rfl (by kernel_rfl)) (by rfl) ⟨.slice pv L.length cv, by rw [HER.out, HEW.out, HES.out], own_keptT (Joins.ownsRow_le O4.out (by omega)) (fun k hk => setRow_other (by have := (HO.out.lt k hk).1; omega)), Go.below_setRow B4.out (by omega) _⟩
  · cases t1
    · have ER : rdS 42 true false = true := by decide
      have EW : wtS 42 true wr = true := by cases wr <;> decide
      have ES : stk 42 = false := by decide
      have HER := Lib.hid ER; have HEW := Lib.hid EW; have HES := Lib.hid ES
      clear ER EW ES
      have Z4 := Lib.hid ((Below.heap_alloc w1 (.cells #[.slice pv L.length cv, .bool true, .bool true, .bool false] 28) _ (lt_of_blk Z1.out)).trans Z1.out)
      have P4 := Lib.hid (heap_alloc_new w1 (.cells #[.slice pv L.length cv, .bool true, .bool true, .bool false] 28))
      have B4 := Lib.hid (B1.out.alloc B1.out.size (.cells #[.slice pv L.length cv, .bool true, .bool true, .bool false] 28))
      have O4 := Lib.hid (World.ownsRow.alloc HO.out (.cells #[.slice pv L.length cv, .bool true, .bool true, .bool false] 28))
      go_wp2_with (first | (go_at_call 29; refine (CW.out _).mono ?_; rintro e w2 ⟨rfl, rfl⟩) | (refine wpList_load_row rfl 28 (.tmp 3) rfl w1.heap.size rfl 28 #[.slice pv L.length cv, .bool true, .bool true, .bool false] (0, 0) _ P4.out Tryz.underlying28 rfl (by kernel_rfl) ?_) | (refine wpList_store_row rfl 28 (.tmp 2) (.tmp 73) rfl (w.heap.size + 1) #[.slice pv L.length cv, .bool true, .bool true, .bool false] rfl rfl 28 _ Z4.out (by kernel_rfl) rfl (by kernel_rfl) ?_))
      refine bodyPost_ret (v := .agg #[.slice pv L.length cv, .bool true, .bool true, .bool false]) (by exact results_cell_row Tryz.results11 _ _ (w.heap.size + 1) 28 #[.slice pv L.length cv, .bool true, .bool true, .bool false] (0, 0) _ rfl (setRow_heap _ _ _ _ _ _ Z4.out) Tryz.underlying28 rfl (by kernel_rfl)) (by rfl) ⟨.slice pv L.length cv, by rw [HER.out, HEW.out, HES.out], own_keptT (Joins.ownsRow_le O4.out (by omega)) (fun k hk => setRow_other (by have := (HO.out.lt k hk).1; omega)), Go.below_setRow B4.out (by omega) _⟩
    · have ER : rdS 42 true true = true := by decide
      have EW : wtS 42 true wr = true := by cases wr <;> decide
      have ES : stk 42 = false := by decide
      have HER := Lib.hid ER; have HEW := Lib.hid EW; have HES := Lib.hid ES
      clear ER EW ES
      have Z4 := Lib.hid ((Below.heap_alloc w1 (.cells #[.slice pv L.length cv, .bool true, .bool true, .bool false] 28) _ (lt_of_blk Z1.out)).trans Z1.out)
      have P4 := Lib.hid (heap_alloc_new w1 (.cells #[.slice pv L.length cv, .bool true, .bool true, .bool false] 28))
      have B4 := Lib.hid (B1.out.alloc B1.out.size (.cells #[.slice pv L.length cv, .bool true, .bool true, .bool false] 28))
      have O4 := Lib.hid (World.ownsRow.alloc HO.out (.cells #[.slice pv L.length cv, .bool true, .bool true, .bool false] 28))
      go_wp2_with (first | (go_at_call 29; refine (CW.out _).mono ?_; rintro e w2 ⟨rfl, rfl⟩) | (refine wpList_load_row rfl 28 (.tmp 3) rfl w1.heap.size rfl 28 #[.slice pv L.length cv, .bool true, .bool true, .bool false] (0, 0) _ P4.out Tryz.underlying28 rfl (by kernel_rfl) ?_) | (refine wpList_store_row rfl 28 (.tmp 2) (.tmp 73) rfl (w.heap.size + 1) #[.slice pv L.length cv, .bool true, .bool true, .bool false] rfl rfl 28 _ Z4.out (by kernel_rfl) rfl (by kernel_rfl) ?_))
      refine bodyPost_ret (v := .agg #[.slice pv L.length cv, .bool true, .bool true, .bool false]) (by exact results_cell_row Tryz.results11 _ _ (w.heap.size + 1) 28 #[.slice pv L.length cv, .bool true, .bool true, .bool false] (0, 0) _ rfl (setRow_heap _ _ _ _ _ _ Z4.out) Tryz.underlying28 rfl (by kernel_rfl)) (by rfl) ⟨.slice pv L.length cv, by rw [HER.out, HEW.out, HES.out], own_keptT (Joins.ownsRow_le O4.out (by omega)) (fun k hk => setRow_other (by have := (HO.out.lt k hk).1; omega)), Go.below_setRow B4.out (by omega) _⟩
set_option maxRecDepth 100000 in
set_option maxHeartbeats 8000000 in
theorem touch0S_op (op sz cd fr : Int) (d s : Opd) (ln : Int) (w : World) (L : List Int) (t0 t1 wr : Bool) (e0 : (d.k == 2) = t0) (e1 : (s.k == 2) = t1) (hwr : ((op != 8) && (op != 10)) = wr) (CR : Hid (∀ W, Calls Tryz.prog 28 #[.agg #[.int .i64 op, .int .i64 sz, .int .i64 cd, .int .i64 fr, .int .i64 d.k, .int .i64 d.r, .int .i64 d.b, .int .i64 d.i, .int .i64 d.s, .int .i64 d.d, .int .i64 d.m, .int .i64 s.k, .int .i64 s.r, .int .i64 s.b, .int .i64 s.i, .int .i64 s.s, .int .i64 s.d, .int .i64 s.m, .int .i64 ln]] W fun e w' => ∃ v, e = .returned v ∧ w'.ownsRow W.heap.size 3 1 v L.length (L.map (fun i => .int .i64 i)) ∧ Below W.heap.size W w')) (h9 : op ≠ 9) (h35 : op ≠ 35) (h30 : op ≠ 30) (h25 : op ≠ 25) (h29 : op ≠ 29) (h31 : op ≠ 31) (h41 : op ≠ 41) (h34 : op ≠ 34) (h42 : op ≠ 42) :
    Calls Tryz.prog 11 #[.agg #[.int .i64 op, .int .i64 sz, .int .i64 cd, .int .i64 fr, .int .i64 d.k, .int .i64 d.r, .int .i64 d.b, .int .i64 d.i, .int .i64 d.s, .int .i64 d.d, .int .i64 d.m, .int .i64 s.k, .int .i64 s.r, .int .i64 s.b, .int .i64 s.i, .int .i64 s.s, .int .i64 s.d, .int .i64 s.m, .int .i64 ln]] w fun e w' => ∃ v, e = .returned (.agg #[v, .bool (rdS op t0 t1), .bool (wtS op t0 wr), .bool (stk op)]) ∧ w'.ownsRow w.heap.size 3 1 v L.length (L.map (fun i => .int .i64 i)) ∧ Below w.heap.size w w' := by
  have R0 := Lib.hid (show (((w.alloc (.cells #[.int .i64 op, .int .i64 sz, .int .i64 cd, .int .i64 fr, .int .i64 d.k, .int .i64 d.r, .int .i64 d.b, .int .i64 d.i, .int .i64 d.s, .int .i64 d.d, .int .i64 d.m, .int .i64 s.k, .int .i64 s.r, .int .i64 s.b, .int .i64 s.i, .int .i64 s.s, .int .i64 s.d, .int .i64 s.m, .int .i64 ln] 33)).alloc (.cells #[.slice none 0 0, .bool false, .bool false, .bool false] 28))).heap[w.heap.size]? = some (.cells #[.int .i64 op, .int .i64 sz, .int .i64 cd, .int .i64 fr, .int .i64 d.k, .int .i64 d.r, .int .i64 d.b, .int .i64 d.i, .int .i64 d.s, .int .i64 d.d, .int .i64 d.m, .int .i64 s.k, .int .i64 s.r, .int .i64 s.b, .int .i64 s.i, .int .i64 s.s, .int .i64 s.d, .int .i64 s.m, .int .i64 ln] 33 (0, 0)) from (Below.heap_alloc _ _ _ (by simp)).trans (heap_alloc_new w _))
  have Z0 := Lib.hid (show (((w.alloc (.cells #[.int .i64 op, .int .i64 sz, .int .i64 cd, .int .i64 fr, .int .i64 d.k, .int .i64 d.r, .int .i64 d.b, .int .i64 d.i, .int .i64 d.s, .int .i64 d.d, .int .i64 d.m, .int .i64 s.k, .int .i64 s.r, .int .i64 s.b, .int .i64 s.i, .int .i64 s.s, .int .i64 s.d, .int .i64 s.m, .int .i64 ln] 33)).alloc (.cells #[.slice none 0 0, .bool false, .bool false, .bool false] 28))).heap[w.heap.size + 1]? = some (.cells #[.slice none 0 0, .bool false, .bool false, .bool false] 28 (0, 0)) from by simpa using heap_alloc_new (w.alloc (.cells #[.int .i64 op, .int .i64 sz, .int .i64 cd, .int .i64 fr, .int .i64 d.k, .int .i64 d.r, .int .i64 d.b, .int .i64 d.i, .int .i64 d.s, .int .i64 d.d, .int .i64 d.m, .int .i64 s.k, .int .i64 s.r, .int .i64 s.b, .int .i64 s.i, .int .i64 s.s, .int .i64 s.d, .int .i64 s.m, .int .i64 ln] 33)) (.cells #[.slice none 0 0, .bool false, .bool false, .bool false] 28))
  have B0 := Lib.hid (show Below w.heap.size w ((w.alloc (.cells #[.int .i64 op, .int .i64 sz, .int .i64 cd, .int .i64 fr, .int .i64 d.k, .int .i64 d.r, .int .i64 d.b, .int .i64 d.i, .int .i64 d.s, .int .i64 d.d, .int .i64 d.m, .int .i64 s.k, .int .i64 s.r, .int .i64 s.b, .int .i64 s.i, .int .i64 s.s, .int .i64 s.d, .int .i64 s.m, .int .i64 ln] 33)).alloc (.cells #[.slice none 0 0, .bool false, .bool false, .bool false] 28)) from ((Below.refl _ _).alloc (Nat.le_refl _) _).alloc (by simp) _)
  have CW := Lib.hid (fun W => writesC op W)
  rw [hwr] at CW
  go_enter Tryz.func11, Tryz.ntmps11
  go_wp2_with (first | refine wpList_load_row rfl 33 (.tmp 1) rfl w.heap.size rfl 33 #[.int .i64 op, .int .i64 sz, .int .i64 cd, .int .i64 fr, .int .i64 d.k, .int .i64 d.r, .int .i64 d.b, .int .i64 d.i, .int .i64 d.s, .int .i64 d.d, .int .i64 d.m, .int .i64 s.k, .int .i64 s.r, .int .i64 s.b, .int .i64 s.i, .int .i64 s.s, .int .i64 s.d, .int .i64 s.m, .int .i64 ln] (0, 0) _ R0.out Tryz.underlying33 rfl (by kernel_rfl) ?_ | refine load_rowT (by rfl) 33 (.tmp 1) rfl w.heap.size rfl 33 #[.int .i64 op, .int .i64 sz, .int .i64 cd, .int .i64 fr, .int .i64 d.k, .int .i64 d.r, .int .i64 d.b, .int .i64 d.i, .int .i64 d.s, .int .i64 d.d, .int .i64 d.m, .int .i64 s.k, .int .i64 s.r, .int .i64 s.b, .int .i64 s.i, .int .i64 s.s, .int .i64 s.d, .int .i64 s.m, .int .i64 ln] (0, 0) _ R0.out Tryz.underlying33 rfl (by kernel_rfl) ?_)
  refine (CR.out _).mono ?_
  rintro e w1 ⟨v, rfl, ho, hb⟩
  obtain ⟨pv, cv, rfl⟩ := form_ownT ho
  have hb2 : w.heap.size + 2 ≤ w1.heap.size := by have := hb.size; simp at this; omega
  have B1 := Lib.hid (B0.out.trans (hb.mono B0.out.size))
  have R1 := Lib.hid ((hb.block _ (lt_of_blk R0.out)).trans R0.out)
  have Z1 := Lib.hid ((hb.block _ (lt_of_blk Z0.out)).trans Z0.out)
  have HO := Lib.hid (show w1.ownsRow (w.heap.size + 2) 3 1 (.slice pv L.length cv) L.length (L.map (fun i => .int .i64 i)) from Joins.ownsRow_le ho (by simp))
  clear ho hb hwr
  have c0 := cell_of_row _ _ 0 _ _ _ R1.out
  have c4 := cell_of_row _ _ 4 _ _ _ R1.out
  have c11 := cell_of_row _ _ 11 _ _ _ R1.out
  simp only [List.getElem?_toArray, List.getElem?_cons_zero, List.getElem?_cons_succ] at c0 c4 c11
  have hlt : w.heap.size < w1.heap.size := by omega
  cases t0
  · cases t1
    · have ER : rdS op false false = false := by unfold rdS; rw [decide_eq_false (by omega), bne_iff_ne.mpr h25, bne_iff_ne.mpr h9, bne_iff_ne.mpr h35, bne_iff_ne.mpr h30]; rfl
      have EW : wtS op false wr = false := by unfold wtS; rw [decide_eq_false (by omega)]; cases wr <;> rfl
      have ES : stk op = false := by unfold stk; exact decide_eq_false (by omega)
      have HER := Lib.hid ER; have HEW := Lib.hid EW; have HES := Lib.hid ES
      clear ER EW ES
      have g9 : (op == 9) = false := beq_eq_false_iff_ne.mpr h9
      have g35 : (op == 35) = false := beq_eq_false_iff_ne.mpr h35
      have g30 : (op == 30) = false := beq_eq_false_iff_ne.mpr h30
      have g25 : (op == 25) = false := beq_eq_false_iff_ne.mpr h25
      have g29 : (op == 29) = false := beq_eq_false_iff_ne.mpr h29
      have g31 : (op == 31) = false := beq_eq_false_iff_ne.mpr h31
      have g41 : (op == 41) = false := beq_eq_false_iff_ne.mpr h41
      have g34 : (op == 34) = false := beq_eq_false_iff_ne.mpr h34
      have g42 : (op == 42) = false := beq_eq_false_iff_ne.mpr h42
      have n9 : (op != 9) = true := bne_iff_ne.mpr h9
      have n35 : (op != 35) = true := bne_iff_ne.mpr h35
      have n30 : (op != 30) = true := bne_iff_ne.mpr h30
      have n25 : (op != 25) = true := bne_iff_ne.mpr h25
      clear h9 h35 h30 h25 h29 h31 h41 h34 h42
      have Z4 := Lib.hid ((Below.heap_alloc w1 (.cells #[.slice pv L.length cv, .bool false, .bool false, .bool false] 28) _ (lt_of_blk Z1.out)).trans Z1.out)
      have P4 := Lib.hid (heap_alloc_new w1 (.cells #[.slice pv L.length cv, .bool false, .bool false, .bool false] 28))
      have B4 := Lib.hid (B1.out.alloc B1.out.size (.cells #[.slice pv L.length cv, .bool false, .bool false, .bool false] 28))
      have O4 := Lib.hid (World.ownsRow.alloc HO.out (.cells #[.slice pv L.length cv, .bool false, .bool false, .bool false] 28))
      go_wp2_with (first | (go_at_call 29; refine (CW.out _).mono ?_; rintro e w2 ⟨rfl, rfl⟩) | (refine wpList_load_row rfl 28 (.tmp 3) rfl w1.heap.size rfl 28 #[.slice pv L.length cv, .bool false, .bool false, .bool false] (0, 0) _ P4.out Tryz.underlying28 rfl (by kernel_rfl) ?_) | (refine wpList_store_row rfl 28 (.tmp 2) (.tmp 73) rfl (w.heap.size + 1) #[.slice pv L.length cv, .bool false, .bool false, .bool false] rfl rfl 28 _ Z4.out (by kernel_rfl) rfl (by kernel_rfl) ?_))
      refine bodyPost_ret (v := .agg #[.slice pv L.length cv, .bool false, .bool false, .bool false]) (by exact results_cell_row Tryz.results11 _ _ (w.heap.size + 1) 28 #[.slice pv L.length cv, .bool false, .bool false, .bool false] (0, 0) _ rfl (setRow_heap _ _ _ _ _ _ Z4.out) Tryz.underlying28 rfl (by kernel_rfl)) (by rfl) ⟨.slice pv L.length cv, by rw [HER.out, HEW.out, HES.out], own_keptT (Joins.ownsRow_le O4.out (by omega)) (fun k hk => setRow_other (by have := (HO.out.lt k hk).1; omega)), Go.below_setRow B4.out (by omega) _⟩
    · have ER : rdS op false true = true := by unfold rdS; rw [decide_eq_false (by omega), bne_iff_ne.mpr h25, bne_iff_ne.mpr h9, bne_iff_ne.mpr h35, bne_iff_ne.mpr h30]; rfl
      have EW : wtS op false wr = false := by unfold wtS; rw [decide_eq_false (by omega)]; cases wr <;> rfl
      have ES : stk op = false := by unfold stk; exact decide_eq_false (by omega)
      have HER := Lib.hid ER; have HEW := Lib.hid EW; have HES := Lib.hid ES
      clear ER EW ES
      have g9 : (op == 9) = false := beq_eq_false_iff_ne.mpr h9
      have g35 : (op == 35) = false := beq_eq_false_iff_ne.mpr h35
      have g30 : (op == 30) = false := beq_eq_false_iff_ne.mpr h30
      have g25 : (op == 25) = false := beq_eq_false_iff_ne.mpr h25
      have g29 : (op == 29) = false := beq_eq_false_iff_ne.mpr h29
      have g31 : (op == 31) = false := beq_eq_false_iff_ne.mpr h31
      have g41 : (op == 41) = false := beq_eq_false_iff_ne.mpr h41
      have g34 : (op == 34) = false := beq_eq_false_iff_ne.mpr h34
      have g42 : (op == 42) = false := beq_eq_false_iff_ne.mpr h42
      have n9 : (op != 9) = true := bne_iff_ne.mpr h9
      have n35 : (op != 35) = true := bne_iff_ne.mpr h35
      have n30 : (op != 30) = true := bne_iff_ne.mpr h30
      have n25 : (op != 25) = true := bne_iff_ne.mpr h25
      clear h9 h35 h30 h25 h29 h31 h41 h34 h42
      have Z4 := Lib.hid ((Below.heap_alloc w1 (.cells #[.slice pv L.length cv, .bool true, .bool false, .bool false] 28) _ (lt_of_blk Z1.out)).trans Z1.out)
      have P4 := Lib.hid (heap_alloc_new w1 (.cells #[.slice pv L.length cv, .bool true, .bool false, .bool false] 28))
      have B4 := Lib.hid (B1.out.alloc B1.out.size (.cells #[.slice pv L.length cv, .bool true, .bool false, .bool false] 28))
      have O4 := Lib.hid (World.ownsRow.alloc HO.out (.cells #[.slice pv L.length cv, .bool true, .bool false, .bool false] 28))
      go_wp2_with (first | (go_at_call 29; refine (CW.out _).mono ?_; rintro e w2 ⟨rfl, rfl⟩) | (refine wpList_load_row rfl 28 (.tmp 3) rfl w1.heap.size rfl 28 #[.slice pv L.length cv, .bool true, .bool false, .bool false] (0, 0) _ P4.out Tryz.underlying28 rfl (by kernel_rfl) ?_) | (refine wpList_store_row rfl 28 (.tmp 2) (.tmp 73) rfl (w.heap.size + 1) #[.slice pv L.length cv, .bool true, .bool false, .bool false] rfl rfl 28 _ Z4.out (by kernel_rfl) rfl (by kernel_rfl) ?_))
      refine bodyPost_ret (v := .agg #[.slice pv L.length cv, .bool true, .bool false, .bool false]) (by exact results_cell_row Tryz.results11 _ _ (w.heap.size + 1) 28 #[.slice pv L.length cv, .bool true, .bool false, .bool false] (0, 0) _ rfl (setRow_heap _ _ _ _ _ _ Z4.out) Tryz.underlying28 rfl (by kernel_rfl)) (by rfl) ⟨.slice pv L.length cv, by rw [HER.out, HEW.out, HES.out], own_keptT (Joins.ownsRow_le O4.out (by omega)) (fun k hk => setRow_other (by have := (HO.out.lt k hk).1; omega)), Go.below_setRow B4.out (by omega) _⟩
  · cases t1
    · have ER : rdS op true false = true := by unfold rdS; rw [decide_eq_false (by omega), bne_iff_ne.mpr h25, bne_iff_ne.mpr h9, bne_iff_ne.mpr h35, bne_iff_ne.mpr h30]; rfl
      have EW : wtS op true wr = wr := by unfold wtS; rw [decide_eq_false (by omega)]; cases wr <;> rfl
      have ES : stk op = false := by unfold stk; exact decide_eq_false (by omega)
      have HER := Lib.hid ER; have HEW := Lib.hid EW; have HES := Lib.hid ES
      clear ER EW ES
      have g9 : (op == 9) = false := beq_eq_false_iff_ne.mpr h9
      have g35 : (op == 35) = false := beq_eq_false_iff_ne.mpr h35
      have g30 : (op == 30) = false := beq_eq_false_iff_ne.mpr h30
      have g25 : (op == 25) = false := beq_eq_false_iff_ne.mpr h25
      have g29 : (op == 29) = false := beq_eq_false_iff_ne.mpr h29
      have g31 : (op == 31) = false := beq_eq_false_iff_ne.mpr h31
      have g41 : (op == 41) = false := beq_eq_false_iff_ne.mpr h41
      have g34 : (op == 34) = false := beq_eq_false_iff_ne.mpr h34
      have g42 : (op == 42) = false := beq_eq_false_iff_ne.mpr h42
      have n9 : (op != 9) = true := bne_iff_ne.mpr h9
      have n35 : (op != 35) = true := bne_iff_ne.mpr h35
      have n30 : (op != 30) = true := bne_iff_ne.mpr h30
      have n25 : (op != 25) = true := bne_iff_ne.mpr h25
      clear h9 h35 h30 h25 h29 h31 h41 h34 h42
      have Z4 := Lib.hid ((Below.heap_alloc w1 (.cells #[.slice pv L.length cv, .bool true, .bool wr, .bool false] 28) _ (lt_of_blk Z1.out)).trans Z1.out)
      have P4 := Lib.hid (heap_alloc_new w1 (.cells #[.slice pv L.length cv, .bool true, .bool wr, .bool false] 28))
      have B4 := Lib.hid (B1.out.alloc B1.out.size (.cells #[.slice pv L.length cv, .bool true, .bool wr, .bool false] 28))
      have O4 := Lib.hid (World.ownsRow.alloc HO.out (.cells #[.slice pv L.length cv, .bool true, .bool wr, .bool false] 28))
      go_wp2_with (first | (go_at_call 29; refine (CW.out _).mono ?_; rintro e w2 ⟨rfl, rfl⟩) | (refine wpList_load_row rfl 28 (.tmp 3) rfl w1.heap.size rfl 28 #[.slice pv L.length cv, .bool true, .bool wr, .bool false] (0, 0) _ P4.out Tryz.underlying28 rfl (by kernel_rfl) ?_) | (refine wpList_store_row rfl 28 (.tmp 2) (.tmp 73) rfl (w.heap.size + 1) #[.slice pv L.length cv, .bool true, .bool wr, .bool false] rfl rfl 28 _ Z4.out (by kernel_rfl) rfl (by kernel_rfl) ?_))
      refine bodyPost_ret (v := .agg #[.slice pv L.length cv, .bool true, .bool wr, .bool false]) (by exact results_cell_row Tryz.results11 _ _ (w.heap.size + 1) 28 #[.slice pv L.length cv, .bool true, .bool wr, .bool false] (0, 0) _ rfl (setRow_heap _ _ _ _ _ _ Z4.out) Tryz.underlying28 rfl (by kernel_rfl)) (by rfl) ⟨.slice pv L.length cv, by rw [HER.out, HEW.out, HES.out], own_keptT (Joins.ownsRow_le O4.out (by omega)) (fun k hk => setRow_other (by have := (HO.out.lt k hk).1; omega)), Go.below_setRow B4.out (by omega) _⟩
    · have ER : rdS op true true = true := by unfold rdS; rw [decide_eq_false (by omega), bne_iff_ne.mpr h25, bne_iff_ne.mpr h9, bne_iff_ne.mpr h35, bne_iff_ne.mpr h30]; rfl
      have EW : wtS op true wr = wr := by unfold wtS; rw [decide_eq_false (by omega)]; cases wr <;> rfl
      have ES : stk op = false := by unfold stk; exact decide_eq_false (by omega)
      have HER := Lib.hid ER; have HEW := Lib.hid EW; have HES := Lib.hid ES
      clear ER EW ES
      have g9 : (op == 9) = false := beq_eq_false_iff_ne.mpr h9
      have g35 : (op == 35) = false := beq_eq_false_iff_ne.mpr h35
      have g30 : (op == 30) = false := beq_eq_false_iff_ne.mpr h30
      have g25 : (op == 25) = false := beq_eq_false_iff_ne.mpr h25
      have g29 : (op == 29) = false := beq_eq_false_iff_ne.mpr h29
      have g31 : (op == 31) = false := beq_eq_false_iff_ne.mpr h31
      have g41 : (op == 41) = false := beq_eq_false_iff_ne.mpr h41
      have g34 : (op == 34) = false := beq_eq_false_iff_ne.mpr h34
      have g42 : (op == 42) = false := beq_eq_false_iff_ne.mpr h42
      have n9 : (op != 9) = true := bne_iff_ne.mpr h9
      have n35 : (op != 35) = true := bne_iff_ne.mpr h35
      have n30 : (op != 30) = true := bne_iff_ne.mpr h30
      have n25 : (op != 25) = true := bne_iff_ne.mpr h25
      clear h9 h35 h30 h25 h29 h31 h41 h34 h42
      have Z4 := Lib.hid ((Below.heap_alloc w1 (.cells #[.slice pv L.length cv, .bool true, .bool wr, .bool false] 28) _ (lt_of_blk Z1.out)).trans Z1.out)
      have P4 := Lib.hid (heap_alloc_new w1 (.cells #[.slice pv L.length cv, .bool true, .bool wr, .bool false] 28))
      have B4 := Lib.hid (B1.out.alloc B1.out.size (.cells #[.slice pv L.length cv, .bool true, .bool wr, .bool false] 28))
      have O4 := Lib.hid (World.ownsRow.alloc HO.out (.cells #[.slice pv L.length cv, .bool true, .bool wr, .bool false] 28))
      go_wp2_with (first | (go_at_call 29; refine (CW.out _).mono ?_; rintro e w2 ⟨rfl, rfl⟩) | (refine wpList_load_row rfl 28 (.tmp 3) rfl w1.heap.size rfl 28 #[.slice pv L.length cv, .bool true, .bool wr, .bool false] (0, 0) _ P4.out Tryz.underlying28 rfl (by kernel_rfl) ?_) | (refine wpList_store_row rfl 28 (.tmp 2) (.tmp 73) rfl (w.heap.size + 1) #[.slice pv L.length cv, .bool true, .bool wr, .bool false] rfl rfl 28 _ Z4.out (by kernel_rfl) rfl (by kernel_rfl) ?_))
      refine bodyPost_ret (v := .agg #[.slice pv L.length cv, .bool true, .bool wr, .bool false]) (by exact results_cell_row Tryz.results11 _ _ (w.heap.size + 1) 28 #[.slice pv L.length cv, .bool true, .bool wr, .bool false] (0, 0) _ rfl (setRow_heap _ _ _ _ _ _ Z4.out) Tryz.underlying28 rfl (by kernel_rfl)) (by rfl) ⟨.slice pv L.length cv, by rw [HER.out, HEW.out, HES.out], own_keptT (Joins.ownsRow_le O4.out (by omega)) (fun k hk => setRow_other (by have := (HO.out.lt k hk).1; omega)), Go.below_setRow B4.out (by omega) _⟩
end Go.Proofs.YtjnjlgaemmdkhaaGreatDoor
