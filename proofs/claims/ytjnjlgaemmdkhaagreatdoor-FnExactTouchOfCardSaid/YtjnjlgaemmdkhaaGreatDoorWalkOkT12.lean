/-
  l05Shape of spec at the operations that widen; conditions: those in each head.
-/
import Derived.Test.YtjnjlgaemmdkhaaGreatDoorWalkOkT4
namespace Go.Proofs.YtjnjlgaemmdkhaaGreatDoor
open Go.RowKit Go.Sort
set_option linter.unusedVariables false
set_option linter.unusedSimpArgs false
theorem vto {P : Program} {f : FuncId} {args : Array Value} {w : World} {u v : Bool} (h : u = v) (hc : Calls P f args w fun e w' => e = .returned (.bool v) ∧ Below w.heap.size w w') : Calls P f args w fun e w' => e = .returned (.bool u) ∧ Below w.heap.size w w' := by subst h; exact hc
set_option maxRecDepth 100000 in
set_option maxHeartbeats 4000000 in
theorem shp26_0 (sz cd fr : Int) (d s : Opd) (ln : Int) (w : World) (hm : 1 < sz) (CZ : Hid (∀ W, Calls Tryz.prog 42 #[.int .i64 sz] W fun e w' => e = .returned (.bool true) ∧ W = w'))
    (CT : Hid (∀ (g n cap : Nat) (w : World) (_ : ([(114, 114), (114, 109)] : List (UInt8 × UInt8)).length = n) (_ : n ≤ 8) (_ : g < w.heap.size) (_ : Nm2 w g [(114, 114), (114, 109)]), Calls Tryz.prog 43 #[.agg #[.int .i64 26, .int .i64 sz, .int .i64 cd, .int .i64 fr, .int .i64 d.k, .int .i64 d.r, .int .i64 d.b, .int .i64 d.i, .int .i64 d.s, .int .i64 d.d, .int .i64 d.m, .int .i64 s.k, .int .i64 s.r, .int .i64 s.b, .int .i64 s.i, .int .i64 s.s, .int .i64 s.d, .int .i64 s.m, .int .i64 ln], .slice (some ⟨g, 0, none⟩) n cap] w fun e w' => e = .returned (.bool false) ∧ Below w.heap.size w w')) : Calls Tryz.prog 23 #[.agg #[.int .i64 26, .int .i64 sz, .int .i64 cd, .int .i64 fr, .int .i64 d.k, .int .i64 d.r, .int .i64 d.b, .int .i64 d.i, .int .i64 d.s, .int .i64 d.d, .int .i64 d.m, .int .i64 s.k, .int .i64 s.r, .int .i64 s.b, .int .i64 s.i, .int .i64 s.s, .int .i64 s.d, .int .i64 s.m, .int .i64 ln]] w fun e w' => e = .returned (.bool false) ∧ Below w.heap.size w w' := by
  have CI1 := Lib.hid (fun W => inNo 26 13 16 W (by decide))
  have CI2 := Lib.hid (fun W => inNo 26 20 24 W (by decide))
  have R0 := Lib.hid (heap_alloc_new w (.cells #[.int .i64 26, .int .i64 sz, .int .i64 cd, .int .i64 fr, .int .i64 d.k, .int .i64 d.r, .int .i64 d.b, .int .i64 d.i, .int .i64 d.s, .int .i64 d.d, .int .i64 d.m, .int .i64 s.k, .int .i64 s.r, .int .i64 s.b, .int .i64 s.i, .int .i64 s.s, .int .i64 s.d, .int .i64 s.m, .int .i64 ln] 33))
  have B0 := Lib.hid (belA w (.cells #[.int .i64 26, .int .i64 sz, .int .i64 cd, .int .i64 fr, .int .i64 d.k, .int .i64 d.r, .int .i64 d.b, .int .i64 d.i, .int .i64 d.s, .int .i64 d.d, .int .i64 d.m, .int .i64 s.k, .int .i64 s.r, .int .i64 s.b, .int .i64 s.i, .int .i64 s.s, .int .i64 s.d, .int .i64 s.m, .int .i64 ln] 33))
  go_enter Tryz.func23, Tryz.ntmps23
  go_wp2_with (first | refine wpList_load_row rfl 33 (.tmp 1) rfl w.heap.size rfl 33 #[.int .i64 26, .int .i64 sz, .int .i64 cd, .int .i64 fr, .int .i64 d.k, .int .i64 d.r, .int .i64 d.b, .int .i64 d.i, .int .i64 d.s, .int .i64 d.d, .int .i64 d.m, .int .i64 s.k, .int .i64 s.r, .int .i64 s.b, .int .i64 s.i, .int .i64 s.s, .int .i64 s.d, .int .i64 s.m, .int .i64 ln] (0, 0) _ R0.out Tryz.underlying33 rfl (by kernel_rfl) ?_ | refine load_rowT (by rfl) 33 (.tmp 1) rfl w.heap.size rfl 33 #[.int .i64 26, .int .i64 sz, .int .i64 cd, .int .i64 fr, .int .i64 d.k, .int .i64 d.r, .int .i64 d.b, .int .i64 d.i, .int .i64 d.s, .int .i64 d.d, .int .i64 d.m, .int .i64 s.k, .int .i64 s.r, .int .i64 s.b, .int .i64 s.i, .int .i64 s.s, .int .i64 s.d, .int .i64 s.m, .int .i64 ln] (0, 0) _ R0.out Tryz.underlying33 rfl (by kernel_rfl) ?_ | (go_at_call 42; refine (CZ.out _).mono ?_; rintro e wz ⟨rfl, rfl⟩) | (go_at_call 22; with_reducible refine (CI1.out _).mono ?_; rintro e wz ⟨rfl, rfl⟩) | (go_at_call 22; with_reducible refine (CI2.out _).mono ?_; rintro e wz ⟨rfl, rfl⟩) | (go_at_call 44; refine (CF.out _).mono ?_; rintro e wz ⟨rfl, rfl⟩))
  refine (CT.out (w.heap.size + 1) 2 2 _ rfl (by decide) (by simp) (nm2_new _ [(114, 114), (114, 109)] _ _ (by simp))).mono ?_
  rintro e w2 ⟨rfl, hb⟩
  have B2 := Lib.hid (belT B0.out hb)
  have R2 := Lib.hid (rowT R0.out hb)
  clear hb
  go_wp2
  go_ret
  exact ⟨rfl, B2.out⟩
set_option maxRecDepth 100000 in
set_option maxHeartbeats 4000000 in
theorem shp26_1 (sz cd fr : Int) (d s : Opd) (ln : Int) (w : World) (hm : 1 < sz) (g1 : (fr == 1) = true) (CZ : Hid (∀ W, Calls Tryz.prog 42 #[.int .i64 sz] W fun e w' => e = .returned (.bool true) ∧ W = w'))
    (CT : Hid (∀ (g n cap : Nat) (w : World) (_ : ([(114, 114), (114, 109)] : List (UInt8 × UInt8)).length = n) (_ : n ≤ 8) (_ : g < w.heap.size) (_ : Nm2 w g [(114, 114), (114, 109)]), Calls Tryz.prog 43 #[.agg #[.int .i64 26, .int .i64 sz, .int .i64 cd, .int .i64 fr, .int .i64 d.k, .int .i64 d.r, .int .i64 d.b, .int .i64 d.i, .int .i64 d.s, .int .i64 d.d, .int .i64 d.m, .int .i64 s.k, .int .i64 s.r, .int .i64 s.b, .int .i64 s.i, .int .i64 s.s, .int .i64 s.d, .int .i64 s.m, .int .i64 ln], .slice (some ⟨g, 0, none⟩) n cap] w fun e w' => e = .returned (.bool true) ∧ Below w.heap.size w w')) : Calls Tryz.prog 23 #[.agg #[.int .i64 26, .int .i64 sz, .int .i64 cd, .int .i64 fr, .int .i64 d.k, .int .i64 d.r, .int .i64 d.b, .int .i64 d.i, .int .i64 d.s, .int .i64 d.d, .int .i64 d.m, .int .i64 s.k, .int .i64 s.r, .int .i64 s.b, .int .i64 s.i, .int .i64 s.s, .int .i64 s.d, .int .i64 s.m, .int .i64 ln]] w fun e w' => e = .returned (.bool true) ∧ Below w.heap.size w w' := by
  have CI1 := Lib.hid (fun W => inNo 26 13 16 W (by decide))
  have CI2 := Lib.hid (fun W => inNo 26 20 24 W (by decide))
  have R0 := Lib.hid (heap_alloc_new w (.cells #[.int .i64 26, .int .i64 sz, .int .i64 cd, .int .i64 fr, .int .i64 d.k, .int .i64 d.r, .int .i64 d.b, .int .i64 d.i, .int .i64 d.s, .int .i64 d.d, .int .i64 d.m, .int .i64 s.k, .int .i64 s.r, .int .i64 s.b, .int .i64 s.i, .int .i64 s.s, .int .i64 s.d, .int .i64 s.m, .int .i64 ln] 33))
  have B0 := Lib.hid (belA w (.cells #[.int .i64 26, .int .i64 sz, .int .i64 cd, .int .i64 fr, .int .i64 d.k, .int .i64 d.r, .int .i64 d.b, .int .i64 d.i, .int .i64 d.s, .int .i64 d.d, .int .i64 d.m, .int .i64 s.k, .int .i64 s.r, .int .i64 s.b, .int .i64 s.i, .int .i64 s.s, .int .i64 s.d, .int .i64 s.m, .int .i64 ln] 33))
  go_enter Tryz.func23, Tryz.ntmps23
  go_wp2_with (first | refine wpList_load_row rfl 33 (.tmp 1) rfl w.heap.size rfl 33 #[.int .i64 26, .int .i64 sz, .int .i64 cd, .int .i64 fr, .int .i64 d.k, .int .i64 d.r, .int .i64 d.b, .int .i64 d.i, .int .i64 d.s, .int .i64 d.d, .int .i64 d.m, .int .i64 s.k, .int .i64 s.r, .int .i64 s.b, .int .i64 s.i, .int .i64 s.s, .int .i64 s.d, .int .i64 s.m, .int .i64 ln] (0, 0) _ R0.out Tryz.underlying33 rfl (by kernel_rfl) ?_ | refine load_rowT (by rfl) 33 (.tmp 1) rfl w.heap.size rfl 33 #[.int .i64 26, .int .i64 sz, .int .i64 cd, .int .i64 fr, .int .i64 d.k, .int .i64 d.r, .int .i64 d.b, .int .i64 d.i, .int .i64 d.s, .int .i64 d.d, .int .i64 d.m, .int .i64 s.k, .int .i64 s.r, .int .i64 s.b, .int .i64 s.i, .int .i64 s.s, .int .i64 s.d, .int .i64 s.m, .int .i64 ln] (0, 0) _ R0.out Tryz.underlying33 rfl (by kernel_rfl) ?_ | (go_at_call 42; refine (CZ.out _).mono ?_; rintro e wz ⟨rfl, rfl⟩) | (go_at_call 22; with_reducible refine (CI1.out _).mono ?_; rintro e wz ⟨rfl, rfl⟩) | (go_at_call 22; with_reducible refine (CI2.out _).mono ?_; rintro e wz ⟨rfl, rfl⟩) | (go_at_call 44; refine (CF.out _).mono ?_; rintro e wz ⟨rfl, rfl⟩))
  refine (CT.out (w.heap.size + 1) 2 2 _ rfl (by decide) (by simp) (nm2_new _ [(114, 114), (114, 109)] _ _ (by simp))).mono ?_
  rintro e w2 ⟨rfl, hb⟩
  have B2 := Lib.hid (belT B0.out hb)
  have R2 := Lib.hid (rowT R0.out hb)
  clear hb
  have c0 := cell_of_row _ _ 0 _ _ _ R2.out
  have c1 := cell_of_row _ _ 1 _ _ _ R2.out
  have c3 := cell_of_row _ _ 3 _ _ _ R2.out
  simp only [List.getElem?_toArray, List.getElem?_cons_zero, List.getElem?_cons_succ] at c0 c1 c3
  go_wp2
  go_ret
  exact ⟨rfl, B2.out⟩
set_option maxRecDepth 100000 in
set_option maxHeartbeats 4000000 in
theorem shp26_2 (sz cd fr : Int) (d s : Opd) (ln : Int) (w : World) (hm : 1 < sz) (g1 : (fr == 1) = false) (g2 : (fr == 2) = true) (h2 : 2 < sz) (CZ : Hid (∀ W, Calls Tryz.prog 42 #[.int .i64 sz] W fun e w' => e = .returned (.bool true) ∧ W = w'))
    (CT : Hid (∀ (g n cap : Nat) (w : World) (_ : ([(114, 114), (114, 109)] : List (UInt8 × UInt8)).length = n) (_ : n ≤ 8) (_ : g < w.heap.size) (_ : Nm2 w g [(114, 114), (114, 109)]), Calls Tryz.prog 43 #[.agg #[.int .i64 26, .int .i64 sz, .int .i64 cd, .int .i64 fr, .int .i64 d.k, .int .i64 d.r, .int .i64 d.b, .int .i64 d.i, .int .i64 d.s, .int .i64 d.d, .int .i64 d.m, .int .i64 s.k, .int .i64 s.r, .int .i64 s.b, .int .i64 s.i, .int .i64 s.s, .int .i64 s.d, .int .i64 s.m, .int .i64 ln], .slice (some ⟨g, 0, none⟩) n cap] w fun e w' => e = .returned (.bool true) ∧ Below w.heap.size w w')) : Calls Tryz.prog 23 #[.agg #[.int .i64 26, .int .i64 sz, .int .i64 cd, .int .i64 fr, .int .i64 d.k, .int .i64 d.r, .int .i64 d.b, .int .i64 d.i, .int .i64 d.s, .int .i64 d.d, .int .i64 d.m, .int .i64 s.k, .int .i64 s.r, .int .i64 s.b, .int .i64 s.i, .int .i64 s.s, .int .i64 s.d, .int .i64 s.m, .int .i64 ln]] w fun e w' => e = .returned (.bool true) ∧ Below w.heap.size w w' := by
  have CI1 := Lib.hid (fun W => inNo 26 13 16 W (by decide))
  have CI2 := Lib.hid (fun W => inNo 26 20 24 W (by decide))
  have R0 := Lib.hid (heap_alloc_new w (.cells #[.int .i64 26, .int .i64 sz, .int .i64 cd, .int .i64 fr, .int .i64 d.k, .int .i64 d.r, .int .i64 d.b, .int .i64 d.i, .int .i64 d.s, .int .i64 d.d, .int .i64 d.m, .int .i64 s.k, .int .i64 s.r, .int .i64 s.b, .int .i64 s.i, .int .i64 s.s, .int .i64 s.d, .int .i64 s.m, .int .i64 ln] 33))
  have B0 := Lib.hid (belA w (.cells #[.int .i64 26, .int .i64 sz, .int .i64 cd, .int .i64 fr, .int .i64 d.k, .int .i64 d.r, .int .i64 d.b, .int .i64 d.i, .int .i64 d.s, .int .i64 d.d, .int .i64 d.m, .int .i64 s.k, .int .i64 s.r, .int .i64 s.b, .int .i64 s.i, .int .i64 s.s, .int .i64 s.d, .int .i64 s.m, .int .i64 ln] 33))
  go_enter Tryz.func23, Tryz.ntmps23
  go_wp2_with (first | refine wpList_load_row rfl 33 (.tmp 1) rfl w.heap.size rfl 33 #[.int .i64 26, .int .i64 sz, .int .i64 cd, .int .i64 fr, .int .i64 d.k, .int .i64 d.r, .int .i64 d.b, .int .i64 d.i, .int .i64 d.s, .int .i64 d.d, .int .i64 d.m, .int .i64 s.k, .int .i64 s.r, .int .i64 s.b, .int .i64 s.i, .int .i64 s.s, .int .i64 s.d, .int .i64 s.m, .int .i64 ln] (0, 0) _ R0.out Tryz.underlying33 rfl (by kernel_rfl) ?_ | refine load_rowT (by rfl) 33 (.tmp 1) rfl w.heap.size rfl 33 #[.int .i64 26, .int .i64 sz, .int .i64 cd, .int .i64 fr, .int .i64 d.k, .int .i64 d.r, .int .i64 d.b, .int .i64 d.i, .int .i64 d.s, .int .i64 d.d, .int .i64 d.m, .int .i64 s.k, .int .i64 s.r, .int .i64 s.b, .int .i64 s.i, .int .i64 s.s, .int .i64 s.d, .int .i64 s.m, .int .i64 ln] (0, 0) _ R0.out Tryz.underlying33 rfl (by kernel_rfl) ?_ | (go_at_call 42; refine (CZ.out _).mono ?_; rintro e wz ⟨rfl, rfl⟩) | (go_at_call 22; with_reducible refine (CI1.out _).mono ?_; rintro e wz ⟨rfl, rfl⟩) | (go_at_call 22; with_reducible refine (CI2.out _).mono ?_; rintro e wz ⟨rfl, rfl⟩) | (go_at_call 44; refine (CF.out _).mono ?_; rintro e wz ⟨rfl, rfl⟩))
  refine (CT.out (w.heap.size + 1) 2 2 _ rfl (by decide) (by simp) (nm2_new _ [(114, 114), (114, 109)] _ _ (by simp))).mono ?_
  rintro e w2 ⟨rfl, hb⟩
  have B2 := Lib.hid (belT B0.out hb)
  have R2 := Lib.hid (rowT R0.out hb)
  clear hb
  have c0 := cell_of_row _ _ 0 _ _ _ R2.out
  have c1 := cell_of_row _ _ 1 _ _ _ R2.out
  have c3 := cell_of_row _ _ 3 _ _ _ R2.out
  simp only [List.getElem?_toArray, List.getElem?_cons_zero, List.getElem?_cons_succ] at c0 c1 c3
  go_wp2
  go_ret
  exact ⟨rfl, B2.out⟩
set_option maxRecDepth 100000 in
set_option maxHeartbeats 4000000 in
theorem shp26_3 (sz cd fr : Int) (d s : Opd) (ln : Int) (w : World) (hm : 1 < sz) (g1 : (fr == 1) = false) (g2 : (fr == 2) = true) (g4 : (fr == 4) = false) (h3 : decide (2 < sz) = false) (CZ : Hid (∀ W, Calls Tryz.prog 42 #[.int .i64 sz] W fun e w' => e = .returned (.bool true) ∧ W = w'))
    (CT : Hid (∀ (g n cap : Nat) (w : World) (_ : ([(114, 114), (114, 109)] : List (UInt8 × UInt8)).length = n) (_ : n ≤ 8) (_ : g < w.heap.size) (_ : Nm2 w g [(114, 114), (114, 109)]), Calls Tryz.prog 43 #[.agg #[.int .i64 26, .int .i64 sz, .int .i64 cd, .int .i64 fr, .int .i64 d.k, .int .i64 d.r, .int .i64 d.b, .int .i64 d.i, .int .i64 d.s, .int .i64 d.d, .int .i64 d.m, .int .i64 s.k, .int .i64 s.r, .int .i64 s.b, .int .i64 s.i, .int .i64 s.s, .int .i64 s.d, .int .i64 s.m, .int .i64 ln], .slice (some ⟨g, 0, none⟩) n cap] w fun e w' => e = .returned (.bool true) ∧ Below w.heap.size w w')) : Calls Tryz.prog 23 #[.agg #[.int .i64 26, .int .i64 sz, .int .i64 cd, .int .i64 fr, .int .i64 d.k, .int .i64 d.r, .int .i64 d.b, .int .i64 d.i, .int .i64 d.s, .int .i64 d.d, .int .i64 d.m, .int .i64 s.k, .int .i64 s.r, .int .i64 s.b, .int .i64 s.i, .int .i64 s.s, .int .i64 s.d, .int .i64 s.m, .int .i64 ln]] w fun e w' => e = .returned (.bool false) ∧ Below w.heap.size w w' := by
  have CI1 := Lib.hid (fun W => inNo 26 13 16 W (by decide))
  have CI2 := Lib.hid (fun W => inNo 26 20 24 W (by decide))
  have R0 := Lib.hid (heap_alloc_new w (.cells #[.int .i64 26, .int .i64 sz, .int .i64 cd, .int .i64 fr, .int .i64 d.k, .int .i64 d.r, .int .i64 d.b, .int .i64 d.i, .int .i64 d.s, .int .i64 d.d, .int .i64 d.m, .int .i64 s.k, .int .i64 s.r, .int .i64 s.b, .int .i64 s.i, .int .i64 s.s, .int .i64 s.d, .int .i64 s.m, .int .i64 ln] 33))
  have B0 := Lib.hid (belA w (.cells #[.int .i64 26, .int .i64 sz, .int .i64 cd, .int .i64 fr, .int .i64 d.k, .int .i64 d.r, .int .i64 d.b, .int .i64 d.i, .int .i64 d.s, .int .i64 d.d, .int .i64 d.m, .int .i64 s.k, .int .i64 s.r, .int .i64 s.b, .int .i64 s.i, .int .i64 s.s, .int .i64 s.d, .int .i64 s.m, .int .i64 ln] 33))
  go_enter Tryz.func23, Tryz.ntmps23
  go_wp2_with (first | refine wpList_load_row rfl 33 (.tmp 1) rfl w.heap.size rfl 33 #[.int .i64 26, .int .i64 sz, .int .i64 cd, .int .i64 fr, .int .i64 d.k, .int .i64 d.r, .int .i64 d.b, .int .i64 d.i, .int .i64 d.s, .int .i64 d.d, .int .i64 d.m, .int .i64 s.k, .int .i64 s.r, .int .i64 s.b, .int .i64 s.i, .int .i64 s.s, .int .i64 s.d, .int .i64 s.m, .int .i64 ln] (0, 0) _ R0.out Tryz.underlying33 rfl (by kernel_rfl) ?_ | refine load_rowT (by rfl) 33 (.tmp 1) rfl w.heap.size rfl 33 #[.int .i64 26, .int .i64 sz, .int .i64 cd, .int .i64 fr, .int .i64 d.k, .int .i64 d.r, .int .i64 d.b, .int .i64 d.i, .int .i64 d.s, .int .i64 d.d, .int .i64 d.m, .int .i64 s.k, .int .i64 s.r, .int .i64 s.b, .int .i64 s.i, .int .i64 s.s, .int .i64 s.d, .int .i64 s.m, .int .i64 ln] (0, 0) _ R0.out Tryz.underlying33 rfl (by kernel_rfl) ?_ | (go_at_call 42; refine (CZ.out _).mono ?_; rintro e wz ⟨rfl, rfl⟩) | (go_at_call 22; with_reducible refine (CI1.out _).mono ?_; rintro e wz ⟨rfl, rfl⟩) | (go_at_call 22; with_reducible refine (CI2.out _).mono ?_; rintro e wz ⟨rfl, rfl⟩) | (go_at_call 44; refine (CF.out _).mono ?_; rintro e wz ⟨rfl, rfl⟩))
  refine (CT.out (w.heap.size + 1) 2 2 _ rfl (by decide) (by simp) (nm2_new _ [(114, 114), (114, 109)] _ _ (by simp))).mono ?_
  rintro e w2 ⟨rfl, hb⟩
  have B2 := Lib.hid (belT B0.out hb)
  have R2 := Lib.hid (rowT R0.out hb)
  clear hb
  have c0 := cell_of_row _ _ 0 _ _ _ R2.out
  have c1 := cell_of_row _ _ 1 _ _ _ R2.out
  have c3 := cell_of_row _ _ 3 _ _ _ R2.out
  simp only [List.getElem?_toArray, List.getElem?_cons_zero, List.getElem?_cons_succ] at c0 c1 c3
  go_wp2
  go_ret
  exact ⟨rfl, B2.out⟩
set_option maxRecDepth 100000 in
set_option maxHeartbeats 4000000 in
theorem shp26_4 (sz cd fr : Int) (d s : Opd) (ln : Int) (w : World) (hm : 1 < sz) (g1 : (fr == 1) = false) (g2 : (fr == 2) = false) (g4 : (fr == 4) = true) (h3 : (sz == 8) = true) (CZ : Hid (∀ W, Calls Tryz.prog 42 #[.int .i64 sz] W fun e w' => e = .returned (.bool true) ∧ W = w'))
    (CT : Hid (∀ (g n cap : Nat) (w : World) (_ : ([(114, 114), (114, 109)] : List (UInt8 × UInt8)).length = n) (_ : n ≤ 8) (_ : g < w.heap.size) (_ : Nm2 w g [(114, 114), (114, 109)]), Calls Tryz.prog 43 #[.agg #[.int .i64 26, .int .i64 sz, .int .i64 cd, .int .i64 fr, .int .i64 d.k, .int .i64 d.r, .int .i64 d.b, .int .i64 d.i, .int .i64 d.s, .int .i64 d.d, .int .i64 d.m, .int .i64 s.k, .int .i64 s.r, .int .i64 s.b, .int .i64 s.i, .int .i64 s.s, .int .i64 s.d, .int .i64 s.m, .int .i64 ln], .slice (some ⟨g, 0, none⟩) n cap] w fun e w' => e = .returned (.bool true) ∧ Below w.heap.size w w')) : Calls Tryz.prog 23 #[.agg #[.int .i64 26, .int .i64 sz, .int .i64 cd, .int .i64 fr, .int .i64 d.k, .int .i64 d.r, .int .i64 d.b, .int .i64 d.i, .int .i64 d.s, .int .i64 d.d, .int .i64 d.m, .int .i64 s.k, .int .i64 s.r, .int .i64 s.b, .int .i64 s.i, .int .i64 s.s, .int .i64 s.d, .int .i64 s.m, .int .i64 ln]] w fun e w' => e = .returned (.bool false) ∧ Below w.heap.size w w' := by
  have CI1 := Lib.hid (fun W => inNo 26 13 16 W (by decide))
  have CI2 := Lib.hid (fun W => inNo 26 20 24 W (by decide))
  have R0 := Lib.hid (heap_alloc_new w (.cells #[.int .i64 26, .int .i64 sz, .int .i64 cd, .int .i64 fr, .int .i64 d.k, .int .i64 d.r, .int .i64 d.b, .int .i64 d.i, .int .i64 d.s, .int .i64 d.d, .int .i64 d.m, .int .i64 s.k, .int .i64 s.r, .int .i64 s.b, .int .i64 s.i, .int .i64 s.s, .int .i64 s.d, .int .i64 s.m, .int .i64 ln] 33))
  have B0 := Lib.hid (belA w (.cells #[.int .i64 26, .int .i64 sz, .int .i64 cd, .int .i64 fr, .int .i64 d.k, .int .i64 d.r, .int .i64 d.b, .int .i64 d.i, .int .i64 d.s, .int .i64 d.d, .int .i64 d.m, .int .i64 s.k, .int .i64 s.r, .int .i64 s.b, .int .i64 s.i, .int .i64 s.s, .int .i64 s.d, .int .i64 s.m, .int .i64 ln] 33))
  go_enter Tryz.func23, Tryz.ntmps23
  go_wp2_with (first | refine wpList_load_row rfl 33 (.tmp 1) rfl w.heap.size rfl 33 #[.int .i64 26, .int .i64 sz, .int .i64 cd, .int .i64 fr, .int .i64 d.k, .int .i64 d.r, .int .i64 d.b, .int .i64 d.i, .int .i64 d.s, .int .i64 d.d, .int .i64 d.m, .int .i64 s.k, .int .i64 s.r, .int .i64 s.b, .int .i64 s.i, .int .i64 s.s, .int .i64 s.d, .int .i64 s.m, .int .i64 ln] (0, 0) _ R0.out Tryz.underlying33 rfl (by kernel_rfl) ?_ | refine load_rowT (by rfl) 33 (.tmp 1) rfl w.heap.size rfl 33 #[.int .i64 26, .int .i64 sz, .int .i64 cd, .int .i64 fr, .int .i64 d.k, .int .i64 d.r, .int .i64 d.b, .int .i64 d.i, .int .i64 d.s, .int .i64 d.d, .int .i64 d.m, .int .i64 s.k, .int .i64 s.r, .int .i64 s.b, .int .i64 s.i, .int .i64 s.s, .int .i64 s.d, .int .i64 s.m, .int .i64 ln] (0, 0) _ R0.out Tryz.underlying33 rfl (by kernel_rfl) ?_ | (go_at_call 42; refine (CZ.out _).mono ?_; rintro e wz ⟨rfl, rfl⟩) | (go_at_call 22; with_reducible refine (CI1.out _).mono ?_; rintro e wz ⟨rfl, rfl⟩) | (go_at_call 22; with_reducible refine (CI2.out _).mono ?_; rintro e wz ⟨rfl, rfl⟩) | (go_at_call 44; refine (CF.out _).mono ?_; rintro e wz ⟨rfl, rfl⟩))
  refine (CT.out (w.heap.size + 1) 2 2 _ rfl (by decide) (by simp) (nm2_new _ [(114, 114), (114, 109)] _ _ (by simp))).mono ?_
  rintro e w2 ⟨rfl, hb⟩
  have B2 := Lib.hid (belT B0.out hb)
  have R2 := Lib.hid (rowT R0.out hb)
  clear hb
  have c0 := cell_of_row _ _ 0 _ _ _ R2.out
  have c1 := cell_of_row _ _ 1 _ _ _ R2.out
  have c3 := cell_of_row _ _ 3 _ _ _ R2.out
  simp only [List.getElem?_toArray, List.getElem?_cons_zero, List.getElem?_cons_succ] at c0 c1 c3
  go_wp2
  go_ret
  exact ⟨rfl, B2.out⟩
set_option maxRecDepth 100000 in
set_option maxHeartbeats 4000000 in
theorem shp26_5 (sz cd fr : Int) (d s : Opd) (ln : Int) (w : World) (hm : 1 < sz) (g1 : (fr == 1) = false) (g2 : (fr == 2) = false) (g4 : (fr == 4) = true) (h3 : (sz == 8) = false) (CZ : Hid (∀ W, Calls Tryz.prog 42 #[.int .i64 sz] W fun e w' => e = .returned (.bool true) ∧ W = w'))
    (CT : Hid (∀ (g n cap : Nat) (w : World) (_ : ([(114, 114), (114, 109)] : List (UInt8 × UInt8)).length = n) (_ : n ≤ 8) (_ : g < w.heap.size) (_ : Nm2 w g [(114, 114), (114, 109)]), Calls Tryz.prog 43 #[.agg #[.int .i64 26, .int .i64 sz, .int .i64 cd, .int .i64 fr, .int .i64 d.k, .int .i64 d.r, .int .i64 d.b, .int .i64 d.i, .int .i64 d.s, .int .i64 d.d, .int .i64 d.m, .int .i64 s.k, .int .i64 s.r, .int .i64 s.b, .int .i64 s.i, .int .i64 s.s, .int .i64 s.d, .int .i64 s.m, .int .i64 ln], .slice (some ⟨g, 0, none⟩) n cap] w fun e w' => e = .returned (.bool true) ∧ Below w.heap.size w w')) : Calls Tryz.prog 23 #[.agg #[.int .i64 26, .int .i64 sz, .int .i64 cd, .int .i64 fr, .int .i64 d.k, .int .i64 d.r, .int .i64 d.b, .int .i64 d.i, .int .i64 d.s, .int .i64 d.d, .int .i64 d.m, .int .i64 s.k, .int .i64 s.r, .int .i64 s.b, .int .i64 s.i, .int .i64 s.s, .int .i64 s.d, .int .i64 s.m, .int .i64 ln]] w fun e w' => e = .returned (.bool false) ∧ Below w.heap.size w w' := by
  have CI1 := Lib.hid (fun W => inNo 26 13 16 W (by decide))
  have CI2 := Lib.hid (fun W => inNo 26 20 24 W (by decide))
  have R0 := Lib.hid (heap_alloc_new w (.cells #[.int .i64 26, .int .i64 sz, .int .i64 cd, .int .i64 fr, .int .i64 d.k, .int .i64 d.r, .int .i64 d.b, .int .i64 d.i, .int .i64 d.s, .int .i64 d.d, .int .i64 d.m, .int .i64 s.k, .int .i64 s.r, .int .i64 s.b, .int .i64 s.i, .int .i64 s.s, .int .i64 s.d, .int .i64 s.m, .int .i64 ln] 33))
  have B0 := Lib.hid (belA w (.cells #[.int .i64 26, .int .i64 sz, .int .i64 cd, .int .i64 fr, .int .i64 d.k, .int .i64 d.r, .int .i64 d.b, .int .i64 d.i, .int .i64 d.s, .int .i64 d.d, .int .i64 d.m, .int .i64 s.k, .int .i64 s.r, .int .i64 s.b, .int .i64 s.i, .int .i64 s.s, .int .i64 s.d, .int .i64 s.m, .int .i64 ln] 33))
  go_enter Tryz.func23, Tryz.ntmps23
  go_wp2_with (first | refine wpList_load_row rfl 33 (.tmp 1) rfl w.heap.size rfl 33 #[.int .i64 26, .int .i64 sz, .int .i64 cd, .int .i64 fr, .int .i64 d.k, .int .i64 d.r, .int .i64 d.b, .int .i64 d.i, .int .i64 d.s, .int .i64 d.d, .int .i64 d.m, .int .i64 s.k, .int .i64 s.r, .int .i64 s.b, .int .i64 s.i, .int .i64 s.s, .int .i64 s.d, .int .i64 s.m, .int .i64 ln] (0, 0) _ R0.out Tryz.underlying33 rfl (by kernel_rfl) ?_ | refine load_rowT (by rfl) 33 (.tmp 1) rfl w.heap.size rfl 33 #[.int .i64 26, .int .i64 sz, .int .i64 cd, .int .i64 fr, .int .i64 d.k, .int .i64 d.r, .int .i64 d.b, .int .i64 d.i, .int .i64 d.s, .int .i64 d.d, .int .i64 d.m, .int .i64 s.k, .int .i64 s.r, .int .i64 s.b, .int .i64 s.i, .int .i64 s.s, .int .i64 s.d, .int .i64 s.m, .int .i64 ln] (0, 0) _ R0.out Tryz.underlying33 rfl (by kernel_rfl) ?_ | (go_at_call 42; refine (CZ.out _).mono ?_; rintro e wz ⟨rfl, rfl⟩) | (go_at_call 22; with_reducible refine (CI1.out _).mono ?_; rintro e wz ⟨rfl, rfl⟩) | (go_at_call 22; with_reducible refine (CI2.out _).mono ?_; rintro e wz ⟨rfl, rfl⟩) | (go_at_call 44; refine (CF.out _).mono ?_; rintro e wz ⟨rfl, rfl⟩))
  refine (CT.out (w.heap.size + 1) 2 2 _ rfl (by decide) (by simp) (nm2_new _ [(114, 114), (114, 109)] _ _ (by simp))).mono ?_
  rintro e w2 ⟨rfl, hb⟩
  have B2 := Lib.hid (belT B0.out hb)
  have R2 := Lib.hid (rowT R0.out hb)
  clear hb
  have c0 := cell_of_row _ _ 0 _ _ _ R2.out
  have c1 := cell_of_row _ _ 1 _ _ _ R2.out
  have c3 := cell_of_row _ _ 3 _ _ _ R2.out
  simp only [List.getElem?_toArray, List.getElem?_cons_zero, List.getElem?_cons_succ] at c0 c1 c3
  go_wp2
  go_ret
  exact ⟨rfl, B2.out⟩
set_option maxRecDepth 100000 in
set_option maxHeartbeats 4000000 in
theorem shp26_6 (sz cd fr : Int) (d s : Opd) (ln : Int) (w : World) (hm : 1 < sz) (g1 : (fr == 1) = false) (g2 : (fr == 2) = false) (g4 : (fr == 4) = false) (CZ : Hid (∀ W, Calls Tryz.prog 42 #[.int .i64 sz] W fun e w' => e = .returned (.bool true) ∧ W = w'))
    (CT : Hid (∀ (g n cap : Nat) (w : World) (_ : ([(114, 114), (114, 109)] : List (UInt8 × UInt8)).length = n) (_ : n ≤ 8) (_ : g < w.heap.size) (_ : Nm2 w g [(114, 114), (114, 109)]), Calls Tryz.prog 43 #[.agg #[.int .i64 26, .int .i64 sz, .int .i64 cd, .int .i64 fr, .int .i64 d.k, .int .i64 d.r, .int .i64 d.b, .int .i64 d.i, .int .i64 d.s, .int .i64 d.d, .int .i64 d.m, .int .i64 s.k, .int .i64 s.r, .int .i64 s.b, .int .i64 s.i, .int .i64 s.s, .int .i64 s.d, .int .i64 s.m, .int .i64 ln], .slice (some ⟨g, 0, none⟩) n cap] w fun e w' => e = .returned (.bool true) ∧ Below w.heap.size w w')) : Calls Tryz.prog 23 #[.agg #[.int .i64 26, .int .i64 sz, .int .i64 cd, .int .i64 fr, .int .i64 d.k, .int .i64 d.r, .int .i64 d.b, .int .i64 d.i, .int .i64 d.s, .int .i64 d.d, .int .i64 d.m, .int .i64 s.k, .int .i64 s.r, .int .i64 s.b, .int .i64 s.i, .int .i64 s.s, .int .i64 s.d, .int .i64 s.m, .int .i64 ln]] w fun e w' => e = .returned (.bool false) ∧ Below w.heap.size w w' := by
  have CI1 := Lib.hid (fun W => inNo 26 13 16 W (by decide))
  have CI2 := Lib.hid (fun W => inNo 26 20 24 W (by decide))
  have R0 := Lib.hid (heap_alloc_new w (.cells #[.int .i64 26, .int .i64 sz, .int .i64 cd, .int .i64 fr, .int .i64 d.k, .int .i64 d.r, .int .i64 d.b, .int .i64 d.i, .int .i64 d.s, .int .i64 d.d, .int .i64 d.m, .int .i64 s.k, .int .i64 s.r, .int .i64 s.b, .int .i64 s.i, .int .i64 s.s, .int .i64 s.d, .int .i64 s.m, .int .i64 ln] 33))
  have B0 := Lib.hid (belA w (.cells #[.int .i64 26, .int .i64 sz, .int .i64 cd, .int .i64 fr, .int .i64 d.k, .int .i64 d.r, .int .i64 d.b, .int .i64 d.i, .int .i64 d.s, .int .i64 d.d, .int .i64 d.m, .int .i64 s.k, .int .i64 s.r, .int .i64 s.b, .int .i64 s.i, .int .i64 s.s, .int .i64 s.d, .int .i64 s.m, .int .i64 ln] 33))
  go_enter Tryz.func23, Tryz.ntmps23
  go_wp2_with (first | refine wpList_load_row rfl 33 (.tmp 1) rfl w.heap.size rfl 33 #[.int .i64 26, .int .i64 sz, .int .i64 cd, .int .i64 fr, .int .i64 d.k, .int .i64 d.r, .int .i64 d.b, .int .i64 d.i, .int .i64 d.s, .int .i64 d.d, .int .i64 d.m, .int .i64 s.k, .int .i64 s.r, .int .i64 s.b, .int .i64 s.i, .int .i64 s.s, .int .i64 s.d, .int .i64 s.m, .int .i64 ln] (0, 0) _ R0.out Tryz.underlying33 rfl (by kernel_rfl) ?_ | refine load_rowT (by rfl) 33 (.tmp 1) rfl w.heap.size rfl 33 #[.int .i64 26, .int .i64 sz, .int .i64 cd, .int .i64 fr, .int .i64 d.k, .int .i64 d.r, .int .i64 d.b, .int .i64 d.i, .int .i64 d.s, .int .i64 d.d, .int .i64 d.m, .int .i64 s.k, .int .i64 s.r, .int .i64 s.b, .int .i64 s.i, .int .i64 s.s, .int .i64 s.d, .int .i64 s.m, .int .i64 ln] (0, 0) _ R0.out Tryz.underlying33 rfl (by kernel_rfl) ?_ | (go_at_call 42; refine (CZ.out _).mono ?_; rintro e wz ⟨rfl, rfl⟩) | (go_at_call 22; with_reducible refine (CI1.out _).mono ?_; rintro e wz ⟨rfl, rfl⟩) | (go_at_call 22; with_reducible refine (CI2.out _).mono ?_; rintro e wz ⟨rfl, rfl⟩) | (go_at_call 44; refine (CF.out _).mono ?_; rintro e wz ⟨rfl, rfl⟩))
  refine (CT.out (w.heap.size + 1) 2 2 _ rfl (by decide) (by simp) (nm2_new _ [(114, 114), (114, 109)] _ _ (by simp))).mono ?_
  rintro e w2 ⟨rfl, hb⟩
  have B2 := Lib.hid (belT B0.out hb)
  have R2 := Lib.hid (rowT R0.out hb)
  clear hb
  have c0 := cell_of_row _ _ 0 _ _ _ R2.out
  have c1 := cell_of_row _ _ 1 _ _ _ R2.out
  have c3 := cell_of_row _ _ 3 _ _ _ R2.out
  simp only [List.getElem?_toArray, List.getElem?_cons_zero, List.getElem?_cons_succ] at c0 c1 c3
  go_wp2
  go_ret
  exact ⟨rfl, B2.out⟩
set_option maxRecDepth 100000 in
set_option maxHeartbeats 4000000 in
theorem shp26_7 (sz cd fr : Int) (d s : Opd) (ln : Int) (w : World) (hm2 : decide (1 < sz) = false) (CZ : Hid (∀ W, Calls Tryz.prog 42 #[.int .i64 sz] W fun e w' => e = .returned (.bool true) ∧ W = w'))
    (CT : Hid (∀ (g n cap : Nat) (w : World) (_ : ([(114, 114), (114, 109)] : List (UInt8 × UInt8)).length = n) (_ : n ≤ 8) (_ : g < w.heap.size) (_ : Nm2 w g [(114, 114), (114, 109)]), Calls Tryz.prog 43 #[.agg #[.int .i64 26, .int .i64 sz, .int .i64 cd, .int .i64 fr, .int .i64 d.k, .int .i64 d.r, .int .i64 d.b, .int .i64 d.i, .int .i64 d.s, .int .i64 d.d, .int .i64 d.m, .int .i64 s.k, .int .i64 s.r, .int .i64 s.b, .int .i64 s.i, .int .i64 s.s, .int .i64 s.d, .int .i64 s.m, .int .i64 ln], .slice (some ⟨g, 0, none⟩) n cap] w fun e w' => e = .returned (.bool true) ∧ Below w.heap.size w w')) : Calls Tryz.prog 23 #[.agg #[.int .i64 26, .int .i64 sz, .int .i64 cd, .int .i64 fr, .int .i64 d.k, .int .i64 d.r, .int .i64 d.b, .int .i64 d.i, .int .i64 d.s, .int .i64 d.d, .int .i64 d.m, .int .i64 s.k, .int .i64 s.r, .int .i64 s.b, .int .i64 s.i, .int .i64 s.s, .int .i64 s.d, .int .i64 s.m, .int .i64 ln]] w fun e w' => e = .returned (.bool false) ∧ Below w.heap.size w w' := by
  have CI1 := Lib.hid (fun W => inNo 26 13 16 W (by decide))
  have CI2 := Lib.hid (fun W => inNo 26 20 24 W (by decide))
  have R0 := Lib.hid (heap_alloc_new w (.cells #[.int .i64 26, .int .i64 sz, .int .i64 cd, .int .i64 fr, .int .i64 d.k, .int .i64 d.r, .int .i64 d.b, .int .i64 d.i, .int .i64 d.s, .int .i64 d.d, .int .i64 d.m, .int .i64 s.k, .int .i64 s.r, .int .i64 s.b, .int .i64 s.i, .int .i64 s.s, .int .i64 s.d, .int .i64 s.m, .int .i64 ln] 33))
  have B0 := Lib.hid (belA w (.cells #[.int .i64 26, .int .i64 sz, .int .i64 cd, .int .i64 fr, .int .i64 d.k, .int .i64 d.r, .int .i64 d.b, .int .i64 d.i, .int .i64 d.s, .int .i64 d.d, .int .i64 d.m, .int .i64 s.k, .int .i64 s.r, .int .i64 s.b, .int .i64 s.i, .int .i64 s.s, .int .i64 s.d, .int .i64 s.m, .int .i64 ln] 33))
  go_enter Tryz.func23, Tryz.ntmps23
  go_wp2_with (first | refine wpList_load_row rfl 33 (.tmp 1) rfl w.heap.size rfl 33 #[.int .i64 26, .int .i64 sz, .int .i64 cd, .int .i64 fr, .int .i64 d.k, .int .i64 d.r, .int .i64 d.b, .int .i64 d.i, .int .i64 d.s, .int .i64 d.d, .int .i64 d.m, .int .i64 s.k, .int .i64 s.r, .int .i64 s.b, .int .i64 s.i, .int .i64 s.s, .int .i64 s.d, .int .i64 s.m, .int .i64 ln] (0, 0) _ R0.out Tryz.underlying33 rfl (by kernel_rfl) ?_ | refine load_rowT (by rfl) 33 (.tmp 1) rfl w.heap.size rfl 33 #[.int .i64 26, .int .i64 sz, .int .i64 cd, .int .i64 fr, .int .i64 d.k, .int .i64 d.r, .int .i64 d.b, .int .i64 d.i, .int .i64 d.s, .int .i64 d.d, .int .i64 d.m, .int .i64 s.k, .int .i64 s.r, .int .i64 s.b, .int .i64 s.i, .int .i64 s.s, .int .i64 s.d, .int .i64 s.m, .int .i64 ln] (0, 0) _ R0.out Tryz.underlying33 rfl (by kernel_rfl) ?_ | (go_at_call 42; refine (CZ.out _).mono ?_; rintro e wz ⟨rfl, rfl⟩) | (go_at_call 22; with_reducible refine (CI1.out _).mono ?_; rintro e wz ⟨rfl, rfl⟩) | (go_at_call 22; with_reducible refine (CI2.out _).mono ?_; rintro e wz ⟨rfl, rfl⟩) | (go_at_call 44; refine (CF.out _).mono ?_; rintro e wz ⟨rfl, rfl⟩))
  refine (CT.out (w.heap.size + 1) 2 2 _ rfl (by decide) (by simp) (nm2_new _ [(114, 114), (114, 109)] _ _ (by simp))).mono ?_
  rintro e w2 ⟨rfl, hb⟩
  have B2 := Lib.hid (belT B0.out hb)
  have R2 := Lib.hid (rowT R0.out hb)
  clear hb
  go_wp2
  go_ret
  exact ⟨rfl, B2.out⟩
set_option maxRecDepth 100000 in
set_option maxHeartbeats 4000000 in
theorem shp26_8 (sz cd fr : Int) (d s : Opd) (ln : Int) (w : World) (hm2 : decide (1 < sz) = false) (CZ : Hid (∀ W, Calls Tryz.prog 42 #[.int .i64 sz] W fun e w' => e = .returned (.bool true) ∧ W = w'))
    (CT : Hid (∀ (g n cap : Nat) (w : World) (_ : ([(114, 114), (114, 109)] : List (UInt8 × UInt8)).length = n) (_ : n ≤ 8) (_ : g < w.heap.size) (_ : Nm2 w g [(114, 114), (114, 109)]), Calls Tryz.prog 43 #[.agg #[.int .i64 26, .int .i64 sz, .int .i64 cd, .int .i64 fr, .int .i64 d.k, .int .i64 d.r, .int .i64 d.b, .int .i64 d.i, .int .i64 d.s, .int .i64 d.d, .int .i64 d.m, .int .i64 s.k, .int .i64 s.r, .int .i64 s.b, .int .i64 s.i, .int .i64 s.s, .int .i64 s.d, .int .i64 s.m, .int .i64 ln], .slice (some ⟨g, 0, none⟩) n cap] w fun e w' => e = .returned (.bool false) ∧ Below w.heap.size w w')) : Calls Tryz.prog 23 #[.agg #[.int .i64 26, .int .i64 sz, .int .i64 cd, .int .i64 fr, .int .i64 d.k, .int .i64 d.r, .int .i64 d.b, .int .i64 d.i, .int .i64 d.s, .int .i64 d.d, .int .i64 d.m, .int .i64 s.k, .int .i64 s.r, .int .i64 s.b, .int .i64 s.i, .int .i64 s.s, .int .i64 s.d, .int .i64 s.m, .int .i64 ln]] w fun e w' => e = .returned (.bool false) ∧ Below w.heap.size w w' := by
  have CI1 := Lib.hid (fun W => inNo 26 13 16 W (by decide))
  have CI2 := Lib.hid (fun W => inNo 26 20 24 W (by decide))
  have R0 := Lib.hid (heap_alloc_new w (.cells #[.int .i64 26, .int .i64 sz, .int .i64 cd, .int .i64 fr, .int .i64 d.k, .int .i64 d.r, .int .i64 d.b, .int .i64 d.i, .int .i64 d.s, .int .i64 d.d, .int .i64 d.m, .int .i64 s.k, .int .i64 s.r, .int .i64 s.b, .int .i64 s.i, .int .i64 s.s, .int .i64 s.d, .int .i64 s.m, .int .i64 ln] 33))
  have B0 := Lib.hid (belA w (.cells #[.int .i64 26, .int .i64 sz, .int .i64 cd, .int .i64 fr, .int .i64 d.k, .int .i64 d.r, .int .i64 d.b, .int .i64 d.i, .int .i64 d.s, .int .i64 d.d, .int .i64 d.m, .int .i64 s.k, .int .i64 s.r, .int .i64 s.b, .int .i64 s.i, .int .i64 s.s, .int .i64 s.d, .int .i64 s.m, .int .i64 ln] 33))
  go_enter Tryz.func23, Tryz.ntmps23
  go_wp2_with (first | refine wpList_load_row rfl 33 (.tmp 1) rfl w.heap.size rfl 33 #[.int .i64 26, .int .i64 sz, .int .i64 cd, .int .i64 fr, .int .i64 d.k, .int .i64 d.r, .int .i64 d.b, .int .i64 d.i, .int .i64 d.s, .int .i64 d.d, .int .i64 d.m, .int .i64 s.k, .int .i64 s.r, .int .i64 s.b, .int .i64 s.i, .int .i64 s.s, .int .i64 s.d, .int .i64 s.m, .int .i64 ln] (0, 0) _ R0.out Tryz.underlying33 rfl (by kernel_rfl) ?_ | refine load_rowT (by rfl) 33 (.tmp 1) rfl w.heap.size rfl 33 #[.int .i64 26, .int .i64 sz, .int .i64 cd, .int .i64 fr, .int .i64 d.k, .int .i64 d.r, .int .i64 d.b, .int .i64 d.i, .int .i64 d.s, .int .i64 d.d, .int .i64 d.m, .int .i64 s.k, .int .i64 s.r, .int .i64 s.b, .int .i64 s.i, .int .i64 s.s, .int .i64 s.d, .int .i64 s.m, .int .i64 ln] (0, 0) _ R0.out Tryz.underlying33 rfl (by kernel_rfl) ?_ | (go_at_call 42; refine (CZ.out _).mono ?_; rintro e wz ⟨rfl, rfl⟩) | (go_at_call 22; with_reducible refine (CI1.out _).mono ?_; rintro e wz ⟨rfl, rfl⟩) | (go_at_call 22; with_reducible refine (CI2.out _).mono ?_; rintro e wz ⟨rfl, rfl⟩) | (go_at_call 44; refine (CF.out _).mono ?_; rintro e wz ⟨rfl, rfl⟩))
  refine (CT.out (w.heap.size + 1) 2 2 _ rfl (by decide) (by simp) (nm2_new _ [(114, 114), (114, 109)] _ _ (by simp))).mono ?_
  rintro e w2 ⟨rfl, hb⟩
  have B2 := Lib.hid (belT B0.out hb)
  have R2 := Lib.hid (rowT R0.out hb)
  clear hb
  go_wp2
  go_ret
  exact ⟨rfl, B2.out⟩
set_option maxRecDepth 100000 in
set_option maxHeartbeats 4000000 in
theorem shp26_9 (sz cd fr : Int) (d s : Opd) (ln : Int) (w : World)  (CZ : Hid (∀ W, Calls Tryz.prog 42 #[.int .i64 sz] W fun e w' => e = .returned (.bool false) ∧ W = w'))
    (CT : Hid (∀ (g n cap : Nat) (w : World) (_ : ([(114, 114), (114, 109)] : List (UInt8 × UInt8)).length = n) (_ : n ≤ 8) (_ : g < w.heap.size) (_ : Nm2 w g [(114, 114), (114, 109)]), Calls Tryz.prog 43 #[.agg #[.int .i64 26, .int .i64 sz, .int .i64 cd, .int .i64 fr, .int .i64 d.k, .int .i64 d.r, .int .i64 d.b, .int .i64 d.i, .int .i64 d.s, .int .i64 d.d, .int .i64 d.m, .int .i64 s.k, .int .i64 s.r, .int .i64 s.b, .int .i64 s.i, .int .i64 s.s, .int .i64 s.d, .int .i64 s.m, .int .i64 ln], .slice (some ⟨g, 0, none⟩) n cap] w fun e w' => e = .returned (.bool true) ∧ Below w.heap.size w w')) : Calls Tryz.prog 23 #[.agg #[.int .i64 26, .int .i64 sz, .int .i64 cd, .int .i64 fr, .int .i64 d.k, .int .i64 d.r, .int .i64 d.b, .int .i64 d.i, .int .i64 d.s, .int .i64 d.d, .int .i64 d.m, .int .i64 s.k, .int .i64 s.r, .int .i64 s.b, .int .i64 s.i, .int .i64 s.s, .int .i64 s.d, .int .i64 s.m, .int .i64 ln]] w fun e w' => e = .returned (.bool false) ∧ Below w.heap.size w w' := by
  have CI1 := Lib.hid (fun W => inNo 26 13 16 W (by decide))
  have CI2 := Lib.hid (fun W => inNo 26 20 24 W (by decide))
  have R0 := Lib.hid (heap_alloc_new w (.cells #[.int .i64 26, .int .i64 sz, .int .i64 cd, .int .i64 fr, .int .i64 d.k, .int .i64 d.r, .int .i64 d.b, .int .i64 d.i, .int .i64 d.s, .int .i64 d.d, .int .i64 d.m, .int .i64 s.k, .int .i64 s.r, .int .i64 s.b, .int .i64 s.i, .int .i64 s.s, .int .i64 s.d, .int .i64 s.m, .int .i64 ln] 33))
  have B0 := Lib.hid (belA w (.cells #[.int .i64 26, .int .i64 sz, .int .i64 cd, .int .i64 fr, .int .i64 d.k, .int .i64 d.r, .int .i64 d.b, .int .i64 d.i, .int .i64 d.s, .int .i64 d.d, .int .i64 d.m, .int .i64 s.k, .int .i64 s.r, .int .i64 s.b, .int .i64 s.i, .int .i64 s.s, .int .i64 s.d, .int .i64 s.m, .int .i64 ln] 33))
  go_enter Tryz.func23, Tryz.ntmps23
  go_wp2_with (first | refine wpList_load_row rfl 33 (.tmp 1) rfl w.heap.size rfl 33 #[.int .i64 26, .int .i64 sz, .int .i64 cd, .int .i64 fr, .int .i64 d.k, .int .i64 d.r, .int .i64 d.b, .int .i64 d.i, .int .i64 d.s, .int .i64 d.d, .int .i64 d.m, .int .i64 s.k, .int .i64 s.r, .int .i64 s.b, .int .i64 s.i, .int .i64 s.s, .int .i64 s.d, .int .i64 s.m, .int .i64 ln] (0, 0) _ R0.out Tryz.underlying33 rfl (by kernel_rfl) ?_ | refine load_rowT (by rfl) 33 (.tmp 1) rfl w.heap.size rfl 33 #[.int .i64 26, .int .i64 sz, .int .i64 cd, .int .i64 fr, .int .i64 d.k, .int .i64 d.r, .int .i64 d.b, .int .i64 d.i, .int .i64 d.s, .int .i64 d.d, .int .i64 d.m, .int .i64 s.k, .int .i64 s.r, .int .i64 s.b, .int .i64 s.i, .int .i64 s.s, .int .i64 s.d, .int .i64 s.m, .int .i64 ln] (0, 0) _ R0.out Tryz.underlying33 rfl (by kernel_rfl) ?_ | (go_at_call 42; refine (CZ.out _).mono ?_; rintro e wz ⟨rfl, rfl⟩) | (go_at_call 22; with_reducible refine (CI1.out _).mono ?_; rintro e wz ⟨rfl, rfl⟩) | (go_at_call 22; with_reducible refine (CI2.out _).mono ?_; rintro e wz ⟨rfl, rfl⟩) | (go_at_call 44; refine (CF.out _).mono ?_; rintro e wz ⟨rfl, rfl⟩))
  refine (CT.out (w.heap.size + 1) 2 2 _ rfl (by decide) (by simp) (nm2_new _ [(114, 114), (114, 109)] _ _ (by simp))).mono ?_
  rintro e w2 ⟨rfl, hb⟩
  have B2 := Lib.hid (belT B0.out hb)
  have R2 := Lib.hid (rowT R0.out hb)
  clear hb
  go_wp2
  go_ret
  exact ⟨rfl, B2.out⟩
set_option maxRecDepth 100000 in
set_option maxHeartbeats 4000000 in
theorem shp26_10 (sz cd fr : Int) (d s : Opd) (ln : Int) (w : World)  (CZ : Hid (∀ W, Calls Tryz.prog 42 #[.int .i64 sz] W fun e w' => e = .returned (.bool false) ∧ W = w'))
    (CT : Hid (∀ (g n cap : Nat) (w : World) (_ : ([(114, 114), (114, 109)] : List (UInt8 × UInt8)).length = n) (_ : n ≤ 8) (_ : g < w.heap.size) (_ : Nm2 w g [(114, 114), (114, 109)]), Calls Tryz.prog 43 #[.agg #[.int .i64 26, .int .i64 sz, .int .i64 cd, .int .i64 fr, .int .i64 d.k, .int .i64 d.r, .int .i64 d.b, .int .i64 d.i, .int .i64 d.s, .int .i64 d.d, .int .i64 d.m, .int .i64 s.k, .int .i64 s.r, .int .i64 s.b, .int .i64 s.i, .int .i64 s.s, .int .i64 s.d, .int .i64 s.m, .int .i64 ln], .slice (some ⟨g, 0, none⟩) n cap] w fun e w' => e = .returned (.bool false) ∧ Below w.heap.size w w')) : Calls Tryz.prog 23 #[.agg #[.int .i64 26, .int .i64 sz, .int .i64 cd, .int .i64 fr, .int .i64 d.k, .int .i64 d.r, .int .i64 d.b, .int .i64 d.i, .int .i64 d.s, .int .i64 d.d, .int .i64 d.m, .int .i64 s.k, .int .i64 s.r, .int .i64 s.b, .int .i64 s.i, .int .i64 s.s, .int .i64 s.d, .int .i64 s.m, .int .i64 ln]] w fun e w' => e = .returned (.bool false) ∧ Below w.heap.size w w' := by
  have CI1 := Lib.hid (fun W => inNo 26 13 16 W (by decide))
  have CI2 := Lib.hid (fun W => inNo 26 20 24 W (by decide))
  have R0 := Lib.hid (heap_alloc_new w (.cells #[.int .i64 26, .int .i64 sz, .int .i64 cd, .int .i64 fr, .int .i64 d.k, .int .i64 d.r, .int .i64 d.b, .int .i64 d.i, .int .i64 d.s, .int .i64 d.d, .int .i64 d.m, .int .i64 s.k, .int .i64 s.r, .int .i64 s.b, .int .i64 s.i, .int .i64 s.s, .int .i64 s.d, .int .i64 s.m, .int .i64 ln] 33))
  have B0 := Lib.hid (belA w (.cells #[.int .i64 26, .int .i64 sz, .int .i64 cd, .int .i64 fr, .int .i64 d.k, .int .i64 d.r, .int .i64 d.b, .int .i64 d.i, .int .i64 d.s, .int .i64 d.d, .int .i64 d.m, .int .i64 s.k, .int .i64 s.r, .int .i64 s.b, .int .i64 s.i, .int .i64 s.s, .int .i64 s.d, .int .i64 s.m, .int .i64 ln] 33))
  go_enter Tryz.func23, Tryz.ntmps23
  go_wp2_with (first | refine wpList_load_row rfl 33 (.tmp 1) rfl w.heap.size rfl 33 #[.int .i64 26, .int .i64 sz, .int .i64 cd, .int .i64 fr, .int .i64 d.k, .int .i64 d.r, .int .i64 d.b, .int .i64 d.i, .int .i64 d.s, .int .i64 d.d, .int .i64 d.m, .int .i64 s.k, .int .i64 s.r, .int .i64 s.b, .int .i64 s.i, .int .i64 s.s, .int .i64 s.d, .int .i64 s.m, .int .i64 ln] (0, 0) _ R0.out Tryz.underlying33 rfl (by kernel_rfl) ?_ | refine load_rowT (by rfl) 33 (.tmp 1) rfl w.heap.size rfl 33 #[.int .i64 26, .int .i64 sz, .int .i64 cd, .int .i64 fr, .int .i64 d.k, .int .i64 d.r, .int .i64 d.b, .int .i64 d.i, .int .i64 d.s, .int .i64 d.d, .int .i64 d.m, .int .i64 s.k, .int .i64 s.r, .int .i64 s.b, .int .i64 s.i, .int .i64 s.s, .int .i64 s.d, .int .i64 s.m, .int .i64 ln] (0, 0) _ R0.out Tryz.underlying33 rfl (by kernel_rfl) ?_ | (go_at_call 42; refine (CZ.out _).mono ?_; rintro e wz ⟨rfl, rfl⟩) | (go_at_call 22; with_reducible refine (CI1.out _).mono ?_; rintro e wz ⟨rfl, rfl⟩) | (go_at_call 22; with_reducible refine (CI2.out _).mono ?_; rintro e wz ⟨rfl, rfl⟩) | (go_at_call 44; refine (CF.out _).mono ?_; rintro e wz ⟨rfl, rfl⟩))
  refine (CT.out (w.heap.size + 1) 2 2 _ rfl (by decide) (by simp) (nm2_new _ [(114, 114), (114, 109)] _ _ (by simp))).mono ?_
  rintro e w2 ⟨rfl, hb⟩
  have B2 := Lib.hid (belT B0.out hb)
  have R2 := Lib.hid (rowT R0.out hb)
  clear hb
  go_wp2
  go_ret
  exact ⟨rfl, B2.out⟩
set_option maxRecDepth 100000 in
set_option maxHeartbeats 4000000 in
theorem shp27_0 (sz cd fr : Int) (d s : Opd) (ln : Int) (w : World) (hm : 1 < sz) (CZ : Hid (∀ W, Calls Tryz.prog 42 #[.int .i64 sz] W fun e w' => e = .returned (.bool true) ∧ W = w'))
    (CT : Hid (∀ (g n cap : Nat) (w : World) (_ : ([(114, 114), (114, 109)] : List (UInt8 × UInt8)).length = n) (_ : n ≤ 8) (_ : g < w.heap.size) (_ : Nm2 w g [(114, 114), (114, 109)]), Calls Tryz.prog 43 #[.agg #[.int .i64 27, .int .i64 sz, .int .i64 cd, .int .i64 fr, .int .i64 d.k, .int .i64 d.r, .int .i64 d.b, .int .i64 d.i, .int .i64 d.s, .int .i64 d.d, .int .i64 d.m, .int .i64 s.k, .int .i64 s.r, .int .i64 s.b, .int .i64 s.i, .int .i64 s.s, .int .i64 s.d, .int .i64 s.m, .int .i64 ln], .slice (some ⟨g, 0, none⟩) n cap] w fun e w' => e = .returned (.bool false) ∧ Below w.heap.size w w')) : Calls Tryz.prog 23 #[.agg #[.int .i64 27, .int .i64 sz, .int .i64 cd, .int .i64 fr, .int .i64 d.k, .int .i64 d.r, .int .i64 d.b, .int .i64 d.i, .int .i64 d.s, .int .i64 d.d, .int .i64 d.m, .int .i64 s.k, .int .i64 s.r, .int .i64 s.b, .int .i64 s.i, .int .i64 s.s, .int .i64 s.d, .int .i64 s.m, .int .i64 ln]] w fun e w' => e = .returned (.bool false) ∧ Below w.heap.size w w' := by
  have CI1 := Lib.hid (fun W => inNo 27 13 16 W (by decide))
  have CI2 := Lib.hid (fun W => inNo 27 20 24 W (by decide))
  have R0 := Lib.hid (heap_alloc_new w (.cells #[.int .i64 27, .int .i64 sz, .int .i64 cd, .int .i64 fr, .int .i64 d.k, .int .i64 d.r, .int .i64 d.b, .int .i64 d.i, .int .i64 d.s, .int .i64 d.d, .int .i64 d.m, .int .i64 s.k, .int .i64 s.r, .int .i64 s.b, .int .i64 s.i, .int .i64 s.s, .int .i64 s.d, .int .i64 s.m, .int .i64 ln] 33))
  have B0 := Lib.hid (belA w (.cells #[.int .i64 27, .int .i64 sz, .int .i64 cd, .int .i64 fr, .int .i64 d.k, .int .i64 d.r, .int .i64 d.b, .int .i64 d.i, .int .i64 d.s, .int .i64 d.d, .int .i64 d.m, .int .i64 s.k, .int .i64 s.r, .int .i64 s.b, .int .i64 s.i, .int .i64 s.s, .int .i64 s.d, .int .i64 s.m, .int .i64 ln] 33))
  go_enter Tryz.func23, Tryz.ntmps23
  go_wp2_with (first | refine wpList_load_row rfl 33 (.tmp 1) rfl w.heap.size rfl 33 #[.int .i64 27, .int .i64 sz, .int .i64 cd, .int .i64 fr, .int .i64 d.k, .int .i64 d.r, .int .i64 d.b, .int .i64 d.i, .int .i64 d.s, .int .i64 d.d, .int .i64 d.m, .int .i64 s.k, .int .i64 s.r, .int .i64 s.b, .int .i64 s.i, .int .i64 s.s, .int .i64 s.d, .int .i64 s.m, .int .i64 ln] (0, 0) _ R0.out Tryz.underlying33 rfl (by kernel_rfl) ?_ | refine load_rowT (by rfl) 33 (.tmp 1) rfl w.heap.size rfl 33 #[.int .i64 27, .int .i64 sz, .int .i64 cd, .int .i64 fr, .int .i64 d.k, .int .i64 d.r, .int .i64 d.b, .int .i64 d.i, .int .i64 d.s, .int .i64 d.d, .int .i64 d.m, .int .i64 s.k, .int .i64 s.r, .int .i64 s.b, .int .i64 s.i, .int .i64 s.s, .int .i64 s.d, .int .i64 s.m, .int .i64 ln] (0, 0) _ R0.out Tryz.underlying33 rfl (by kernel_rfl) ?_ | (go_at_call 42; refine (CZ.out _).mono ?_; rintro e wz ⟨rfl, rfl⟩) | (go_at_call 22; with_reducible refine (CI1.out _).mono ?_; rintro e wz ⟨rfl, rfl⟩) | (go_at_call 22; with_reducible refine (CI2.out _).mono ?_; rintro e wz ⟨rfl, rfl⟩) | (go_at_call 44; refine (CF.out _).mono ?_; rintro e wz ⟨rfl, rfl⟩))
  refine (CT.out (w.heap.size + 1) 2 2 _ rfl (by decide) (by simp) (nm2_new _ [(114, 114), (114, 109)] _ _ (by simp))).mono ?_
  rintro e w2 ⟨rfl, hb⟩
  have B2 := Lib.hid (belT B0.out hb)
  have R2 := Lib.hid (rowT R0.out hb)
  clear hb
  go_wp2
  go_ret
  exact ⟨rfl, B2.out⟩
set_option maxRecDepth 100000 in
set_option maxHeartbeats 4000000 in
theorem shp27_1 (sz cd fr : Int) (d s : Opd) (ln : Int) (w : World) (hm : 1 < sz) (g1 : (fr == 1) = true) (CZ : Hid (∀ W, Calls Tryz.prog 42 #[.int .i64 sz] W fun e w' => e = .returned (.bool true) ∧ W = w'))
    (CT : Hid (∀ (g n cap : Nat) (w : World) (_ : ([(114, 114), (114, 109)] : List (UInt8 × UInt8)).length = n) (_ : n ≤ 8) (_ : g < w.heap.size) (_ : Nm2 w g [(114, 114), (114, 109)]), Calls Tryz.prog 43 #[.agg #[.int .i64 27, .int .i64 sz, .int .i64 cd, .int .i64 fr, .int .i64 d.k, .int .i64 d.r, .int .i64 d.b, .int .i64 d.i, .int .i64 d.s, .int .i64 d.d, .int .i64 d.m, .int .i64 s.k, .int .i64 s.r, .int .i64 s.b, .int .i64 s.i, .int .i64 s.s, .int .i64 s.d, .int .i64 s.m, .int .i64 ln], .slice (some ⟨g, 0, none⟩) n cap] w fun e w' => e = .returned (.bool true) ∧ Below w.heap.size w w')) : Calls Tryz.prog 23 #[.agg #[.int .i64 27, .int .i64 sz, .int .i64 cd, .int .i64 fr, .int .i64 d.k, .int .i64 d.r, .int .i64 d.b, .int .i64 d.i, .int .i64 d.s, .int .i64 d.d, .int .i64 d.m, .int .i64 s.k, .int .i64 s.r, .int .i64 s.b, .int .i64 s.i, .int .i64 s.s, .int .i64 s.d, .int .i64 s.m, .int .i64 ln]] w fun e w' => e = .returned (.bool true) ∧ Below w.heap.size w w' := by
  have CI1 := Lib.hid (fun W => inNo 27 13 16 W (by decide))
  have CI2 := Lib.hid (fun W => inNo 27 20 24 W (by decide))
  have R0 := Lib.hid (heap_alloc_new w (.cells #[.int .i64 27, .int .i64 sz, .int .i64 cd, .int .i64 fr, .int .i64 d.k, .int .i64 d.r, .int .i64 d.b, .int .i64 d.i, .int .i64 d.s, .int .i64 d.d, .int .i64 d.m, .int .i64 s.k, .int .i64 s.r, .int .i64 s.b, .int .i64 s.i, .int .i64 s.s, .int .i64 s.d, .int .i64 s.m, .int .i64 ln] 33))
  have B0 := Lib.hid (belA w (.cells #[.int .i64 27, .int .i64 sz, .int .i64 cd, .int .i64 fr, .int .i64 d.k, .int .i64 d.r, .int .i64 d.b, .int .i64 d.i, .int .i64 d.s, .int .i64 d.d, .int .i64 d.m, .int .i64 s.k, .int .i64 s.r, .int .i64 s.b, .int .i64 s.i, .int .i64 s.s, .int .i64 s.d, .int .i64 s.m, .int .i64 ln] 33))
  go_enter Tryz.func23, Tryz.ntmps23
  go_wp2_with (first | refine wpList_load_row rfl 33 (.tmp 1) rfl w.heap.size rfl 33 #[.int .i64 27, .int .i64 sz, .int .i64 cd, .int .i64 fr, .int .i64 d.k, .int .i64 d.r, .int .i64 d.b, .int .i64 d.i, .int .i64 d.s, .int .i64 d.d, .int .i64 d.m, .int .i64 s.k, .int .i64 s.r, .int .i64 s.b, .int .i64 s.i, .int .i64 s.s, .int .i64 s.d, .int .i64 s.m, .int .i64 ln] (0, 0) _ R0.out Tryz.underlying33 rfl (by kernel_rfl) ?_ | refine load_rowT (by rfl) 33 (.tmp 1) rfl w.heap.size rfl 33 #[.int .i64 27, .int .i64 sz, .int .i64 cd, .int .i64 fr, .int .i64 d.k, .int .i64 d.r, .int .i64 d.b, .int .i64 d.i, .int .i64 d.s, .int .i64 d.d, .int .i64 d.m, .int .i64 s.k, .int .i64 s.r, .int .i64 s.b, .int .i64 s.i, .int .i64 s.s, .int .i64 s.d, .int .i64 s.m, .int .i64 ln] (0, 0) _ R0.out Tryz.underlying33 rfl (by kernel_rfl) ?_ | (go_at_call 42; refine (CZ.out _).mono ?_; rintro e wz ⟨rfl, rfl⟩) | (go_at_call 22; with_reducible refine (CI1.out _).mono ?_; rintro e wz ⟨rfl, rfl⟩) | (go_at_call 22; with_reducible refine (CI2.out _).mono ?_; rintro e wz ⟨rfl, rfl⟩) | (go_at_call 44; refine (CF.out _).mono ?_; rintro e wz ⟨rfl, rfl⟩))
  refine (CT.out (w.heap.size + 1) 2 2 _ rfl (by decide) (by simp) (nm2_new _ [(114, 114), (114, 109)] _ _ (by simp))).mono ?_
  rintro e w2 ⟨rfl, hb⟩
  have B2 := Lib.hid (belT B0.out hb)
  have R2 := Lib.hid (rowT R0.out hb)
  clear hb
  have c0 := cell_of_row _ _ 0 _ _ _ R2.out
  have c1 := cell_of_row _ _ 1 _ _ _ R2.out
  have c3 := cell_of_row _ _ 3 _ _ _ R2.out
  simp only [List.getElem?_toArray, List.getElem?_cons_zero, List.getElem?_cons_succ] at c0 c1 c3
  go_wp2
  go_ret
  exact ⟨rfl, B2.out⟩
set_option maxRecDepth 100000 in
set_option maxHeartbeats 4000000 in
theorem shp27_2 (sz cd fr : Int) (d s : Opd) (ln : Int) (w : World) (hm : 1 < sz) (g1 : (fr == 1) = false) (g2 : (fr == 2) = true) (h2 : 2 < sz) (CZ : Hid (∀ W, Calls Tryz.prog 42 #[.int .i64 sz] W fun e w' => e = .returned (.bool true) ∧ W = w'))
    (CT : Hid (∀ (g n cap : Nat) (w : World) (_ : ([(114, 114), (114, 109)] : List (UInt8 × UInt8)).length = n) (_ : n ≤ 8) (_ : g < w.heap.size) (_ : Nm2 w g [(114, 114), (114, 109)]), Calls Tryz.prog 43 #[.agg #[.int .i64 27, .int .i64 sz, .int .i64 cd, .int .i64 fr, .int .i64 d.k, .int .i64 d.r, .int .i64 d.b, .int .i64 d.i, .int .i64 d.s, .int .i64 d.d, .int .i64 d.m, .int .i64 s.k, .int .i64 s.r, .int .i64 s.b, .int .i64 s.i, .int .i64 s.s, .int .i64 s.d, .int .i64 s.m, .int .i64 ln], .slice (some ⟨g, 0, none⟩) n cap] w fun e w' => e = .returned (.bool true) ∧ Below w.heap.size w w')) : Calls Tryz.prog 23 #[.agg #[.int .i64 27, .int .i64 sz, .int .i64 cd, .int .i64 fr, .int .i64 d.k, .int .i64 d.r, .int .i64 d.b, .int .i64 d.i, .int .i64 d.s, .int .i64 d.d, .int .i64 d.m, .int .i64 s.k, .int .i64 s.r, .int .i64 s.b, .int .i64 s.i, .int .i64 s.s, .int .i64 s.d, .int .i64 s.m, .int .i64 ln]] w fun e w' => e = .returned (.bool true) ∧ Below w.heap.size w w' := by
  have CI1 := Lib.hid (fun W => inNo 27 13 16 W (by decide))
  have CI2 := Lib.hid (fun W => inNo 27 20 24 W (by decide))
  have R0 := Lib.hid (heap_alloc_new w (.cells #[.int .i64 27, .int .i64 sz, .int .i64 cd, .int .i64 fr, .int .i64 d.k, .int .i64 d.r, .int .i64 d.b, .int .i64 d.i, .int .i64 d.s, .int .i64 d.d, .int .i64 d.m, .int .i64 s.k, .int .i64 s.r, .int .i64 s.b, .int .i64 s.i, .int .i64 s.s, .int .i64 s.d, .int .i64 s.m, .int .i64 ln] 33))
  have B0 := Lib.hid (belA w (.cells #[.int .i64 27, .int .i64 sz, .int .i64 cd, .int .i64 fr, .int .i64 d.k, .int .i64 d.r, .int .i64 d.b, .int .i64 d.i, .int .i64 d.s, .int .i64 d.d, .int .i64 d.m, .int .i64 s.k, .int .i64 s.r, .int .i64 s.b, .int .i64 s.i, .int .i64 s.s, .int .i64 s.d, .int .i64 s.m, .int .i64 ln] 33))
  go_enter Tryz.func23, Tryz.ntmps23
  go_wp2_with (first | refine wpList_load_row rfl 33 (.tmp 1) rfl w.heap.size rfl 33 #[.int .i64 27, .int .i64 sz, .int .i64 cd, .int .i64 fr, .int .i64 d.k, .int .i64 d.r, .int .i64 d.b, .int .i64 d.i, .int .i64 d.s, .int .i64 d.d, .int .i64 d.m, .int .i64 s.k, .int .i64 s.r, .int .i64 s.b, .int .i64 s.i, .int .i64 s.s, .int .i64 s.d, .int .i64 s.m, .int .i64 ln] (0, 0) _ R0.out Tryz.underlying33 rfl (by kernel_rfl) ?_ | refine load_rowT (by rfl) 33 (.tmp 1) rfl w.heap.size rfl 33 #[.int .i64 27, .int .i64 sz, .int .i64 cd, .int .i64 fr, .int .i64 d.k, .int .i64 d.r, .int .i64 d.b, .int .i64 d.i, .int .i64 d.s, .int .i64 d.d, .int .i64 d.m, .int .i64 s.k, .int .i64 s.r, .int .i64 s.b, .int .i64 s.i, .int .i64 s.s, .int .i64 s.d, .int .i64 s.m, .int .i64 ln] (0, 0) _ R0.out Tryz.underlying33 rfl (by kernel_rfl) ?_ | (go_at_call 42; refine (CZ.out _).mono ?_; rintro e wz ⟨rfl, rfl⟩) | (go_at_call 22; with_reducible refine (CI1.out _).mono ?_; rintro e wz ⟨rfl, rfl⟩) | (go_at_call 22; with_reducible refine (CI2.out _).mono ?_; rintro e wz ⟨rfl, rfl⟩) | (go_at_call 44; refine (CF.out _).mono ?_; rintro e wz ⟨rfl, rfl⟩))
  refine (CT.out (w.heap.size + 1) 2 2 _ rfl (by decide) (by simp) (nm2_new _ [(114, 114), (114, 109)] _ _ (by simp))).mono ?_
  rintro e w2 ⟨rfl, hb⟩
  have B2 := Lib.hid (belT B0.out hb)
  have R2 := Lib.hid (rowT R0.out hb)
  clear hb
  have c0 := cell_of_row _ _ 0 _ _ _ R2.out
  have c1 := cell_of_row _ _ 1 _ _ _ R2.out
  have c3 := cell_of_row _ _ 3 _ _ _ R2.out
  simp only [List.getElem?_toArray, List.getElem?_cons_zero, List.getElem?_cons_succ] at c0 c1 c3
  go_wp2
  go_ret
  exact ⟨rfl, B2.out⟩
set_option maxRecDepth 100000 in
set_option maxHeartbeats 4000000 in
theorem shp27_3 (sz cd fr : Int) (d s : Opd) (ln : Int) (w : World) (hm : 1 < sz) (g1 : (fr == 1) = false) (g2 : (fr == 2) = true) (g4 : (fr == 4) = false) (h3 : decide (2 < sz) = false) (CZ : Hid (∀ W, Calls Tryz.prog 42 #[.int .i64 sz] W fun e w' => e = .returned (.bool true) ∧ W = w'))
    (CT : Hid (∀ (g n cap : Nat) (w : World) (_ : ([(114, 114), (114, 109)] : List (UInt8 × UInt8)).length = n) (_ : n ≤ 8) (_ : g < w.heap.size) (_ : Nm2 w g [(114, 114), (114, 109)]), Calls Tryz.prog 43 #[.agg #[.int .i64 27, .int .i64 sz, .int .i64 cd, .int .i64 fr, .int .i64 d.k, .int .i64 d.r, .int .i64 d.b, .int .i64 d.i, .int .i64 d.s, .int .i64 d.d, .int .i64 d.m, .int .i64 s.k, .int .i64 s.r, .int .i64 s.b, .int .i64 s.i, .int .i64 s.s, .int .i64 s.d, .int .i64 s.m, .int .i64 ln], .slice (some ⟨g, 0, none⟩) n cap] w fun e w' => e = .returned (.bool true) ∧ Below w.heap.size w w')) : Calls Tryz.prog 23 #[.agg #[.int .i64 27, .int .i64 sz, .int .i64 cd, .int .i64 fr, .int .i64 d.k, .int .i64 d.r, .int .i64 d.b, .int .i64 d.i, .int .i64 d.s, .int .i64 d.d, .int .i64 d.m, .int .i64 s.k, .int .i64 s.r, .int .i64 s.b, .int .i64 s.i, .int .i64 s.s, .int .i64 s.d, .int .i64 s.m, .int .i64 ln]] w fun e w' => e = .returned (.bool false) ∧ Below w.heap.size w w' := by
  have CI1 := Lib.hid (fun W => inNo 27 13 16 W (by decide))
  have CI2 := Lib.hid (fun W => inNo 27 20 24 W (by decide))
  have R0 := Lib.hid (heap_alloc_new w (.cells #[.int .i64 27, .int .i64 sz, .int .i64 cd, .int .i64 fr, .int .i64 d.k, .int .i64 d.r, .int .i64 d.b, .int .i64 d.i, .int .i64 d.s, .int .i64 d.d, .int .i64 d.m, .int .i64 s.k, .int .i64 s.r, .int .i64 s.b, .int .i64 s.i, .int .i64 s.s, .int .i64 s.d, .int .i64 s.m, .int .i64 ln] 33))
  have B0 := Lib.hid (belA w (.cells #[.int .i64 27, .int .i64 sz, .int .i64 cd, .int .i64 fr, .int .i64 d.k, .int .i64 d.r, .int .i64 d.b, .int .i64 d.i, .int .i64 d.s, .int .i64 d.d, .int .i64 d.m, .int .i64 s.k, .int .i64 s.r, .int .i64 s.b, .int .i64 s.i, .int .i64 s.s, .int .i64 s.d, .int .i64 s.m, .int .i64 ln] 33))
  go_enter Tryz.func23, Tryz.ntmps23
  go_wp2_with (first | refine wpList_load_row rfl 33 (.tmp 1) rfl w.heap.size rfl 33 #[.int .i64 27, .int .i64 sz, .int .i64 cd, .int .i64 fr, .int .i64 d.k, .int .i64 d.r, .int .i64 d.b, .int .i64 d.i, .int .i64 d.s, .int .i64 d.d, .int .i64 d.m, .int .i64 s.k, .int .i64 s.r, .int .i64 s.b, .int .i64 s.i, .int .i64 s.s, .int .i64 s.d, .int .i64 s.m, .int .i64 ln] (0, 0) _ R0.out Tryz.underlying33 rfl (by kernel_rfl) ?_ | refine load_rowT (by rfl) 33 (.tmp 1) rfl w.heap.size rfl 33 #[.int .i64 27, .int .i64 sz, .int .i64 cd, .int .i64 fr, .int .i64 d.k, .int .i64 d.r, .int .i64 d.b, .int .i64 d.i, .int .i64 d.s, .int .i64 d.d, .int .i64 d.m, .int .i64 s.k, .int .i64 s.r, .int .i64 s.b, .int .i64 s.i, .int .i64 s.s, .int .i64 s.d, .int .i64 s.m, .int .i64 ln] (0, 0) _ R0.out Tryz.underlying33 rfl (by kernel_rfl) ?_ | (go_at_call 42; refine (CZ.out _).mono ?_; rintro e wz ⟨rfl, rfl⟩) | (go_at_call 22; with_reducible refine (CI1.out _).mono ?_; rintro e wz ⟨rfl, rfl⟩) | (go_at_call 22; with_reducible refine (CI2.out _).mono ?_; rintro e wz ⟨rfl, rfl⟩) | (go_at_call 44; refine (CF.out _).mono ?_; rintro e wz ⟨rfl, rfl⟩))
  refine (CT.out (w.heap.size + 1) 2 2 _ rfl (by decide) (by simp) (nm2_new _ [(114, 114), (114, 109)] _ _ (by simp))).mono ?_
  rintro e w2 ⟨rfl, hb⟩
  have B2 := Lib.hid (belT B0.out hb)
  have R2 := Lib.hid (rowT R0.out hb)
  clear hb
  have c0 := cell_of_row _ _ 0 _ _ _ R2.out
  have c1 := cell_of_row _ _ 1 _ _ _ R2.out
  have c3 := cell_of_row _ _ 3 _ _ _ R2.out
  simp only [List.getElem?_toArray, List.getElem?_cons_zero, List.getElem?_cons_succ] at c0 c1 c3
  go_wp2
  go_ret
  exact ⟨rfl, B2.out⟩
set_option maxRecDepth 100000 in
set_option maxHeartbeats 4000000 in
theorem shp27_4 (sz cd fr : Int) (d s : Opd) (ln : Int) (w : World) (hm : 1 < sz) (g1 : (fr == 1) = false) (g2 : (fr == 2) = false) (g4 : (fr == 4) = true) (h3 : (sz == 8) = true) (CZ : Hid (∀ W, Calls Tryz.prog 42 #[.int .i64 sz] W fun e w' => e = .returned (.bool true) ∧ W = w'))
    (CT : Hid (∀ (g n cap : Nat) (w : World) (_ : ([(114, 114), (114, 109)] : List (UInt8 × UInt8)).length = n) (_ : n ≤ 8) (_ : g < w.heap.size) (_ : Nm2 w g [(114, 114), (114, 109)]), Calls Tryz.prog 43 #[.agg #[.int .i64 27, .int .i64 sz, .int .i64 cd, .int .i64 fr, .int .i64 d.k, .int .i64 d.r, .int .i64 d.b, .int .i64 d.i, .int .i64 d.s, .int .i64 d.d, .int .i64 d.m, .int .i64 s.k, .int .i64 s.r, .int .i64 s.b, .int .i64 s.i, .int .i64 s.s, .int .i64 s.d, .int .i64 s.m, .int .i64 ln], .slice (some ⟨g, 0, none⟩) n cap] w fun e w' => e = .returned (.bool true) ∧ Below w.heap.size w w')) : Calls Tryz.prog 23 #[.agg #[.int .i64 27, .int .i64 sz, .int .i64 cd, .int .i64 fr, .int .i64 d.k, .int .i64 d.r, .int .i64 d.b, .int .i64 d.i, .int .i64 d.s, .int .i64 d.d, .int .i64 d.m, .int .i64 s.k, .int .i64 s.r, .int .i64 s.b, .int .i64 s.i, .int .i64 s.s, .int .i64 s.d, .int .i64 s.m, .int .i64 ln]] w fun e w' => e = .returned (.bool true) ∧ Below w.heap.size w w' := by
  have CI1 := Lib.hid (fun W => inNo 27 13 16 W (by decide))
  have CI2 := Lib.hid (fun W => inNo 27 20 24 W (by decide))
  have R0 := Lib.hid (heap_alloc_new w (.cells #[.int .i64 27, .int .i64 sz, .int .i64 cd, .int .i64 fr, .int .i64 d.k, .int .i64 d.r, .int .i64 d.b, .int .i64 d.i, .int .i64 d.s, .int .i64 d.d, .int .i64 d.m, .int .i64 s.k, .int .i64 s.r, .int .i64 s.b, .int .i64 s.i, .int .i64 s.s, .int .i64 s.d, .int .i64 s.m, .int .i64 ln] 33))
  have B0 := Lib.hid (belA w (.cells #[.int .i64 27, .int .i64 sz, .int .i64 cd, .int .i64 fr, .int .i64 d.k, .int .i64 d.r, .int .i64 d.b, .int .i64 d.i, .int .i64 d.s, .int .i64 d.d, .int .i64 d.m, .int .i64 s.k, .int .i64 s.r, .int .i64 s.b, .int .i64 s.i, .int .i64 s.s, .int .i64 s.d, .int .i64 s.m, .int .i64 ln] 33))
  go_enter Tryz.func23, Tryz.ntmps23
  go_wp2_with (first | refine wpList_load_row rfl 33 (.tmp 1) rfl w.heap.size rfl 33 #[.int .i64 27, .int .i64 sz, .int .i64 cd, .int .i64 fr, .int .i64 d.k, .int .i64 d.r, .int .i64 d.b, .int .i64 d.i, .int .i64 d.s, .int .i64 d.d, .int .i64 d.m, .int .i64 s.k, .int .i64 s.r, .int .i64 s.b, .int .i64 s.i, .int .i64 s.s, .int .i64 s.d, .int .i64 s.m, .int .i64 ln] (0, 0) _ R0.out Tryz.underlying33 rfl (by kernel_rfl) ?_ | refine load_rowT (by rfl) 33 (.tmp 1) rfl w.heap.size rfl 33 #[.int .i64 27, .int .i64 sz, .int .i64 cd, .int .i64 fr, .int .i64 d.k, .int .i64 d.r, .int .i64 d.b, .int .i64 d.i, .int .i64 d.s, .int .i64 d.d, .int .i64 d.m, .int .i64 s.k, .int .i64 s.r, .int .i64 s.b, .int .i64 s.i, .int .i64 s.s, .int .i64 s.d, .int .i64 s.m, .int .i64 ln] (0, 0) _ R0.out Tryz.underlying33 rfl (by kernel_rfl) ?_ | (go_at_call 42; refine (CZ.out _).mono ?_; rintro e wz ⟨rfl, rfl⟩) | (go_at_call 22; with_reducible refine (CI1.out _).mono ?_; rintro e wz ⟨rfl, rfl⟩) | (go_at_call 22; with_reducible refine (CI2.out _).mono ?_; rintro e wz ⟨rfl, rfl⟩) | (go_at_call 44; refine (CF.out _).mono ?_; rintro e wz ⟨rfl, rfl⟩))
  refine (CT.out (w.heap.size + 1) 2 2 _ rfl (by decide) (by simp) (nm2_new _ [(114, 114), (114, 109)] _ _ (by simp))).mono ?_
  rintro e w2 ⟨rfl, hb⟩
  have B2 := Lib.hid (belT B0.out hb)
  have R2 := Lib.hid (rowT R0.out hb)
  clear hb
  have c0 := cell_of_row _ _ 0 _ _ _ R2.out
  have c1 := cell_of_row _ _ 1 _ _ _ R2.out
  have c3 := cell_of_row _ _ 3 _ _ _ R2.out
  simp only [List.getElem?_toArray, List.getElem?_cons_zero, List.getElem?_cons_succ] at c0 c1 c3
  go_wp2
  go_ret
  exact ⟨rfl, B2.out⟩
set_option maxRecDepth 100000 in
set_option maxHeartbeats 4000000 in
theorem shp27_5 (sz cd fr : Int) (d s : Opd) (ln : Int) (w : World) (hm : 1 < sz) (g1 : (fr == 1) = false) (g2 : (fr == 2) = false) (g4 : (fr == 4) = true) (h3 : (sz == 8) = false) (CZ : Hid (∀ W, Calls Tryz.prog 42 #[.int .i64 sz] W fun e w' => e = .returned (.bool true) ∧ W = w'))
    (CT : Hid (∀ (g n cap : Nat) (w : World) (_ : ([(114, 114), (114, 109)] : List (UInt8 × UInt8)).length = n) (_ : n ≤ 8) (_ : g < w.heap.size) (_ : Nm2 w g [(114, 114), (114, 109)]), Calls Tryz.prog 43 #[.agg #[.int .i64 27, .int .i64 sz, .int .i64 cd, .int .i64 fr, .int .i64 d.k, .int .i64 d.r, .int .i64 d.b, .int .i64 d.i, .int .i64 d.s, .int .i64 d.d, .int .i64 d.m, .int .i64 s.k, .int .i64 s.r, .int .i64 s.b, .int .i64 s.i, .int .i64 s.s, .int .i64 s.d, .int .i64 s.m, .int .i64 ln], .slice (some ⟨g, 0, none⟩) n cap] w fun e w' => e = .returned (.bool true) ∧ Below w.heap.size w w')) : Calls Tryz.prog 23 #[.agg #[.int .i64 27, .int .i64 sz, .int .i64 cd, .int .i64 fr, .int .i64 d.k, .int .i64 d.r, .int .i64 d.b, .int .i64 d.i, .int .i64 d.s, .int .i64 d.d, .int .i64 d.m, .int .i64 s.k, .int .i64 s.r, .int .i64 s.b, .int .i64 s.i, .int .i64 s.s, .int .i64 s.d, .int .i64 s.m, .int .i64 ln]] w fun e w' => e = .returned (.bool false) ∧ Below w.heap.size w w' := by
  have CI1 := Lib.hid (fun W => inNo 27 13 16 W (by decide))
  have CI2 := Lib.hid (fun W => inNo 27 20 24 W (by decide))
  have R0 := Lib.hid (heap_alloc_new w (.cells #[.int .i64 27, .int .i64 sz, .int .i64 cd, .int .i64 fr, .int .i64 d.k, .int .i64 d.r, .int .i64 d.b, .int .i64 d.i, .int .i64 d.s, .int .i64 d.d, .int .i64 d.m, .int .i64 s.k, .int .i64 s.r, .int .i64 s.b, .int .i64 s.i, .int .i64 s.s, .int .i64 s.d, .int .i64 s.m, .int .i64 ln] 33))
  have B0 := Lib.hid (belA w (.cells #[.int .i64 27, .int .i64 sz, .int .i64 cd, .int .i64 fr, .int .i64 d.k, .int .i64 d.r, .int .i64 d.b, .int .i64 d.i, .int .i64 d.s, .int .i64 d.d, .int .i64 d.m, .int .i64 s.k, .int .i64 s.r, .int .i64 s.b, .int .i64 s.i, .int .i64 s.s, .int .i64 s.d, .int .i64 s.m, .int .i64 ln] 33))
  go_enter Tryz.func23, Tryz.ntmps23
  go_wp2_with (first | refine wpList_load_row rfl 33 (.tmp 1) rfl w.heap.size rfl 33 #[.int .i64 27, .int .i64 sz, .int .i64 cd, .int .i64 fr, .int .i64 d.k, .int .i64 d.r, .int .i64 d.b, .int .i64 d.i, .int .i64 d.s, .int .i64 d.d, .int .i64 d.m, .int .i64 s.k, .int .i64 s.r, .int .i64 s.b, .int .i64 s.i, .int .i64 s.s, .int .i64 s.d, .int .i64 s.m, .int .i64 ln] (0, 0) _ R0.out Tryz.underlying33 rfl (by kernel_rfl) ?_ | refine load_rowT (by rfl) 33 (.tmp 1) rfl w.heap.size rfl 33 #[.int .i64 27, .int .i64 sz, .int .i64 cd, .int .i64 fr, .int .i64 d.k, .int .i64 d.r, .int .i64 d.b, .int .i64 d.i, .int .i64 d.s, .int .i64 d.d, .int .i64 d.m, .int .i64 s.k, .int .i64 s.r, .int .i64 s.b, .int .i64 s.i, .int .i64 s.s, .int .i64 s.d, .int .i64 s.m, .int .i64 ln] (0, 0) _ R0.out Tryz.underlying33 rfl (by kernel_rfl) ?_ | (go_at_call 42; refine (CZ.out _).mono ?_; rintro e wz ⟨rfl, rfl⟩) | (go_at_call 22; with_reducible refine (CI1.out _).mono ?_; rintro e wz ⟨rfl, rfl⟩) | (go_at_call 22; with_reducible refine (CI2.out _).mono ?_; rintro e wz ⟨rfl, rfl⟩) | (go_at_call 44; refine (CF.out _).mono ?_; rintro e wz ⟨rfl, rfl⟩))
  refine (CT.out (w.heap.size + 1) 2 2 _ rfl (by decide) (by simp) (nm2_new _ [(114, 114), (114, 109)] _ _ (by simp))).mono ?_
  rintro e w2 ⟨rfl, hb⟩
  have B2 := Lib.hid (belT B0.out hb)
  have R2 := Lib.hid (rowT R0.out hb)
  clear hb
  have c0 := cell_of_row _ _ 0 _ _ _ R2.out
  have c1 := cell_of_row _ _ 1 _ _ _ R2.out
  have c3 := cell_of_row _ _ 3 _ _ _ R2.out
  simp only [List.getElem?_toArray, List.getElem?_cons_zero, List.getElem?_cons_succ] at c0 c1 c3
  go_wp2
  go_ret
  exact ⟨rfl, B2.out⟩
set_option maxRecDepth 100000 in
set_option maxHeartbeats 4000000 in
theorem shp27_6 (sz cd fr : Int) (d s : Opd) (ln : Int) (w : World) (hm : 1 < sz) (g1 : (fr == 1) = false) (g2 : (fr == 2) = false) (g4 : (fr == 4) = false) (CZ : Hid (∀ W, Calls Tryz.prog 42 #[.int .i64 sz] W fun e w' => e = .returned (.bool true) ∧ W = w'))
    (CT : Hid (∀ (g n cap : Nat) (w : World) (_ : ([(114, 114), (114, 109)] : List (UInt8 × UInt8)).length = n) (_ : n ≤ 8) (_ : g < w.heap.size) (_ : Nm2 w g [(114, 114), (114, 109)]), Calls Tryz.prog 43 #[.agg #[.int .i64 27, .int .i64 sz, .int .i64 cd, .int .i64 fr, .int .i64 d.k, .int .i64 d.r, .int .i64 d.b, .int .i64 d.i, .int .i64 d.s, .int .i64 d.d, .int .i64 d.m, .int .i64 s.k, .int .i64 s.r, .int .i64 s.b, .int .i64 s.i, .int .i64 s.s, .int .i64 s.d, .int .i64 s.m, .int .i64 ln], .slice (some ⟨g, 0, none⟩) n cap] w fun e w' => e = .returned (.bool true) ∧ Below w.heap.size w w')) : Calls Tryz.prog 23 #[.agg #[.int .i64 27, .int .i64 sz, .int .i64 cd, .int .i64 fr, .int .i64 d.k, .int .i64 d.r, .int .i64 d.b, .int .i64 d.i, .int .i64 d.s, .int .i64 d.d, .int .i64 d.m, .int .i64 s.k, .int .i64 s.r, .int .i64 s.b, .int .i64 s.i, .int .i64 s.s, .int .i64 s.d, .int .i64 s.m, .int .i64 ln]] w fun e w' => e = .returned (.bool false) ∧ Below w.heap.size w w' := by
  have CI1 := Lib.hid (fun W => inNo 27 13 16 W (by decide))
  have CI2 := Lib.hid (fun W => inNo 27 20 24 W (by decide))
  have R0 := Lib.hid (heap_alloc_new w (.cells #[.int .i64 27, .int .i64 sz, .int .i64 cd, .int .i64 fr, .int .i64 d.k, .int .i64 d.r, .int .i64 d.b, .int .i64 d.i, .int .i64 d.s, .int .i64 d.d, .int .i64 d.m, .int .i64 s.k, .int .i64 s.r, .int .i64 s.b, .int .i64 s.i, .int .i64 s.s, .int .i64 s.d, .int .i64 s.m, .int .i64 ln] 33))
  have B0 := Lib.hid (belA w (.cells #[.int .i64 27, .int .i64 sz, .int .i64 cd, .int .i64 fr, .int .i64 d.k, .int .i64 d.r, .int .i64 d.b, .int .i64 d.i, .int .i64 d.s, .int .i64 d.d, .int .i64 d.m, .int .i64 s.k, .int .i64 s.r, .int .i64 s.b, .int .i64 s.i, .int .i64 s.s, .int .i64 s.d, .int .i64 s.m, .int .i64 ln] 33))
  go_enter Tryz.func23, Tryz.ntmps23
  go_wp2_with (first | refine wpList_load_row rfl 33 (.tmp 1) rfl w.heap.size rfl 33 #[.int .i64 27, .int .i64 sz, .int .i64 cd, .int .i64 fr, .int .i64 d.k, .int .i64 d.r, .int .i64 d.b, .int .i64 d.i, .int .i64 d.s, .int .i64 d.d, .int .i64 d.m, .int .i64 s.k, .int .i64 s.r, .int .i64 s.b, .int .i64 s.i, .int .i64 s.s, .int .i64 s.d, .int .i64 s.m, .int .i64 ln] (0, 0) _ R0.out Tryz.underlying33 rfl (by kernel_rfl) ?_ | refine load_rowT (by rfl) 33 (.tmp 1) rfl w.heap.size rfl 33 #[.int .i64 27, .int .i64 sz, .int .i64 cd, .int .i64 fr, .int .i64 d.k, .int .i64 d.r, .int .i64 d.b, .int .i64 d.i, .int .i64 d.s, .int .i64 d.d, .int .i64 d.m, .int .i64 s.k, .int .i64 s.r, .int .i64 s.b, .int .i64 s.i, .int .i64 s.s, .int .i64 s.d, .int .i64 s.m, .int .i64 ln] (0, 0) _ R0.out Tryz.underlying33 rfl (by kernel_rfl) ?_ | (go_at_call 42; refine (CZ.out _).mono ?_; rintro e wz ⟨rfl, rfl⟩) | (go_at_call 22; with_reducible refine (CI1.out _).mono ?_; rintro e wz ⟨rfl, rfl⟩) | (go_at_call 22; with_reducible refine (CI2.out _).mono ?_; rintro e wz ⟨rfl, rfl⟩) | (go_at_call 44; refine (CF.out _).mono ?_; rintro e wz ⟨rfl, rfl⟩))
  refine (CT.out (w.heap.size + 1) 2 2 _ rfl (by decide) (by simp) (nm2_new _ [(114, 114), (114, 109)] _ _ (by simp))).mono ?_
  rintro e w2 ⟨rfl, hb⟩
  have B2 := Lib.hid (belT B0.out hb)
  have R2 := Lib.hid (rowT R0.out hb)
  clear hb
  have c0 := cell_of_row _ _ 0 _ _ _ R2.out
  have c1 := cell_of_row _ _ 1 _ _ _ R2.out
  have c3 := cell_of_row _ _ 3 _ _ _ R2.out
  simp only [List.getElem?_toArray, List.getElem?_cons_zero, List.getElem?_cons_succ] at c0 c1 c3
  go_wp2
  go_ret
  exact ⟨rfl, B2.out⟩
set_option maxRecDepth 100000 in
set_option maxHeartbeats 4000000 in
theorem shp27_7 (sz cd fr : Int) (d s : Opd) (ln : Int) (w : World) (hm2 : decide (1 < sz) = false) (CZ : Hid (∀ W, Calls Tryz.prog 42 #[.int .i64 sz] W fun e w' => e = .returned (.bool true) ∧ W = w'))
    (CT : Hid (∀ (g n cap : Nat) (w : World) (_ : ([(114, 114), (114, 109)] : List (UInt8 × UInt8)).length = n) (_ : n ≤ 8) (_ : g < w.heap.size) (_ : Nm2 w g [(114, 114), (114, 109)]), Calls Tryz.prog 43 #[.agg #[.int .i64 27, .int .i64 sz, .int .i64 cd, .int .i64 fr, .int .i64 d.k, .int .i64 d.r, .int .i64 d.b, .int .i64 d.i, .int .i64 d.s, .int .i64 d.d, .int .i64 d.m, .int .i64 s.k, .int .i64 s.r, .int .i64 s.b, .int .i64 s.i, .int .i64 s.s, .int .i64 s.d, .int .i64 s.m, .int .i64 ln], .slice (some ⟨g, 0, none⟩) n cap] w fun e w' => e = .returned (.bool true) ∧ Below w.heap.size w w')) : Calls Tryz.prog 23 #[.agg #[.int .i64 27, .int .i64 sz, .int .i64 cd, .int .i64 fr, .int .i64 d.k, .int .i64 d.r, .int .i64 d.b, .int .i64 d.i, .int .i64 d.s, .int .i64 d.d, .int .i64 d.m, .int .i64 s.k, .int .i64 s.r, .int .i64 s.b, .int .i64 s.i, .int .i64 s.s, .int .i64 s.d, .int .i64 s.m, .int .i64 ln]] w fun e w' => e = .returned (.bool false) ∧ Below w.heap.size w w' := by
  have CI1 := Lib.hid (fun W => inNo 27 13 16 W (by decide))
  have CI2 := Lib.hid (fun W => inNo 27 20 24 W (by decide))
  have R0 := Lib.hid (heap_alloc_new w (.cells #[.int .i64 27, .int .i64 sz, .int .i64 cd, .int .i64 fr, .int .i64 d.k, .int .i64 d.r, .int .i64 d.b, .int .i64 d.i, .int .i64 d.s, .int .i64 d.d, .int .i64 d.m, .int .i64 s.k, .int .i64 s.r, .int .i64 s.b, .int .i64 s.i, .int .i64 s.s, .int .i64 s.d, .int .i64 s.m, .int .i64 ln] 33))
  have B0 := Lib.hid (belA w (.cells #[.int .i64 27, .int .i64 sz, .int .i64 cd, .int .i64 fr, .int .i64 d.k, .int .i64 d.r, .int .i64 d.b, .int .i64 d.i, .int .i64 d.s, .int .i64 d.d, .int .i64 d.m, .int .i64 s.k, .int .i64 s.r, .int .i64 s.b, .int .i64 s.i, .int .i64 s.s, .int .i64 s.d, .int .i64 s.m, .int .i64 ln] 33))
  go_enter Tryz.func23, Tryz.ntmps23
  go_wp2_with (first | refine wpList_load_row rfl 33 (.tmp 1) rfl w.heap.size rfl 33 #[.int .i64 27, .int .i64 sz, .int .i64 cd, .int .i64 fr, .int .i64 d.k, .int .i64 d.r, .int .i64 d.b, .int .i64 d.i, .int .i64 d.s, .int .i64 d.d, .int .i64 d.m, .int .i64 s.k, .int .i64 s.r, .int .i64 s.b, .int .i64 s.i, .int .i64 s.s, .int .i64 s.d, .int .i64 s.m, .int .i64 ln] (0, 0) _ R0.out Tryz.underlying33 rfl (by kernel_rfl) ?_ | refine load_rowT (by rfl) 33 (.tmp 1) rfl w.heap.size rfl 33 #[.int .i64 27, .int .i64 sz, .int .i64 cd, .int .i64 fr, .int .i64 d.k, .int .i64 d.r, .int .i64 d.b, .int .i64 d.i, .int .i64 d.s, .int .i64 d.d, .int .i64 d.m, .int .i64 s.k, .int .i64 s.r, .int .i64 s.b, .int .i64 s.i, .int .i64 s.s, .int .i64 s.d, .int .i64 s.m, .int .i64 ln] (0, 0) _ R0.out Tryz.underlying33 rfl (by kernel_rfl) ?_ | (go_at_call 42; refine (CZ.out _).mono ?_; rintro e wz ⟨rfl, rfl⟩) | (go_at_call 22; with_reducible refine (CI1.out _).mono ?_; rintro e wz ⟨rfl, rfl⟩) | (go_at_call 22; with_reducible refine (CI2.out _).mono ?_; rintro e wz ⟨rfl, rfl⟩) | (go_at_call 44; refine (CF.out _).mono ?_; rintro e wz ⟨rfl, rfl⟩))
  refine (CT.out (w.heap.size + 1) 2 2 _ rfl (by decide) (by simp) (nm2_new _ [(114, 114), (114, 109)] _ _ (by simp))).mono ?_
  rintro e w2 ⟨rfl, hb⟩
  have B2 := Lib.hid (belT B0.out hb)
  have R2 := Lib.hid (rowT R0.out hb)
  clear hb
  go_wp2
  go_ret
  exact ⟨rfl, B2.out⟩
set_option maxRecDepth 100000 in
set_option maxHeartbeats 4000000 in
theorem shp27_8 (sz cd fr : Int) (d s : Opd) (ln : Int) (w : World) (hm2 : decide (1 < sz) = false) (CZ : Hid (∀ W, Calls Tryz.prog 42 #[.int .i64 sz] W fun e w' => e = .returned (.bool true) ∧ W = w'))
    (CT : Hid (∀ (g n cap : Nat) (w : World) (_ : ([(114, 114), (114, 109)] : List (UInt8 × UInt8)).length = n) (_ : n ≤ 8) (_ : g < w.heap.size) (_ : Nm2 w g [(114, 114), (114, 109)]), Calls Tryz.prog 43 #[.agg #[.int .i64 27, .int .i64 sz, .int .i64 cd, .int .i64 fr, .int .i64 d.k, .int .i64 d.r, .int .i64 d.b, .int .i64 d.i, .int .i64 d.s, .int .i64 d.d, .int .i64 d.m, .int .i64 s.k, .int .i64 s.r, .int .i64 s.b, .int .i64 s.i, .int .i64 s.s, .int .i64 s.d, .int .i64 s.m, .int .i64 ln], .slice (some ⟨g, 0, none⟩) n cap] w fun e w' => e = .returned (.bool false) ∧ Below w.heap.size w w')) : Calls Tryz.prog 23 #[.agg #[.int .i64 27, .int .i64 sz, .int .i64 cd, .int .i64 fr, .int .i64 d.k, .int .i64 d.r, .int .i64 d.b, .int .i64 d.i, .int .i64 d.s, .int .i64 d.d, .int .i64 d.m, .int .i64 s.k, .int .i64 s.r, .int .i64 s.b, .int .i64 s.i, .int .i64 s.s, .int .i64 s.d, .int .i64 s.m, .int .i64 ln]] w fun e w' => e = .returned (.bool false) ∧ Below w.heap.size w w' := by
  have CI1 := Lib.hid (fun W => inNo 27 13 16 W (by decide))
  have CI2 := Lib.hid (fun W => inNo 27 20 24 W (by decide))
  have R0 := Lib.hid (heap_alloc_new w (.cells #[.int .i64 27, .int .i64 sz, .int .i64 cd, .int .i64 fr, .int .i64 d.k, .int .i64 d.r, .int .i64 d.b, .int .i64 d.i, .int .i64 d.s, .int .i64 d.d, .int .i64 d.m, .int .i64 s.k, .int .i64 s.r, .int .i64 s.b, .int .i64 s.i, .int .i64 s.s, .int .i64 s.d, .int .i64 s.m, .int .i64 ln] 33))
  have B0 := Lib.hid (belA w (.cells #[.int .i64 27, .int .i64 sz, .int .i64 cd, .int .i64 fr, .int .i64 d.k, .int .i64 d.r, .int .i64 d.b, .int .i64 d.i, .int .i64 d.s, .int .i64 d.d, .int .i64 d.m, .int .i64 s.k, .int .i64 s.r, .int .i64 s.b, .int .i64 s.i, .int .i64 s.s, .int .i64 s.d, .int .i64 s.m, .int .i64 ln] 33))
  go_enter Tryz.func23, Tryz.ntmps23
  go_wp2_with (first | refine wpList_load_row rfl 33 (.tmp 1) rfl w.heap.size rfl 33 #[.int .i64 27, .int .i64 sz, .int .i64 cd, .int .i64 fr, .int .i64 d.k, .int .i64 d.r, .int .i64 d.b, .int .i64 d.i, .int .i64 d.s, .int .i64 d.d, .int .i64 d.m, .int .i64 s.k, .int .i64 s.r, .int .i64 s.b, .int .i64 s.i, .int .i64 s.s, .int .i64 s.d, .int .i64 s.m, .int .i64 ln] (0, 0) _ R0.out Tryz.underlying33 rfl (by kernel_rfl) ?_ | refine load_rowT (by rfl) 33 (.tmp 1) rfl w.heap.size rfl 33 #[.int .i64 27, .int .i64 sz, .int .i64 cd, .int .i64 fr, .int .i64 d.k, .int .i64 d.r, .int .i64 d.b, .int .i64 d.i, .int .i64 d.s, .int .i64 d.d, .int .i64 d.m, .int .i64 s.k, .int .i64 s.r, .int .i64 s.b, .int .i64 s.i, .int .i64 s.s, .int .i64 s.d, .int .i64 s.m, .int .i64 ln] (0, 0) _ R0.out Tryz.underlying33 rfl (by kernel_rfl) ?_ | (go_at_call 42; refine (CZ.out _).mono ?_; rintro e wz ⟨rfl, rfl⟩) | (go_at_call 22; with_reducible refine (CI1.out _).mono ?_; rintro e wz ⟨rfl, rfl⟩) | (go_at_call 22; with_reducible refine (CI2.out _).mono ?_; rintro e wz ⟨rfl, rfl⟩) | (go_at_call 44; refine (CF.out _).mono ?_; rintro e wz ⟨rfl, rfl⟩))
  refine (CT.out (w.heap.size + 1) 2 2 _ rfl (by decide) (by simp) (nm2_new _ [(114, 114), (114, 109)] _ _ (by simp))).mono ?_
  rintro e w2 ⟨rfl, hb⟩
  have B2 := Lib.hid (belT B0.out hb)
  have R2 := Lib.hid (rowT R0.out hb)
  clear hb
  go_wp2
  go_ret
  exact ⟨rfl, B2.out⟩
set_option maxRecDepth 100000 in
set_option maxHeartbeats 4000000 in
theorem shp27_9 (sz cd fr : Int) (d s : Opd) (ln : Int) (w : World)  (CZ : Hid (∀ W, Calls Tryz.prog 42 #[.int .i64 sz] W fun e w' => e = .returned (.bool false) ∧ W = w'))
    (CT : Hid (∀ (g n cap : Nat) (w : World) (_ : ([(114, 114), (114, 109)] : List (UInt8 × UInt8)).length = n) (_ : n ≤ 8) (_ : g < w.heap.size) (_ : Nm2 w g [(114, 114), (114, 109)]), Calls Tryz.prog 43 #[.agg #[.int .i64 27, .int .i64 sz, .int .i64 cd, .int .i64 fr, .int .i64 d.k, .int .i64 d.r, .int .i64 d.b, .int .i64 d.i, .int .i64 d.s, .int .i64 d.d, .int .i64 d.m, .int .i64 s.k, .int .i64 s.r, .int .i64 s.b, .int .i64 s.i, .int .i64 s.s, .int .i64 s.d, .int .i64 s.m, .int .i64 ln], .slice (some ⟨g, 0, none⟩) n cap] w fun e w' => e = .returned (.bool true) ∧ Below w.heap.size w w')) : Calls Tryz.prog 23 #[.agg #[.int .i64 27, .int .i64 sz, .int .i64 cd, .int .i64 fr, .int .i64 d.k, .int .i64 d.r, .int .i64 d.b, .int .i64 d.i, .int .i64 d.s, .int .i64 d.d, .int .i64 d.m, .int .i64 s.k, .int .i64 s.r, .int .i64 s.b, .int .i64 s.i, .int .i64 s.s, .int .i64 s.d, .int .i64 s.m, .int .i64 ln]] w fun e w' => e = .returned (.bool false) ∧ Below w.heap.size w w' := by
  have CI1 := Lib.hid (fun W => inNo 27 13 16 W (by decide))
  have CI2 := Lib.hid (fun W => inNo 27 20 24 W (by decide))
  have R0 := Lib.hid (heap_alloc_new w (.cells #[.int .i64 27, .int .i64 sz, .int .i64 cd, .int .i64 fr, .int .i64 d.k, .int .i64 d.r, .int .i64 d.b, .int .i64 d.i, .int .i64 d.s, .int .i64 d.d, .int .i64 d.m, .int .i64 s.k, .int .i64 s.r, .int .i64 s.b, .int .i64 s.i, .int .i64 s.s, .int .i64 s.d, .int .i64 s.m, .int .i64 ln] 33))
  have B0 := Lib.hid (belA w (.cells #[.int .i64 27, .int .i64 sz, .int .i64 cd, .int .i64 fr, .int .i64 d.k, .int .i64 d.r, .int .i64 d.b, .int .i64 d.i, .int .i64 d.s, .int .i64 d.d, .int .i64 d.m, .int .i64 s.k, .int .i64 s.r, .int .i64 s.b, .int .i64 s.i, .int .i64 s.s, .int .i64 s.d, .int .i64 s.m, .int .i64 ln] 33))
  go_enter Tryz.func23, Tryz.ntmps23
  go_wp2_with (first | refine wpList_load_row rfl 33 (.tmp 1) rfl w.heap.size rfl 33 #[.int .i64 27, .int .i64 sz, .int .i64 cd, .int .i64 fr, .int .i64 d.k, .int .i64 d.r, .int .i64 d.b, .int .i64 d.i, .int .i64 d.s, .int .i64 d.d, .int .i64 d.m, .int .i64 s.k, .int .i64 s.r, .int .i64 s.b, .int .i64 s.i, .int .i64 s.s, .int .i64 s.d, .int .i64 s.m, .int .i64 ln] (0, 0) _ R0.out Tryz.underlying33 rfl (by kernel_rfl) ?_ | refine load_rowT (by rfl) 33 (.tmp 1) rfl w.heap.size rfl 33 #[.int .i64 27, .int .i64 sz, .int .i64 cd, .int .i64 fr, .int .i64 d.k, .int .i64 d.r, .int .i64 d.b, .int .i64 d.i, .int .i64 d.s, .int .i64 d.d, .int .i64 d.m, .int .i64 s.k, .int .i64 s.r, .int .i64 s.b, .int .i64 s.i, .int .i64 s.s, .int .i64 s.d, .int .i64 s.m, .int .i64 ln] (0, 0) _ R0.out Tryz.underlying33 rfl (by kernel_rfl) ?_ | (go_at_call 42; refine (CZ.out _).mono ?_; rintro e wz ⟨rfl, rfl⟩) | (go_at_call 22; with_reducible refine (CI1.out _).mono ?_; rintro e wz ⟨rfl, rfl⟩) | (go_at_call 22; with_reducible refine (CI2.out _).mono ?_; rintro e wz ⟨rfl, rfl⟩) | (go_at_call 44; refine (CF.out _).mono ?_; rintro e wz ⟨rfl, rfl⟩))
  refine (CT.out (w.heap.size + 1) 2 2 _ rfl (by decide) (by simp) (nm2_new _ [(114, 114), (114, 109)] _ _ (by simp))).mono ?_
  rintro e w2 ⟨rfl, hb⟩
  have B2 := Lib.hid (belT B0.out hb)
  have R2 := Lib.hid (rowT R0.out hb)
  clear hb
  go_wp2
  go_ret
  exact ⟨rfl, B2.out⟩
set_option maxRecDepth 100000 in
set_option maxHeartbeats 4000000 in
theorem shp27_10 (sz cd fr : Int) (d s : Opd) (ln : Int) (w : World)  (CZ : Hid (∀ W, Calls Tryz.prog 42 #[.int .i64 sz] W fun e w' => e = .returned (.bool false) ∧ W = w'))
    (CT : Hid (∀ (g n cap : Nat) (w : World) (_ : ([(114, 114), (114, 109)] : List (UInt8 × UInt8)).length = n) (_ : n ≤ 8) (_ : g < w.heap.size) (_ : Nm2 w g [(114, 114), (114, 109)]), Calls Tryz.prog 43 #[.agg #[.int .i64 27, .int .i64 sz, .int .i64 cd, .int .i64 fr, .int .i64 d.k, .int .i64 d.r, .int .i64 d.b, .int .i64 d.i, .int .i64 d.s, .int .i64 d.d, .int .i64 d.m, .int .i64 s.k, .int .i64 s.r, .int .i64 s.b, .int .i64 s.i, .int .i64 s.s, .int .i64 s.d, .int .i64 s.m, .int .i64 ln], .slice (some ⟨g, 0, none⟩) n cap] w fun e w' => e = .returned (.bool false) ∧ Below w.heap.size w w')) : Calls Tryz.prog 23 #[.agg #[.int .i64 27, .int .i64 sz, .int .i64 cd, .int .i64 fr, .int .i64 d.k, .int .i64 d.r, .int .i64 d.b, .int .i64 d.i, .int .i64 d.s, .int .i64 d.d, .int .i64 d.m, .int .i64 s.k, .int .i64 s.r, .int .i64 s.b, .int .i64 s.i, .int .i64 s.s, .int .i64 s.d, .int .i64 s.m, .int .i64 ln]] w fun e w' => e = .returned (.bool false) ∧ Below w.heap.size w w' := by
  have CI1 := Lib.hid (fun W => inNo 27 13 16 W (by decide))
  have CI2 := Lib.hid (fun W => inNo 27 20 24 W (by decide))
  have R0 := Lib.hid (heap_alloc_new w (.cells #[.int .i64 27, .int .i64 sz, .int .i64 cd, .int .i64 fr, .int .i64 d.k, .int .i64 d.r, .int .i64 d.b, .int .i64 d.i, .int .i64 d.s, .int .i64 d.d, .int .i64 d.m, .int .i64 s.k, .int .i64 s.r, .int .i64 s.b, .int .i64 s.i, .int .i64 s.s, .int .i64 s.d, .int .i64 s.m, .int .i64 ln] 33))
  have B0 := Lib.hid (belA w (.cells #[.int .i64 27, .int .i64 sz, .int .i64 cd, .int .i64 fr, .int .i64 d.k, .int .i64 d.r, .int .i64 d.b, .int .i64 d.i, .int .i64 d.s, .int .i64 d.d, .int .i64 d.m, .int .i64 s.k, .int .i64 s.r, .int .i64 s.b, .int .i64 s.i, .int .i64 s.s, .int .i64 s.d, .int .i64 s.m, .int .i64 ln] 33))
  go_enter Tryz.func23, Tryz.ntmps23
  go_wp2_with (first | refine wpList_load_row rfl 33 (.tmp 1) rfl w.heap.size rfl 33 #[.int .i64 27, .int .i64 sz, .int .i64 cd, .int .i64 fr, .int .i64 d.k, .int .i64 d.r, .int .i64 d.b, .int .i64 d.i, .int .i64 d.s, .int .i64 d.d, .int .i64 d.m, .int .i64 s.k, .int .i64 s.r, .int .i64 s.b, .int .i64 s.i, .int .i64 s.s, .int .i64 s.d, .int .i64 s.m, .int .i64 ln] (0, 0) _ R0.out Tryz.underlying33 rfl (by kernel_rfl) ?_ | refine load_rowT (by rfl) 33 (.tmp 1) rfl w.heap.size rfl 33 #[.int .i64 27, .int .i64 sz, .int .i64 cd, .int .i64 fr, .int .i64 d.k, .int .i64 d.r, .int .i64 d.b, .int .i64 d.i, .int .i64 d.s, .int .i64 d.d, .int .i64 d.m, .int .i64 s.k, .int .i64 s.r, .int .i64 s.b, .int .i64 s.i, .int .i64 s.s, .int .i64 s.d, .int .i64 s.m, .int .i64 ln] (0, 0) _ R0.out Tryz.underlying33 rfl (by kernel_rfl) ?_ | (go_at_call 42; refine (CZ.out _).mono ?_; rintro e wz ⟨rfl, rfl⟩) | (go_at_call 22; with_reducible refine (CI1.out _).mono ?_; rintro e wz ⟨rfl, rfl⟩) | (go_at_call 22; with_reducible refine (CI2.out _).mono ?_; rintro e wz ⟨rfl, rfl⟩) | (go_at_call 44; refine (CF.out _).mono ?_; rintro e wz ⟨rfl, rfl⟩))
  refine (CT.out (w.heap.size + 1) 2 2 _ rfl (by decide) (by simp) (nm2_new _ [(114, 114), (114, 109)] _ _ (by simp))).mono ?_
  rintro e w2 ⟨rfl, hb⟩
  have B2 := Lib.hid (belT B0.out hb)
  have R2 := Lib.hid (rowT R0.out hb)
  clear hb
  go_wp2
  go_ret
  exact ⟨rfl, B2.out⟩
theorem shp26 (x : Ins) (w : World) (ho : x.op = 26 ∨ x.op = 27) : Calls Tryz.prog 23 #[.agg (insV x)] w fun e w' => e = .returned (.bool ((decide (okSize x.sz) && decide (1 < x.sz)) && kin2 [(114, 114), (114, 109)] x.d.k x.s.k && (decide (x.fr = 1) || (decide (x.fr = 2) && decide (2 < x.sz)) || (decide (x.fr = 4) && decide (x.sz = 8) && decide (x.op = 27))))) ∧ Below w.heap.size w w' := by
  have CT := twoS5 x [(114, 114), (114, 109)]
  generalize kin2 [(114, 114), (114, 109)] x.d.k x.s.k = b1 at *
  have CY := fun h W => sizeYes x.sz W h
  have CN := fun h W => sizeNo x.sz W h
  obtain ⟨op, sz, cd, fr, d, s, ln⟩ := x
  simp only at CT CY CN ho ⊢
  unfold insV insA
  simp only
  rcases ho with rfl | rfl
  · by_cases hz : okSize sz
    · by_cases hm : 1 < sz
      · cases b1
        · refine vto (v := false) (by simp [hm]) ?_
          exact shp26_0 sz cd fr d s ln w hm (Lib.hid (CY hz)) (Lib.hid CT)
        · by_cases f1 : fr = 1
          · refine vto (v := true) (by simp [hz, hm, f1]) ?_
            exact shp26_1 sz cd fr d s ln w hm (beq_iff_eq.mpr f1) (Lib.hid (CY hz)) (Lib.hid CT)
          · have g1 : (fr == 1) = false := beq_eq_false_iff_ne.mpr f1
            by_cases f2 : fr = 2
            · have g2 : (fr == 2) = true := beq_iff_eq.mpr f2
              have g4 : (fr == 4) = false := beq_eq_false_iff_ne.mpr (by omega)
              by_cases h2 : 2 < sz
              · refine vto (v := true) (by simp [hz, hm, f2, h2]) ?_
                exact shp26_2 sz cd fr d s ln w hm g1 g2 h2 (Lib.hid (CY hz)) (Lib.hid CT)
              · refine vto (v := false) (by simp [hz, hm, f2, h2]) ?_
                exact shp26_3 sz cd fr d s ln w hm g1 g2 g4 (decide_eq_false h2) (Lib.hid (CY hz)) (Lib.hid CT)
            · have g2 : (fr == 2) = false := beq_eq_false_iff_ne.mpr f2
              by_cases f4 : fr = 4
              · have g4 : (fr == 4) = true := beq_iff_eq.mpr f4
                by_cases h8 : sz = 8
                · refine vto (v := false) (by simp [hz, hm, f4, h8, okSize]) ?_
                  exact shp26_4 sz cd fr d s ln w hm g1 g2 g4 (beq_iff_eq.mpr h8) (Lib.hid (CY hz)) (Lib.hid CT)
                · refine vto (v := false) (by simp [hz, hm, f4, h8]) ?_
                  exact shp26_5 sz cd fr d s ln w hm g1 g2 g4 (beq_eq_false_iff_ne.mpr h8) (Lib.hid (CY hz)) (Lib.hid CT)
              · refine vto (v := false) (by simp [hz, hm, f1, f2, f4]) ?_
                exact shp26_6 sz cd fr d s ln w hm g1 g2 (beq_eq_false_iff_ne.mpr f4) (Lib.hid (CY hz)) (Lib.hid CT)
      · cases b1
        · refine vto (v := false) (by simp [hm]) ?_
          exact shp26_8 sz cd fr d s ln w (decide_eq_false hm) (Lib.hid (CY hz)) (Lib.hid CT)
        · refine vto (v := false) (by simp [hm]) ?_
          exact shp26_7 sz cd fr d s ln w (decide_eq_false hm) (Lib.hid (CY hz)) (Lib.hid CT)
    · cases b1
      · refine vto (v := false) (by simp [hz]) ?_
        exact shp26_10 sz cd fr d s ln w  (Lib.hid (CN hz)) (Lib.hid CT)
      · refine vto (v := false) (by simp [hz]) ?_
        exact shp26_9 sz cd fr d s ln w  (Lib.hid (CN hz)) (Lib.hid CT)
  · by_cases hz : okSize sz
    · by_cases hm : 1 < sz
      · cases b1
        · refine vto (v := false) (by simp [hm]) ?_
          exact shp27_0 sz cd fr d s ln w hm (Lib.hid (CY hz)) (Lib.hid CT)
        · by_cases f1 : fr = 1
          · refine vto (v := true) (by simp [hz, hm, f1]) ?_
            exact shp27_1 sz cd fr d s ln w hm (beq_iff_eq.mpr f1) (Lib.hid (CY hz)) (Lib.hid CT)
          · have g1 : (fr == 1) = false := beq_eq_false_iff_ne.mpr f1
            by_cases f2 : fr = 2
            · have g2 : (fr == 2) = true := beq_iff_eq.mpr f2
              have g4 : (fr == 4) = false := beq_eq_false_iff_ne.mpr (by omega)
              by_cases h2 : 2 < sz
              · refine vto (v := true) (by simp [hz, hm, f2, h2]) ?_
                exact shp27_2 sz cd fr d s ln w hm g1 g2 h2 (Lib.hid (CY hz)) (Lib.hid CT)
              · refine vto (v := false) (by simp [hz, hm, f2, h2]) ?_
                exact shp27_3 sz cd fr d s ln w hm g1 g2 g4 (decide_eq_false h2) (Lib.hid (CY hz)) (Lib.hid CT)
            · have g2 : (fr == 2) = false := beq_eq_false_iff_ne.mpr f2
              by_cases f4 : fr = 4
              · have g4 : (fr == 4) = true := beq_iff_eq.mpr f4
                by_cases h8 : sz = 8
                · refine vto (v := true) (by simp [hz, hm, f4, h8, okSize]) ?_
                  exact shp27_4 sz cd fr d s ln w hm g1 g2 g4 (beq_iff_eq.mpr h8) (Lib.hid (CY hz)) (Lib.hid CT)
                · refine vto (v := false) (by simp [hz, hm, f4, h8]) ?_
                  exact shp27_5 sz cd fr d s ln w hm g1 g2 g4 (beq_eq_false_iff_ne.mpr h8) (Lib.hid (CY hz)) (Lib.hid CT)
              · refine vto (v := false) (by simp [hz, hm, f1, f2, f4]) ?_
                exact shp27_6 sz cd fr d s ln w hm g1 g2 (beq_eq_false_iff_ne.mpr f4) (Lib.hid (CY hz)) (Lib.hid CT)
      · cases b1
        · refine vto (v := false) (by simp [hm]) ?_
          exact shp27_8 sz cd fr d s ln w (decide_eq_false hm) (Lib.hid (CY hz)) (Lib.hid CT)
        · refine vto (v := false) (by simp [hm]) ?_
          exact shp27_7 sz cd fr d s ln w (decide_eq_false hm) (Lib.hid (CY hz)) (Lib.hid CT)
    · cases b1
      · refine vto (v := false) (by simp [hz]) ?_
        exact shp27_10 sz cd fr d s ln w  (Lib.hid (CN hz)) (Lib.hid CT)
      · refine vto (v := false) (by simp [hz]) ?_
        exact shp27_9 sz cd fr d s ln w  (Lib.hid (CN hz)) (Lib.hid CT)
end Go.Proofs.YtjnjlgaemmdkhaaGreatDoor
