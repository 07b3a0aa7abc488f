/-
  What impl.OperandOK and spec.OperandOK do: they tell whether an operand is right for a size, changing nothing that was there; conditions: the tables of registers' names and the sentinels hold what the program's text lays there.
-/
import Derived.Test.YtjnjlgaemmdkhaaGreatDoorWalkOpd
namespace Go.Proofs.YtjnjlgaemmdkhaaGreatDoor
open Go.RowKit
theorem eql_at (x y : Opd) (v : Bool) (hv : decide (x = y) = v) (w : World) : (binOp .eql 31 (.agg #[.int .i64 x.k, .int .i64 x.r, .int .i64 x.b, .int .i64 x.i, .int .i64 x.s, .int .i64 x.d, .int .i64 x.m]) (.agg #[.int .i64 y.k, .int .i64 y.r, .int .i64 y.b, .int .i64 y.i, .int .i64 y.s, .int .i64 y.d, .int .i64 y.m])).run Tryz.prog w = .ok (.bool v) w := by
  subst hv; exact run_eql_opd x y w
def V7 (x : Opd) : Value := .agg #[.int .i64 x.k, .int .i64 x.r, .int .i64 x.b, .int .i64 x.i, .int .i64 x.s, .int .i64 x.d, .int .i64 x.m]
set_option maxRecDepth 100000 in
set_option maxHeartbeats 1000000 in
theorem s1no (r b i s d m z top : Int) (w : World) (ht : top = topReg z) (h : r < 0 ∨ top < r) :
    Calls Tryz.prog 25 #[.agg #[.int .i64 1, .int .i64 r, .int .i64 b, .int .i64 i, .int .i64 s, .int .i64 d, .int .i64 m], .int .i64 z] w fun e w' => e = .returned (.bool false) ∧ Below w.heap.size w w' := by
  have C := Lib.hid (fun w => inNo r 0 top w h)
  by_cases hz : z = 1
  · subst hz
    obtain rfl : top = 19 := ht
    clear h
    go_enter Tryz.func25, Tryz.ntmps25
    go_wp2_with (go_at_call 22; (with_reducible refine Calls.mono (C.out _) ?_); rintro e w' ⟨rfl, rfl⟩)
    go_ret
    exact ⟨rfl, (Below.refl _ _).alloc (Nat.le_refl _) _⟩
  · have h1 : (z == 1) = false := beq_eq_false_iff_ne.mpr hz
    obtain rfl : top = 15 := by rw [ht]; unfold topReg; rw [if_neg hz]
    clear hz ht h
    go_enter Tryz.func25, Tryz.ntmps25
    go_wp2_with (go_at_call 22; (with_reducible refine Calls.mono (C.out _) ?_); rintro e w' ⟨rfl, rfl⟩)
    go_ret
    exact ⟨rfl, (Below.refl _ _).alloc (Nat.le_refl _) _⟩
set_option maxRecDepth 100000 in
set_option maxHeartbeats 1000000 in
theorem s1yes (r b i s d m z top : Int) (w : World) (ht : top = topReg z) (h0 : 0 ≤ r) (h2 : r ≤ top) (v : Bool) (hv : decide ((⟨1, r, b, i, s, d, m⟩ : Opd) = regOpd r) = v) :
    Calls Tryz.prog 25 #[.agg #[.int .i64 1, .int .i64 r, .int .i64 b, .int .i64 i, .int .i64 s, .int .i64 d, .int .i64 m], .int .i64 z] w fun e w' => e = .returned (.bool v) ∧ Below w.heap.size w w' := by
  have C := Lib.hid (fun w => inYes r 0 top w h0 h2)
  have E := eql_at ⟨1, r, b, i, s, d, m⟩ ⟨1, r, 0, 0, 0, 0, 0⟩ v hv
  clear hv
  by_cases hz : z = 1
  · subst hz
    obtain rfl : top = 19 := ht
    clear h0 h2
    go_enter Tryz.func25, Tryz.ntmps25
    go_wp2_with (go_at_call 22; (with_reducible refine Calls.mono (C.out _) ?_); rintro e w' ⟨rfl, rfl⟩)
    go_ret
    exact ⟨rfl, (Below.refl _ _).alloc (Nat.le_refl _) _⟩
  · have h1 : (z == 1) = false := beq_eq_false_iff_ne.mpr hz
    obtain rfl : top = 15 := by rw [ht]; unfold topReg; rw [if_neg hz]
    clear hz ht h0 h2
    go_enter Tryz.func25, Tryz.ntmps25
    go_wp2_with (go_at_call 22; (with_reducible refine Calls.mono (C.out _) ?_); rintro e w' ⟨rfl, rfl⟩)
    go_ret
    exact ⟨rfl, (Below.refl _ _).alloc (Nat.le_refl _) _⟩
set_option maxRecDepth 100000 in
set_option maxHeartbeats 1000000 in
theorem m1 (r b i s d m z : Int) (w : World) (h1 : r ≠ 0) :
    Calls Tryz.prog 25 #[.agg #[.int .i64 2, .int .i64 r, .int .i64 b, .int .i64 i, .int .i64 s, .int .i64 d, .int .i64 m], .int .i64 z] w fun e w' => e = .returned (.bool false) ∧ Below w.heap.size w w' := by
  go_enter Tryz.func25, Tryz.ntmps25
  go_wp2
  go_ret
  exact ⟨rfl, (Below.refl _ _).alloc (Nat.le_refl _) _⟩
set_option maxRecDepth 100000 in
set_option maxHeartbeats 1000000 in
theorem m2 (r b i s d m z : Int) (w : World) (h1 : r = 0) (h2 : m ≠ 0) :
    Calls Tryz.prog 25 #[.agg #[.int .i64 2, .int .i64 r, .int .i64 b, .int .i64 i, .int .i64 s, .int .i64 d, .int .i64 m], .int .i64 z] w fun e w' => e = .returned (.bool false) ∧ Below w.heap.size w w' := by
  subst h1
  go_enter Tryz.func25, Tryz.ntmps25
  go_wp2
  go_ret
  exact ⟨rfl, (Below.refl _ _).alloc (Nat.le_refl _) _⟩
set_option maxRecDepth 100000 in
set_option maxHeartbeats 1000000 in
theorem m3 (r b i s d m z : Int) (w : World) (h1 : r = 0) (h2 : m = 0) (h3 : b < -1 ∨ 16 < b) :
    Calls Tryz.prog 25 #[.agg #[.int .i64 2, .int .i64 r, .int .i64 b, .int .i64 i, .int .i64 s, .int .i64 d, .int .i64 m], .int .i64 z] w fun e w' => e = .returned (.bool false) ∧ Below w.heap.size w w' := by
  subst h1 h2
  have CB := Lib.hid (fun w => inNo b (-1) 16 w h3)
  clear h3
  go_enter Tryz.func25, Tryz.ntmps25
  go_wp2_with ((go_at_call 22; (with_reducible refine Calls.mono (CB.out _) ?_); rintro e w' ⟨rfl, rfl⟩))
  go_ret
  exact ⟨rfl, (Below.refl _ _).alloc (Nat.le_refl _) _⟩
set_option maxRecDepth 100000 in
set_option maxHeartbeats 1000000 in
theorem m4 (r b i s d m z : Int) (w : World) (h1 : r = 0) (h2 : m = 0) (h3 : -1 ≤ b) (h3' : b ≤ 16) (h4 : i < -1 ∨ 15 < i) :
    Calls Tryz.prog 25 #[.agg #[.int .i64 2, .int .i64 r, .int .i64 b, .int .i64 i, .int .i64 s, .int .i64 d, .int .i64 m], .int .i64 z] w fun e w' => e = .returned (.bool false) ∧ Below w.heap.size w w' := by
  subst h1 h2
  have CB := Lib.hid (fun w => inYes b (-1) 16 w h3 h3')
  have CI := Lib.hid (fun w => inNo i (-1) 15 w h4)
  clear h3 h3' h4
  go_enter Tryz.func25, Tryz.ntmps25
  go_wp2_with (first | (go_at_call 22; (with_reducible refine Calls.mono (CB.out _) ?_); rintro e w' ⟨rfl, rfl⟩) | (go_at_call 22; (with_reducible refine Calls.mono (CI.out _) ?_); rintro e w' ⟨rfl, rfl⟩))
  go_ret
  exact ⟨rfl, (Below.refl _ _).alloc (Nat.le_refl _) _⟩
set_option maxRecDepth 100000 in
set_option maxHeartbeats 1000000 in
theorem m5 (r b s d m z : Int) (w : World) (h1 : r = 0) (h2 : m = 0) (h3 : -1 ≤ b) (h3' : b ≤ 16) :
    Calls Tryz.prog 25 #[.agg #[.int .i64 2, .int .i64 r, .int .i64 b, .int .i64 4, .int .i64 s, .int .i64 d, .int .i64 m], .int .i64 z] w fun e w' => e = .returned (.bool false) ∧ Below w.heap.size w w' := by
  subst h1 h2
  have CB := Lib.hid (fun w => inYes b (-1) 16 w h3 h3')
  have CI := Lib.hid (fun w => inYes 4 (-1) 15 w (by decide) (by decide))
  clear h3 h3'
  go_enter Tryz.func25, Tryz.ntmps25
  go_wp2_with (first | (go_at_call 22; (with_reducible refine Calls.mono (CB.out _) ?_); rintro e w' ⟨rfl, rfl⟩) | (go_at_call 22; (with_reducible refine Calls.mono (CI.out _) ?_); rintro e w' ⟨rfl, rfl⟩))
  go_ret
  exact ⟨rfl, (Below.refl _ _).alloc (Nat.le_refl _) _⟩
set_option maxRecDepth 100000 in
set_option maxHeartbeats 1000000 in
theorem m6 (r b i s d m z : Int) (w : World) (h1 : r = 0) (h2 : m = 0) (h3 : -1 ≤ b) (h3' : b ≤ 16) (h4 : -1 ≤ i) (h4' : i ≤ 15) (h5 : i ≠ 4) (h6 : ¬ okSize s) :
    Calls Tryz.prog 25 #[.agg #[.int .i64 2, .int .i64 r, .int .i64 b, .int .i64 i, .int .i64 s, .int .i64 d, .int .i64 m], .int .i64 z] w fun e w' => e = .returned (.bool false) ∧ Below w.heap.size w w' := by
  subst h1 h2
  have CB := Lib.hid (fun w => inYes b (-1) 16 w h3 h3')
  have CI := Lib.hid (fun w => inYes i (-1) 15 w h4 h4')
  have d5 : (i == 4) = false := beq_eq_false_iff_ne.mpr h5
  have CZ := Lib.hid (fun w => sizeNo s w h6)
  clear h3 h3' h4 h4' h5 h6
  go_enter Tryz.func25, Tryz.ntmps25
  go_wp2_with (first | (go_at_call 22; (with_reducible refine Calls.mono (CB.out _) ?_); rintro e w' ⟨rfl, rfl⟩) | (go_at_call 22; (with_reducible refine Calls.mono (CI.out _) ?_); rintro e w' ⟨rfl, rfl⟩) | (go_at_call 42; (with_reducible refine Calls.mono (CZ.out _) ?_); rintro e w' ⟨rfl, rfl⟩))
  go_ret
  exact ⟨rfl, (Below.refl _ _).alloc (Nat.le_refl _) _⟩
set_option maxRecDepth 100000 in
set_option maxHeartbeats 1000000 in
theorem m7 (r b i s d m z : Int) (w : World) (h1 : r = 0) (h2 : m = 0) (h3 : -1 ≤ b) (h3' : b ≤ 16) (h4 : -1 ≤ i) (h4' : i ≤ 15) (h5 : i ≠ 4) (h6 : okSize s) (h7 : d < -2147483648 ∨ 2147483647 < d) :
    Calls Tryz.prog 25 #[.agg #[.int .i64 2, .int .i64 r, .int .i64 b, .int .i64 i, .int .i64 s, .int .i64 d, .int .i64 m], .int .i64 z] w fun e w' => e = .returned (.bool false) ∧ Below w.heap.size w w' := by
  subst h1 h2
  have CB := Lib.hid (fun w => inYes b (-1) 16 w h3 h3')
  have CI := Lib.hid (fun w => inYes i (-1) 15 w h4 h4')
  have d5 : (i == 4) = false := beq_eq_false_iff_ne.mpr h5
  have CZ := Lib.hid (fun w => sizeYes s w h6)
  have CD := Lib.hid (fun w => inNo d (-2147483648) 2147483647 w h7)
  clear h3 h3' h4 h4' h5 h6 h7
  go_enter Tryz.func25, Tryz.ntmps25
  go_wp2_with (first | (go_at_call 22; (with_reducible refine Calls.mono (CB.out _) ?_); rintro e w' ⟨rfl, rfl⟩) | (go_at_call 22; (with_reducible refine Calls.mono (CI.out _) ?_); rintro e w' ⟨rfl, rfl⟩) | (go_at_call 42; (with_reducible refine Calls.mono (CZ.out _) ?_); rintro e w' ⟨rfl, rfl⟩) | (go_at_call 22; (with_reducible refine Calls.mono (CD.out _) ?_); rintro e w' ⟨rfl, rfl⟩))
  go_ret
  exact ⟨rfl, (Below.refl _ _).alloc (Nat.le_refl _) _⟩
set_option maxRecDepth 100000 in
set_option maxHeartbeats 1000000 in
theorem m8 (r b i s d m z : Int) (w : World) (h1 : r = 0) (h2 : m = 0) (h3 : -1 ≤ b) (h3' : b ≤ 16) (h4 : -1 ≤ i) (h4' : i ≤ 15) (h5 : i ≠ 4) (h6 : okSize s) (h7 : -2147483648 ≤ d) (h7' : d ≤ 2147483647) (h8 : 0 ≤ i) (h9 : b ≠ 16) :
    Calls Tryz.prog 25 #[.agg #[.int .i64 2, .int .i64 r, .int .i64 b, .int .i64 i, .int .i64 s, .int .i64 d, .int .i64 m], .int .i64 z] w fun e w' => e = .returned (.bool true) ∧ Below w.heap.size w w' := by
  have d8 := decide_eq_true h8
  have d9 : (b != 16) = true := bne_iff_ne.mpr h9
  clear h8 h9
  subst h1 h2
  have CB := Lib.hid (fun w => inYes b (-1) 16 w h3 h3')
  have CI := Lib.hid (fun w => inYes i (-1) 15 w h4 h4')
  have d5 : (i == 4) = false := beq_eq_false_iff_ne.mpr h5
  have CZ := Lib.hid (fun w => sizeYes s w h6)
  have CD := Lib.hid (fun w => inYes d (-2147483648) 2147483647 w h7 h7')
  clear h3 h3' h4 h4' h5 h6 h7 h7'
  go_enter Tryz.func25, Tryz.ntmps25
  go_wp2_with (first | (go_at_call 22; (with_reducible refine Calls.mono (CB.out _) ?_); rintro e w' ⟨rfl, rfl⟩) | (go_at_call 22; (with_reducible refine Calls.mono (CI.out _) ?_); rintro e w' ⟨rfl, rfl⟩) | (go_at_call 42; (with_reducible refine Calls.mono (CZ.out _) ?_); rintro e w' ⟨rfl, rfl⟩) | (go_at_call 22; (with_reducible refine Calls.mono (CD.out _) ?_); rintro e w' ⟨rfl, rfl⟩))
  go_ret
  exact ⟨rfl, (Below.refl _ _).alloc (Nat.le_refl _) _⟩
set_option maxRecDepth 100000 in
set_option maxHeartbeats 1000000 in
theorem m9 (r i s d m z : Int) (w : World) (h1 : r = 0) (h2 : m = 0)  (h4 : -1 ≤ i) (h4' : i ≤ 15) (h5 : i ≠ 4) (h6 : okSize s) (h7 : -2147483648 ≤ d) (h7' : d ≤ 2147483647) (h8 : 0 ≤ i) :
    Calls Tryz.prog 25 #[.agg #[.int .i64 2, .int .i64 r, .int .i64 16, .int .i64 i, .int .i64 s, .int .i64 d, .int .i64 m], .int .i64 z] w fun e w' => e = .returned (.bool false) ∧ Below w.heap.size w w' := by
  have h3 : (-1 : Int) ≤ 16 := by decide
  have h3' : (16 : Int) ≤ 16 := by decide
  have d8 := decide_eq_true h8
  have d8' := decide_eq_false (show ¬ i < 0 by omega)
  clear h8
  subst h1 h2
  have CB := Lib.hid (fun w => inYes 16 (-1) 16 w h3 h3')
  have CI := Lib.hid (fun w => inYes i (-1) 15 w h4 h4')
  have d5 : (i == 4) = false := beq_eq_false_iff_ne.mpr h5
  have CZ := Lib.hid (fun w => sizeYes s w h6)
  have CD := Lib.hid (fun w => inYes d (-2147483648) 2147483647 w h7 h7')
  clear h3 h3' h4 h4' h5 h6 h7 h7'
  go_enter Tryz.func25, Tryz.ntmps25
  go_wp2_with (first | (go_at_call 22; (with_reducible refine Calls.mono (CB.out _) ?_); rintro e w' ⟨rfl, rfl⟩) | (go_at_call 22; (with_reducible refine Calls.mono (CI.out _) ?_); rintro e w' ⟨rfl, rfl⟩) | (go_at_call 42; (with_reducible refine Calls.mono (CZ.out _) ?_); rintro e w' ⟨rfl, rfl⟩) | (go_at_call 22; (with_reducible refine Calls.mono (CD.out _) ?_); rintro e w' ⟨rfl, rfl⟩))
  go_ret
  exact ⟨rfl, (Below.refl _ _).alloc (Nat.le_refl _) _⟩
set_option maxRecDepth 100000 in
set_option maxHeartbeats 1000000 in
theorem m10 (r b i s d m z : Int) (w : World) (h1 : r = 0) (h2 : m = 0) (h3 : -1 ≤ b) (h3' : b ≤ 16) (h4 : -1 ≤ i) (h4' : i ≤ 15) (h5 : i ≠ 4) (h6 : okSize s) (h7 : -2147483648 ≤ d) (h7' : d ≤ 2147483647) (h8 : i < 0) (h9 : s = 1) (h10 : b ≠ 16) :
    Calls Tryz.prog 25 #[.agg #[.int .i64 2, .int .i64 r, .int .i64 b, .int .i64 i, .int .i64 s, .int .i64 d, .int .i64 m], .int .i64 z] w fun e w' => e = .returned (.bool true) ∧ Below w.heap.size w w' := by
  have d8 := decide_eq_false (show ¬ 0 ≤ i by omega)
  have d9 : (b != 16) = true := bne_iff_ne.mpr h10
  clear h10 h8
  have d10 : (s == 1) = true := beq_iff_eq.mpr h9
  clear h9
  subst h1 h2
  have CB := Lib.hid (fun w => inYes b (-1) 16 w h3 h3')
  have CI := Lib.hid (fun w => inYes i (-1) 15 w h4 h4')
  have d5 : (i == 4) = false := beq_eq_false_iff_ne.mpr h5
  have CZ := Lib.hid (fun w => sizeYes s w h6)
  have CD := Lib.hid (fun w => inYes d (-2147483648) 2147483647 w h7 h7')
  clear h3 h3' h4 h4' h5 h6 h7 h7'
  go_enter Tryz.func25, Tryz.ntmps25
  go_wp2_with (first | (go_at_call 22; (with_reducible refine Calls.mono (CB.out _) ?_); rintro e w' ⟨rfl, rfl⟩) | (go_at_call 22; (with_reducible refine Calls.mono (CI.out _) ?_); rintro e w' ⟨rfl, rfl⟩) | (go_at_call 42; (with_reducible refine Calls.mono (CZ.out _) ?_); rintro e w' ⟨rfl, rfl⟩) | (go_at_call 22; (with_reducible refine Calls.mono (CD.out _) ?_); rintro e w' ⟨rfl, rfl⟩))
  go_ret
  exact ⟨rfl, (Below.refl _ _).alloc (Nat.le_refl _) _⟩
set_option maxRecDepth 100000 in
set_option maxHeartbeats 1000000 in
theorem m11 (r b i s d m z : Int) (w : World) (h1 : r = 0) (h2 : m = 0) (h3 : -1 ≤ b) (h3' : b ≤ 16) (h4 : -1 ≤ i) (h4' : i ≤ 15) (h5 : i ≠ 4) (h6 : okSize s) (h7 : -2147483648 ≤ d) (h7' : d ≤ 2147483647) (h8 : i < 0) (h9 : s = 1) (h10 : b = 16) :
    Calls Tryz.prog 25 #[.agg #[.int .i64 2, .int .i64 r, .int .i64 b, .int .i64 i, .int .i64 s, .int .i64 d, .int .i64 m], .int .i64 z] w fun e w' => e = .returned (.bool true) ∧ Below w.heap.size w w' := by
  have d8 := decide_eq_false (show ¬ 0 ≤ i by omega)
  have d8' := decide_eq_true h8
  have d9 : (b != 16) = false := by rw [h10]; rfl
  clear h10 h8
  have d10 : (s == 1) = true := beq_iff_eq.mpr h9
  clear h9
  subst h1 h2
  have CB := Lib.hid (fun w => inYes b (-1) 16 w h3 h3')
  have CI := Lib.hid (fun w => inYes i (-1) 15 w h4 h4')
  have d5 : (i == 4) = false := beq_eq_false_iff_ne.mpr h5
  have CZ := Lib.hid (fun w => sizeYes s w h6)
  have CD := Lib.hid (fun w => inYes d (-2147483648) 2147483647 w h7 h7')
  clear h3 h3' h4 h4' h5 h6 h7 h7'
  go_enter Tryz.func25, Tryz.ntmps25
  go_wp2_with (first | (go_at_call 22; (with_reducible refine Calls.mono (CB.out _) ?_); rintro e w' ⟨rfl, rfl⟩) | (go_at_call 22; (with_reducible refine Calls.mono (CI.out _) ?_); rintro e w' ⟨rfl, rfl⟩) | (go_at_call 42; (with_reducible refine Calls.mono (CZ.out _) ?_); rintro e w' ⟨rfl, rfl⟩) | (go_at_call 22; (with_reducible refine Calls.mono (CD.out _) ?_); rintro e w' ⟨rfl, rfl⟩))
  go_ret
  exact ⟨rfl, (Below.refl _ _).alloc (Nat.le_refl _) _⟩
set_option maxRecDepth 100000 in
set_option maxHeartbeats 1000000 in
theorem m12 (r b i s d m z : Int) (w : World) (h1 : r = 0) (h2 : m = 0) (h3 : -1 ≤ b) (h3' : b ≤ 16) (h4 : -1 ≤ i) (h4' : i ≤ 15) (h5 : i ≠ 4) (h6 : okSize s) (h7 : -2147483648 ≤ d) (h7' : d ≤ 2147483647) (h8 : i < 0) (h9 : s ≠ 1) :
    Calls Tryz.prog 25 #[.agg #[.int .i64 2, .int .i64 r, .int .i64 b, .int .i64 i, .int .i64 s, .int .i64 d, .int .i64 m], .int .i64 z] w fun e w' => e = .returned (.bool false) ∧ Below w.heap.size w w' := by
  have d8 := decide_eq_false (show ¬ 0 ≤ i by omega)
  have d10 : (s == 1) = false := beq_eq_false_iff_ne.mpr h9
  clear h9 h8
  subst h1 h2
  have CB := Lib.hid (fun w => inYes b (-1) 16 w h3 h3')
  have CI := Lib.hid (fun w => inYes i (-1) 15 w h4 h4')
  have d5 : (i == 4) = false := beq_eq_false_iff_ne.mpr h5
  have CZ := Lib.hid (fun w => sizeYes s w h6)
  have CD := Lib.hid (fun w => inYes d (-2147483648) 2147483647 w h7 h7')
  clear h3 h3' h4 h4' h5 h6 h7 h7'
  go_enter Tryz.func25, Tryz.ntmps25
  go_wp2_with (first | (go_at_call 22; (with_reducible refine Calls.mono (CB.out _) ?_); rintro e w' ⟨rfl, rfl⟩) | (go_at_call 22; (with_reducible refine Calls.mono (CI.out _) ?_); rintro e w' ⟨rfl, rfl⟩) | (go_at_call 42; (with_reducible refine Calls.mono (CZ.out _) ?_); rintro e w' ⟨rfl, rfl⟩) | (go_at_call 22; (with_reducible refine Calls.mono (CD.out _) ?_); rintro e w' ⟨rfl, rfl⟩))
  go_ret
  exact ⟨rfl, (Below.refl _ _).alloc (Nat.le_refl _) _⟩
set_option maxRecDepth 100000 in
set_option maxHeartbeats 1000000 in
theorem s3 (r b i s d m z : Int) (w : World) (v : Bool) (hv : decide ((⟨3, r, b, i, s, d, m⟩ : Opd) = immOpd m) = v) :
    Calls Tryz.prog 25 #[.agg #[.int .i64 3, .int .i64 r, .int .i64 b, .int .i64 i, .int .i64 s, .int .i64 d, .int .i64 m], .int .i64 z] w fun e w' => e = .returned (.bool v) ∧ Below w.heap.size w w' := by
  have E := eql_at ⟨3, r, b, i, s, d, m⟩ ⟨3, 0, 0, 0, 0, 0, m⟩ v hv
  clear hv
  go_enter Tryz.func25, Tryz.ntmps25
  go_wp2
  go_ret
  exact ⟨rfl, (Below.refl _ _).alloc (Nat.le_refl _) _⟩
set_option maxRecDepth 100000 in
set_option maxHeartbeats 1000000 in
theorem s0 (k r b i s d m z : Int) (w : World) (h1 : k ≠ 1) (h2 : k ≠ 2) (h3 : k ≠ 3) (v : Bool) (hv : decide ((⟨k, r, b, i, s, d, m⟩ : Opd) = noOpd) = v) :
    Calls Tryz.prog 25 #[.agg #[.int .i64 k, .int .i64 r, .int .i64 b, .int .i64 i, .int .i64 s, .int .i64 d, .int .i64 m], .int .i64 z] w fun e w' => e = .returned (.bool v) ∧ Below w.heap.size w w' := by
  have E := eql_at ⟨k, r, b, i, s, d, m⟩ ⟨0, 0, 0, 0, 0, 0, 0⟩ v hv
  clear hv
  have d1 : (k == 1) = false := beq_eq_false_iff_ne.mpr h1
  have d2 : (k == 2) = false := beq_eq_false_iff_ne.mpr h2
  have d3 : (k == 3) = false := beq_eq_false_iff_ne.mpr h3
  clear h1 h2 h3
  go_enter Tryz.func25, Tryz.ntmps25
  go_wp2
  go_ret
  exact ⟨rfl, (Below.refl _ _).alloc (Nat.le_refl _) _⟩
theorem memDecS (x : Opd) (z : Int) (w : World) (hk : x.k = 2) : Calls Tryz.prog 25 #[V7 x, .int .i64 z] w fun e w' => e = .returned (.bool (decide (MemOk' x))) ∧ Below w.heap.size w w' := by
  obtain ⟨k, r, b, i, s, d, m⟩ := x
  subst hk
  unfold V7
  simp only
  by_cases h1 : r = 0
  · by_cases h2 : m = 0
    · by_cases h3 : b < -1 ∨ 16 < b
      · rw [← memDec (b := false) (by unfold MemOk'; simp; omega)]; exact m3 _ _ _ _ _ _ _ w h1 h2 h3
      · by_cases h4 : i < -1 ∨ 15 < i
        · rw [← memDec (b := false) (by unfold MemOk'; simp; omega)]; exact m4 _ _ _ _ _ _ _ w h1 h2 (by omega) (by omega) h4
        · by_cases h5 : i = 4
          · rw [← memDec (b := false) (by unfold MemOk'; simp; omega)]; subst h5; exact m5 _ _ _ _ _ _ w h1 h2 (by omega) (by omega)
          · by_cases h6 : okSize s
            · by_cases h7 : d < -2147483648 ∨ 2147483647 < d
              · rw [← memDec (b := false) (by unfold MemOk'; simp; omega)]; exact m7 _ _ _ _ _ _ _ w h1 h2 (by omega) (by omega) (by omega) (by omega) h5 h6 h7
              · have h6' := h6
                unfold okSize at h6'
                by_cases h8 : 0 ≤ i
                · by_cases h9 : b = 16
                  · rw [← memDec (b := false) (by unfold MemOk'; simp; omega)]; subst h9; exact m9 _ _ _ _ _ _ w h1 h2 (by omega) (by omega) h5 h6 (by omega) (by omega) h8
                  · rw [← memDec (b := true) (by unfold MemOk'; simp; omega)]; exact m8 _ _ _ _ _ _ _ w h1 h2 (by omega) (by omega) (by omega) (by omega) h5 h6 (by omega) (by omega) h8 h9
                · by_cases h9 : s = 1
                  · by_cases h10 : b = 16
                    · rw [← memDec (b := true) (by unfold MemOk'; simp; omega)]; exact m11 _ _ _ _ _ _ _ w h1 h2 (by omega) (by omega) (by omega) (by omega) h5 h6 (by omega) (by omega) (by omega) h9 h10
                    · rw [← memDec (b := true) (by unfold MemOk'; simp; omega)]; exact m10 _ _ _ _ _ _ _ w h1 h2 (by omega) (by omega) (by omega) (by omega) h5 h6 (by omega) (by omega) (by omega) h9 h10
                  · rw [← memDec (b := false) (by unfold MemOk'; simp; omega)]; exact m12 _ _ _ _ _ _ _ w h1 h2 (by omega) (by omega) (by omega) (by omega) h5 h6 (by omega) (by omega) (by omega) h9
            · rw [← memDec (b := false) (by unfold MemOk'; unfold okSize at h6; simp; omega)]; exact m6 _ _ _ _ _ _ _ w h1 h2 (by omega) (by omega) (by omega) (by omega) h5 h6
    · rw [← memDec (b := false) (by unfold MemOk'; simp; omega)]; exact m2 _ _ _ _ _ _ _ w h1 h2
  · rw [← memDec (b := false) (by unfold MemOk'; simp; omega)]; exact m1 _ _ _ _ _ _ _ w h1
/-- what an operand of a size may be, but for the size itself -/
def kindB (x : Opd) (z : Int) : Bool := decide (if x.k = 1 then x = regOpd x.r ∧ 0 ≤ x.r ∧ x.r ≤ topReg z else if x.k = 2 then MemOk' x else if x.k = 3 then x = immOpd x.m else x = noOpd)
theorem kindS (x : Opd) (z : Int) (w : World) : Calls Tryz.prog 25 #[V7 x, .int .i64 z] w fun e w' => e = .returned (.bool (kindB x z)) ∧ Below w.heap.size w w' := by
  unfold kindB
  by_cases h1 : x.k = 1
  · simp only [if_pos h1]
    obtain ⟨k, r, b, i, s, d, m⟩ := x
    subst h1
    by_cases h : r < 0 ∨ topReg z < r
    · rw [decide_eq_false (by simp only; omega)]; exact s1no _ _ _ _ _ _ _ _ w rfl h
    · refine Calls.mono (s1yes r b i s d m z _ w rfl (by omega) (by omega) _ rfl) fun e w' ⟨he, hb⟩ => ⟨?_, hb⟩
      rw [he]
      refine ret_bo (decide_eq_decide.mpr ⟨fun h' => ⟨h', by simp only; omega⟩, fun h' => h'.1⟩)
  · by_cases h2 : x.k = 2
    · simp only [if_neg h1, if_pos h2]; exact memDecS x z w h2
    · by_cases h3 : x.k = 3
      · simp only [if_neg h1, if_neg h2, if_pos h3]
        obtain ⟨k, r, b, i, s, d, m⟩ := x
        subst h3
        exact s3 r b i s d m z w _ rfl
      · simp only [if_neg h1, if_neg h2, if_neg h3]
        exact s0 x.k x.r x.b x.i x.s x.d x.m z w h1 h2 h3 _ rfl
theorem opdB_no {x : Opd} {z : Int} (h : ¬ okSize z) : opdB x z = false := by unfold opdB; exact decide_eq_false fun h' => h h'.1
theorem opdB_yes {x : Opd} {z : Int} (h : okSize z) : opdB x z = kindB x z := by unfold opdB kindB; exact decide_eq_decide.mpr ⟨fun h' => h'.2, fun h' => ⟨h, h'⟩⟩
end Go.Proofs.YtjnjlgaemmdkhaaGreatDoor
