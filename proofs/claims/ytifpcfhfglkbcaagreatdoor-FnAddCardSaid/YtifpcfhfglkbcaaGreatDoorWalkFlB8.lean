/-
  The tables of steps of impl/l06_flags.go for numbers of 8 bits, and what alu and one answer; conditions: those in each head.
-/
import Derived.Test.YtifpcfhfglkbcaaGreatDoorWalkFlA
import Derived.Great.Walk
namespace Go.Proofs.YtifpcfhfglkbcaaGreatDoor
open Go.RowKit
set_option linter.unusedVariables false
set_option linter.unusedSimpArgs false
theorem szp_eq {w X : Nat} {h x : Int} (hh : h = ((2 ^ (w - 1) : Nat) : Int)) (hx : x = (X : Int)) : flV false (parN x.toNat) (x == 0) (decide (h ≤ x)) false = szp w X := by
  subst hh hx
  unfold szp
  have e : ((X : Int) == 0) = (X == 0) := by
    by_cases h : X = 0
    · subst h; rfl
    · rw [beq_eq_false_iff_ne.mpr h, beq_eq_false_iff_ne.mpr (by omega)]
  rw [e, decide_eq_decide.mpr Int.ofNat_le]
  rfl
theorem ret_3 {a b c d : Int} (h : a = b) : Ending.returned (.tuple #[.int .i64 a, .int .i64 c, .int .i64 d]) = .returned (.tuple #[.int .i64 b, .int .i64 c, .int .i64 d]) := by rw [h]
set_option maxHeartbeats 400000 in
theorem isOpYes (op : Int) (w : World) (h1 : 1 ≤ op) (h2 : op ≤ 44) : Calls Tryz.prog 60 #[.int .i64 op] w fun e w' => e = .returned (.bool true) ∧ w = w' := by
  go_enter Tryz.func60, Tryz.ntmps60
  go_wp2
  go_ret
  exact ⟨rfl, rfl⟩
set_option maxHeartbeats 400000 in
theorem isOpNo (op : Int) (w : World) (h : ¬ (1 ≤ op ∧ op ≤ 44)) : Calls Tryz.prog 60 #[.int .i64 op] w fun e w' => e = .returned (.bool false) ∧ w = w' := by
  by_cases h1 : 1 ≤ op
  · have h2 : decide (op ≤ 44) = false := decide_eq_false (by omega)
    clear h
    go_enter Tryz.func60, Tryz.ntmps60
    go_wp2
    go_ret
    exact ⟨rfl, rfl⟩
  · have h2 : decide (1 ≤ op) = false := decide_eq_false h1
    clear h h1
    go_enter Tryz.func60, Tryz.ntmps60
    go_wp2
    go_ret
    exact ⟨rfl, rfl⟩
set_option maxHeartbeats 400000 in
theorem add_u8 (A B : Nat) (f : Int) (hA : A < 2 ^ 8) (hB : B < 2 ^ 8) (w : World) : Calls Tryz.prog 52 #[.int .u8 (A : Int), .int .u8 (B : Int), .int .i64 f] w fun e w' => e = .returned (.tuple #[.int .u8 ((sumN 8 A B 0 : Nat) : Int), .int .i64 (sumF 8 A B 0)]) ∧ w = w' := by
  have CP := Lib.hid (show ∀ w, Calls Tryz.prog 123 #[.int .u8 (A : Int), .int .u8 (B : Int), .int .u8 0] w fun e w' => e = .returned (.tuple #[.int .u8 ((sumN 8 A B 0 : Nat) : Int), .int .i64 (sumF 8 A B 0)]) ∧ w = w' from fun w => plus_u8 A B 0 hA hB (by decide) w)
  clear hA hB
  go_enter Tryz.func52, Tryz.ntmps52
  go_wp2_with fail
  refine (CP.out _).mono ?_
  rintro e w1 ⟨rfl, rfl⟩
  go_wp2
  go_ret2
  exact ⟨rfl, rfl⟩
set_option maxHeartbeats 400000 in
theorem addCarry0_u8 (A B : Nat) (f : Int) (hA : A < 2 ^ 8) (hB : B < 2 ^ 8) (hf : bits .and .i64 f 1 = 0) (w : World) : Calls Tryz.prog 53 #[.int .u8 (A : Int), .int .u8 (B : Int), .int .i64 f] w fun e w' => e = .returned (.tuple #[.int .u8 ((sumN 8 A B 0 : Nat) : Int), .int .i64 (sumF 8 A B 0)]) ∧ w = w' := by
  have CP := Lib.hid (show ∀ w, Calls Tryz.prog 123 #[.int .u8 (A : Int), .int .u8 (B : Int), .int .u8 0] w fun e w' => e = .returned (.tuple #[.int .u8 ((sumN 8 A B 0 : Nat) : Int), .int .i64 (sumF 8 A B 0)]) ∧ w = w' from fun w => plus_u8 A B 0 hA hB (by decide) w)
  clear hA hB
  go_enter Tryz.func53, Tryz.ntmps53
  go_wp2_with fail
  refine (CP.out _).mono ?_
  rintro e w1 ⟨rfl, rfl⟩
  go_wp2
  go_ret2
  exact ⟨rfl, rfl⟩
set_option maxHeartbeats 400000 in
theorem addCarry1_u8 (A B : Nat) (f : Int) (hA : A < 2 ^ 8) (hB : B < 2 ^ 8) (hf : bits .and .i64 f 1 = 1) (w : World) : Calls Tryz.prog 53 #[.int .u8 (A : Int), .int .u8 (B : Int), .int .i64 f] w fun e w' => e = .returned (.tuple #[.int .u8 ((sumN 8 A B 1 : Nat) : Int), .int .i64 (sumF 8 A B 1)]) ∧ w = w' := by
  have CP := Lib.hid (show ∀ w, Calls Tryz.prog 123 #[.int .u8 (A : Int), .int .u8 (B : Int), .int .u8 1] w fun e w' => e = .returned (.tuple #[.int .u8 ((sumN 8 A B 1 : Nat) : Int), .int .i64 (sumF 8 A B 1)]) ∧ w = w' from fun w => plus_u8 A B 1 hA hB (by decide) w)
  clear hA hB
  go_enter Tryz.func53, Tryz.ntmps53
  go_wp2_with fail
  refine (CP.out _).mono ?_
  rintro e w1 ⟨rfl, rfl⟩
  go_wp2
  go_ret2
  exact ⟨rfl, rfl⟩
set_option maxHeartbeats 400000 in
theorem subtract_u8 (A B : Nat) (f : Int) (hA : A < 2 ^ 8) (hB : B < 2 ^ 8) (w : World) : Calls Tryz.prog 54 #[.int .u8 (A : Int), .int .u8 (B : Int), .int .i64 f] w fun e w' => e = .returned (.tuple #[.int .u8 ((difN 8 A B 0 : Nat) : Int), .int .i64 (difF 8 A B 0)]) ∧ w = w' := by
  have CP := Lib.hid (show ∀ w, Calls Tryz.prog 124 #[.int .u8 (A : Int), .int .u8 (B : Int), .int .u8 0] w fun e w' => e = .returned (.tuple #[.int .u8 ((difN 8 A B 0 : Nat) : Int), .int .i64 (difF 8 A B 0)]) ∧ w = w' from fun w => minus_u8 A B 0 hA hB (by decide) w)
  clear hA hB
  go_enter Tryz.func54, Tryz.ntmps54
  go_wp2_with fail
  refine (CP.out _).mono ?_
  rintro e w1 ⟨rfl, rfl⟩
  go_wp2
  go_ret2
  exact ⟨rfl, rfl⟩
set_option maxHeartbeats 400000 in
theorem subtractCarry0_u8 (A B : Nat) (f : Int) (hA : A < 2 ^ 8) (hB : B < 2 ^ 8) (hf : bits .and .i64 f 1 = 0) (w : World) : Calls Tryz.prog 55 #[.int .u8 (A : Int), .int .u8 (B : Int), .int .i64 f] w fun e w' => e = .returned (.tuple #[.int .u8 ((difN 8 A B 0 : Nat) : Int), .int .i64 (difF 8 A B 0)]) ∧ w = w' := by
  have CP := Lib.hid (show ∀ w, Calls Tryz.prog 124 #[.int .u8 (A : Int), .int .u8 (B : Int), .int .u8 0] w fun e w' => e = .returned (.tuple #[.int .u8 ((difN 8 A B 0 : Nat) : Int), .int .i64 (difF 8 A B 0)]) ∧ w = w' from fun w => minus_u8 A B 0 hA hB (by decide) w)
  clear hA hB
  go_enter Tryz.func55, Tryz.ntmps55
  go_wp2_with fail
  refine (CP.out _).mono ?_
  rintro e w1 ⟨rfl, rfl⟩
  go_wp2
  go_ret2
  exact ⟨rfl, rfl⟩
set_option maxHeartbeats 400000 in
theorem subtractCarry1_u8 (A B : Nat) (f : Int) (hA : A < 2 ^ 8) (hB : B < 2 ^ 8) (hf : bits .and .i64 f 1 = 1) (w : World) : Calls Tryz.prog 55 #[.int .u8 (A : Int), .int .u8 (B : Int), .int .i64 f] w fun e w' => e = .returned (.tuple #[.int .u8 ((difN 8 A B 1 : Nat) : Int), .int .i64 (difF 8 A B 1)]) ∧ w = w' := by
  have CP := Lib.hid (show ∀ w, Calls Tryz.prog 124 #[.int .u8 (A : Int), .int .u8 (B : Int), .int .u8 1] w fun e w' => e = .returned (.tuple #[.int .u8 ((difN 8 A B 1 : Nat) : Int), .int .i64 (difF 8 A B 1)]) ∧ w = w' from fun w => minus_u8 A B 1 hA hB (by decide) w)
  clear hA hB
  go_enter Tryz.func55, Tryz.ntmps55
  go_wp2_with fail
  refine (CP.out _).mono ?_
  rintro e w1 ⟨rfl, rfl⟩
  go_wp2
  go_ret2
  exact ⟨rfl, rfl⟩
set_option maxHeartbeats 400000 in
theorem bitsOr_u8 (A B : Nat) (f : Int) (hA : A < 2 ^ 8) (hB : B < 2 ^ 8) (w : World) : Calls Tryz.prog 56 #[.int .u8 (A : Int), .int .u8 (B : Int), .int .i64 f] w fun e w' => e = .returned (.tuple #[.int .u8 ((A ||| B : Nat) : Int), .int .i64 (szp 8 (A ||| B))]) ∧ w = w' := by
  have HV := Lib.hid (bOr (k := .u8) rfl hA hB)
  have CF := Lib.hid (fun w => flagsOf_u8 (bits .or .u8 (A : Int) (B : Int)) (by rw [HV.out]; omega) (by have := Nat.or_lt_two_pow hA hB; rw [HV.out]; omega) w)
  clear hA hB
  go_enter Tryz.func56, Tryz.ntmps56
  go_wp2_with fail
  refine (CF.out _).mono ?_
  rintro e w1 ⟨rfl, rfl⟩
  go_wp2
  go_ret2
  exact ⟨ret_kt HV.out (szp_eq (w := 8) (by decide +kernel) HV.out), rfl⟩
set_option maxHeartbeats 400000 in
theorem bitsAnd_u8 (A B : Nat) (f : Int) (hA : A < 2 ^ 8) (hB : B < 2 ^ 8) (w : World) : Calls Tryz.prog 57 #[.int .u8 (A : Int), .int .u8 (B : Int), .int .i64 f] w fun e w' => e = .returned (.tuple #[.int .u8 ((A &&& B : Nat) : Int), .int .i64 (szp 8 (A &&& B))]) ∧ w = w' := by
  have HV := Lib.hid (bAnd (k := .u8) rfl hA hB)
  have CF := Lib.hid (fun w => flagsOf_u8 (bits .and .u8 (A : Int) (B : Int)) (by rw [HV.out]; omega) (by have := Nat.and_lt_two_pow A hB; rw [HV.out]; omega) w)
  clear hA hB
  go_enter Tryz.func57, Tryz.ntmps57
  go_wp2_with fail
  refine (CF.out _).mono ?_
  rintro e w1 ⟨rfl, rfl⟩
  go_wp2
  go_ret2
  exact ⟨ret_kt HV.out (szp_eq (w := 8) (by decide +kernel) HV.out), rfl⟩
set_option maxHeartbeats 400000 in
theorem bitsXor_u8 (A B : Nat) (f : Int) (hA : A < 2 ^ 8) (hB : B < 2 ^ 8) (w : World) : Calls Tryz.prog 58 #[.int .u8 (A : Int), .int .u8 (B : Int), .int .i64 f] w fun e w' => e = .returned (.tuple #[.int .u8 ((A ^^^ B : Nat) : Int), .int .i64 (szp 8 (A ^^^ B))]) ∧ w = w' := by
  have HV := Lib.hid (bXor (k := .u8) rfl hA hB)
  have CF := Lib.hid (fun w => flagsOf_u8 (bits .xor .u8 (A : Int) (B : Int)) (by rw [HV.out]; omega) (by have := Nat.xor_lt_two_pow hA hB; rw [HV.out]; omega) w)
  clear hA hB
  go_enter Tryz.func58, Tryz.ntmps58
  go_wp2_with fail
  refine (CF.out _).mono ?_
  rintro e w1 ⟨rfl, rfl⟩
  go_wp2
  go_ret2
  exact ⟨ret_kt HV.out (szp_eq (w := 8) (by decide +kernel) HV.out), rfl⟩
set_option maxHeartbeats 400000 in
theorem aloneC_u8 (g : FuncId) (w : World) : Calls Tryz.prog 59 #[.func (.func g) #[] #[]] w fun e w' => e = .returned (.func (.func 125) #[] #[.pointer (some ⟨w.heap.size, 0, none⟩)]) ∧ w' = w.alloc (.cells #[.func (.func g) #[] #[]] 60) := by
  go_enter Tryz.func59, Tryz.ntmps59
  go_wp2
  go_ret
  exact ⟨rfl, rfl⟩
set_option maxHeartbeats 400000 in
theorem alone_subtract_u8 (b : Nat) (x y f v f' : Int) (w : World) (h : w.cell? ⟨b, 0, none⟩ = some (.func (.func 54) #[] #[])) (CX : Hid (∀ w, Calls Tryz.prog 54 #[.int .u8 x, .int .u8 y, .int .i64 f] w fun e w' => e = .returned (.tuple #[.int .u8 v, .int .i64 f']) ∧ w = w')) : Calls Tryz.prog 125 #[.int .u8 x, .int .u8 y, .int .i64 f, .pointer (some ⟨b, 0, none⟩)] w fun e w' => e = .returned (.tuple #[.int .u8 x, .int .i64 f']) ∧ w = w' := by
  go_enter Tryz.func125, Tryz.ntmps125
  go_wp2_with fail
  refine (CX.out _).mono ?_
  rintro e w1 ⟨rfl, rfl⟩
  go_wp2
  go_ret2
  exact ⟨rfl, rfl⟩
set_option maxHeartbeats 400000 in
theorem alone_bitsAnd_u8 (b : Nat) (x y f v f' : Int) (w : World) (h : w.cell? ⟨b, 0, none⟩ = some (.func (.func 57) #[] #[])) (CX : Hid (∀ w, Calls Tryz.prog 57 #[.int .u8 x, .int .u8 y, .int .i64 f] w fun e w' => e = .returned (.tuple #[.int .u8 v, .int .i64 f']) ∧ w = w')) : Calls Tryz.prog 125 #[.int .u8 x, .int .u8 y, .int .i64 f, .pointer (some ⟨b, 0, none⟩)] w fun e w' => e = .returned (.tuple #[.int .u8 x, .int .i64 f']) ∧ w = w' := by
  go_enter Tryz.func125, Tryz.ntmps125
  go_wp2_with fail
  refine (CX.out _).mono ?_
  rintro e w1 ⟨rfl, rfl⟩
  go_wp2
  go_ret2
  exact ⟨rfl, rfl⟩
set_option maxRecDepth 100000 in
theorem eqNo2_u8 (g : Fn) (l c : Array Value) (w : World) : (binOp .eql 60 (.func g l c) .nilFunc).run Tryz.prog w = .ok (.bool false) w := by kernel_rfl
set_option maxRecDepth 100000 in
theorem eqYes2_u8 (w : World) : (binOp .eql 60 .nilFunc .nilFunc).run Tryz.prog w = .ok (.bool true) w := by kernel_rfl
set_option maxRecDepth 100000 in
theorem eqNo1_u8 (g : Fn) (l c : Array Value) (w : World) : (binOp .eql 87 (.func g l c) .nilFunc).run Tryz.prog w = .ok (.bool false) w := by kernel_rfl
set_option maxRecDepth 100000 in
theorem eqYes1_u8 (w : World) : (binOp .eql 87 .nilFunc .nilFunc).run Tryz.prog w = .ok (.bool true) w := by kernel_rfl
def aluRow_u8 (n : Nat) : Array Value := #[.nilFunc, .func (.func 52) #[] #[], .func (.func 56) #[] #[], .func (.func 53) #[] #[], .func (.func 55) #[] #[], .func (.func 57) #[] #[], .func (.func 54) #[] #[], .func (.func 58) #[] #[], .func (.func 125) #[] #[.pointer (some ⟨n, 0, none⟩)], .nilFunc, .func (.func 125) #[] #[.pointer (some ⟨n + 1, 0, none⟩)], .nilFunc, .nilFunc, .nilFunc, .nilFunc, .nilFunc, .nilFunc, .nilFunc, .nilFunc, .nilFunc, .nilFunc, .nilFunc, .nilFunc, .nilFunc, .nilFunc, .nilFunc, .nilFunc, .nilFunc, .nilFunc, .nilFunc, .nilFunc, .nilFunc, .nilFunc, .nilFunc, .nilFunc, .nilFunc, .nilFunc, .nilFunc, .nilFunc, .nilFunc, .nilFunc, .nilFunc, .nilFunc, .nilFunc, .nilFunc]
structure AluW_u8 (w W : World) : Prop where
  row : W.heap[w.heap.size + 1 + 1]? = some (.cells (aluRow_u8 w.heap.size) 62 (0, 0))
  b1 : W.cell? ⟨w.heap.size, 0, none⟩ = some (.func (.func 54) #[] #[])
  b2 : W.cell? ⟨w.heap.size + 1, 0, none⟩ = some (.func (.func 57) #[] #[])
  be : Below w.heap.size w W
theorem aluW_u8 (w : World) : AluW_u8 w ((((w.alloc (.cells #[.func (.func 54) #[] #[]] 60)).alloc (.cells #[.func (.func 57) #[] #[]] 60)).alloc (.cells #[.nilFunc, .nilFunc, .nilFunc, .nilFunc, .nilFunc, .nilFunc, .nilFunc, .nilFunc, .nilFunc, .nilFunc, .nilFunc, .nilFunc, .nilFunc, .nilFunc, .nilFunc, .nilFunc, .nilFunc, .nilFunc, .nilFunc, .nilFunc, .nilFunc, .nilFunc, .nilFunc, .nilFunc, .nilFunc, .nilFunc, .nilFunc, .nilFunc, .nilFunc, .nilFunc, .nilFunc, .nilFunc, .nilFunc, .nilFunc, .nilFunc, .nilFunc, .nilFunc, .nilFunc, .nilFunc, .nilFunc, .nilFunc, .nilFunc, .nilFunc, .nilFunc, .nilFunc] 62)).setRow (w.heap.size + 1 + 1) #[.nilFunc, .func (.func 52) #[] #[], .func (.func 56) #[] #[], .func (.func 53) #[] #[], .func (.func 55) #[] #[], .func (.func 57) #[] #[], .func (.func 54) #[] #[], .func (.func 58) #[] #[], .func (.func 125) #[] #[.pointer (some ⟨w.heap.size, 0, none⟩)], .nilFunc, .func (.func 125) #[] #[.pointer (some ⟨w.heap.size + 1, 0, none⟩)], .nilFunc, .nilFunc, .nilFunc, .nilFunc, .nilFunc, .nilFunc, .nilFunc, .nilFunc, .nilFunc, .nilFunc, .nilFunc, .nilFunc, .nilFunc, .nilFunc, .nilFunc, .nilFunc, .nilFunc, .nilFunc, .nilFunc, .nilFunc, .nilFunc, .nilFunc, .nilFunc, .nilFunc, .nilFunc, .nilFunc, .nilFunc, .nilFunc, .nilFunc, .nilFunc, .nilFunc, .nilFunc, .nilFunc, .nilFunc]) := by
  have e2 : ((w.alloc (.cells #[.func (.func 54) #[] #[]] 60)).alloc (.cells #[.func (.func 57) #[] #[]] 60)).heap.size = w.heap.size + 1 + 1 := by simp
  have HG : (((w.alloc (.cells #[.func (.func 54) #[] #[]] 60)).alloc (.cells #[.func (.func 57) #[] #[]] 60)).alloc (.cells #[.nilFunc, .nilFunc, .nilFunc, .nilFunc, .nilFunc, .nilFunc, .nilFunc, .nilFunc, .nilFunc, .nilFunc, .nilFunc, .nilFunc, .nilFunc, .nilFunc, .nilFunc, .nilFunc, .nilFunc, .nilFunc, .nilFunc, .nilFunc, .nilFunc, .nilFunc, .nilFunc, .nilFunc, .nilFunc, .nilFunc, .nilFunc, .nilFunc, .nilFunc, .nilFunc, .nilFunc, .nilFunc, .nilFunc, .nilFunc, .nilFunc, .nilFunc, .nilFunc, .nilFunc, .nilFunc, .nilFunc, .nilFunc, .nilFunc, .nilFunc, .nilFunc, .nilFunc] 62)).heap[w.heap.size + 1 + 1]? = some (.cells #[.nilFunc, .nilFunc, .nilFunc, .nilFunc, .nilFunc, .nilFunc, .nilFunc, .nilFunc, .nilFunc, .nilFunc, .nilFunc, .nilFunc, .nilFunc, .nilFunc, .nilFunc, .nilFunc, .nilFunc, .nilFunc, .nilFunc, .nilFunc, .nilFunc, .nilFunc, .nilFunc, .nilFunc, .nilFunc, .nilFunc, .nilFunc, .nilFunc, .nilFunc, .nilFunc, .nilFunc, .nilFunc, .nilFunc, .nilFunc, .nilFunc, .nilFunc, .nilFunc, .nilFunc, .nilFunc, .nilFunc, .nilFunc, .nilFunc, .nilFunc, .nilFunc, .nilFunc] 62 (0, 0)) := by rw [← e2]; exact heap_alloc_new _ _
  refine ⟨?_, ?_, ?_, ?_⟩
  · exact setRow_heap _ _ _ _ _ _ HG
  · exact (cell_setRow_other _ _ _ _ (by simp; omega)).trans (by go_simp)
  · exact (cell_setRow_other _ _ _ _ (by simp)).trans (by go_simp)
  · exact below_setRow ((((Below.refl _ _).alloc (Nat.le_refl _) _).alloc (by simp) _).alloc (by simp; omega) _) (by omega) _
set_option maxRecDepth 100000 in
set_option maxHeartbeats 1000000 in
theorem alu1_u8 (a b f : Int) (V F : Int) (CX : Hid (∀ w, Calls Tryz.prog 52 #[.int .u8 (a % 256), .int .u8 (b % 256), .int .i64 f] w fun e w' => e = .returned (.tuple #[.int .u8 V, .int .i64 F]) ∧ w = w')) (w : World) : Calls Tryz.prog 23 #[.int .i64 1, .int .i64 a, .int .i64 b, .int .i64 f] w fun e w' => e = .returned (.tuple #[.int .i64 (wrap64 V), .int .i64 F, .int .i64 0]) ∧ Below w.heap.size w w' := by
  have CO := Lib.hid (fun w => isOpYes 1 w (by decide) (by decide))
  have CA := Lib.hid aloneC_u8
  have HG := Lib.hid (show (((w.alloc (.cells #[.func (.func 54) #[] #[]] 60)).alloc (.cells #[.func (.func 57) #[] #[]] 60)).alloc (.cells #[.nilFunc, .nilFunc, .nilFunc, .nilFunc, .nilFunc, .nilFunc, .nilFunc, .nilFunc, .nilFunc, .nilFunc, .nilFunc, .nilFunc, .nilFunc, .nilFunc, .nilFunc, .nilFunc, .nilFunc, .nilFunc, .nilFunc, .nilFunc, .nilFunc, .nilFunc, .nilFunc, .nilFunc, .nilFunc, .nilFunc, .nilFunc, .nilFunc, .nilFunc, .nilFunc, .nilFunc, .nilFunc, .nilFunc, .nilFunc, .nilFunc, .nilFunc, .nilFunc, .nilFunc, .nilFunc, .nilFunc, .nilFunc, .nilFunc, .nilFunc, .nilFunc, .nilFunc] 62)).heap[w.heap.size + 1 + 1]? = some (.cells #[.nilFunc, .nilFunc, .nilFunc, .nilFunc, .nilFunc, .nilFunc, .nilFunc, .nilFunc, .nilFunc, .nilFunc, .nilFunc, .nilFunc, .nilFunc, .nilFunc, .nilFunc, .nilFunc, .nilFunc, .nilFunc, .nilFunc, .nilFunc, .nilFunc, .nilFunc, .nilFunc, .nilFunc, .nilFunc, .nilFunc, .nilFunc, .nilFunc, .nilFunc, .nilFunc, .nilFunc, .nilFunc, .nilFunc, .nilFunc, .nilFunc, .nilFunc, .nilFunc, .nilFunc, .nilFunc, .nilFunc, .nilFunc, .nilFunc, .nilFunc, .nilFunc, .nilFunc] 62 (0, 0)) from by simpa using heap_alloc_new ((w.alloc (.cells #[.func (.func 54) #[] #[]] 60)).alloc (.cells #[.func (.func 57) #[] #[]] 60)) (.cells #[.nilFunc, .nilFunc, .nilFunc, .nilFunc, .nilFunc, .nilFunc, .nilFunc, .nilFunc, .nilFunc, .nilFunc, .nilFunc, .nilFunc, .nilFunc, .nilFunc, .nilFunc, .nilFunc, .nilFunc, .nilFunc, .nilFunc, .nilFunc, .nilFunc, .nilFunc, .nilFunc, .nilFunc, .nilFunc, .nilFunc, .nilFunc, .nilFunc, .nilFunc, .nilFunc, .nilFunc, .nilFunc, .nilFunc, .nilFunc, .nilFunc, .nilFunc, .nilFunc, .nilFunc, .nilFunc, .nilFunc, .nilFunc, .nilFunc, .nilFunc, .nilFunc, .nilFunc] 62))
  have HW := Lib.hid (aluW_u8 w)
  go_enter Tryz.func23, Tryz.ntmps23
  go_wp2_with fail
  refine (CA.out _ _).mono ?_
  rintro e w2 ⟨rfl, rfl⟩
  go_wp2_with fail
  refine (CA.out _ _).mono ?_
  rintro e w2 ⟨rfl, rfl⟩
  go_wp2_with (refine wpList_store_row rfl 62 (.tmp 11) (.tmp 15) rfl (w.heap.size + 1 + 1) #[.nilFunc, .func (.func 52) #[] #[], .func (.func 56) #[] #[], .func (.func 53) #[] #[], .func (.func 55) #[] #[], .func (.func 57) #[] #[], .func (.func 54) #[] #[], .func (.func 58) #[] #[], .func (.func 125) #[] #[.pointer (some ⟨w.heap.size, 0, none⟩)], .nilFunc, .func (.func 125) #[] #[.pointer (some ⟨w.heap.size + 1, 0, none⟩)], .nilFunc, .nilFunc, .nilFunc, .nilFunc, .nilFunc, .nilFunc, .nilFunc, .nilFunc, .nilFunc, .nilFunc, .nilFunc, .nilFunc, .nilFunc, .nilFunc, .nilFunc, .nilFunc, .nilFunc, .nilFunc, .nilFunc, .nilFunc, .nilFunc, .nilFunc, .nilFunc, .nilFunc, .nilFunc, .nilFunc, .nilFunc, .nilFunc, .nilFunc, .nilFunc, .nilFunc, .nilFunc, .nilFunc, .nilFunc] rfl rfl 62 _ HG.out (by kernel_rfl) rfl (by simp [Value.oneCell']) ?_; generalize hW9 : ((((w.alloc (.cells #[.func (.func 54) #[] #[]] 60)).alloc (.cells #[.func (.func 57) #[] #[]] 60)).alloc (.cells #[.nilFunc, .nilFunc, .nilFunc, .nilFunc, .nilFunc, .nilFunc, .nilFunc, .nilFunc, .nilFunc, .nilFunc, .nilFunc, .nilFunc, .nilFunc, .nilFunc, .nilFunc, .nilFunc, .nilFunc, .nilFunc, .nilFunc, .nilFunc, .nilFunc, .nilFunc, .nilFunc, .nilFunc, .nilFunc, .nilFunc, .nilFunc, .nilFunc, .nilFunc, .nilFunc, .nilFunc, .nilFunc, .nilFunc, .nilFunc, .nilFunc, .nilFunc, .nilFunc, .nilFunc, .nilFunc, .nilFunc, .nilFunc, .nilFunc, .nilFunc, .nilFunc, .nilFunc] 62)).setRow (w.heap.size + 1 + 1) #[.nilFunc, .func (.func 52) #[] #[], .func (.func 56) #[] #[], .func (.func 53) #[] #[], .func (.func 55) #[] #[], .func (.func 57) #[] #[], .func (.func 54) #[] #[], .func (.func 58) #[] #[], .func (.func 125) #[] #[.pointer (some ⟨w.heap.size, 0, none⟩)], .nilFunc, .func (.func 125) #[] #[.pointer (some ⟨w.heap.size + 1, 0, none⟩)], .nilFunc, .nilFunc, .nilFunc, .nilFunc, .nilFunc, .nilFunc, .nilFunc, .nilFunc, .nilFunc, .nilFunc, .nilFunc, .nilFunc, .nilFunc, .nilFunc, .nilFunc, .nilFunc, .nilFunc, .nilFunc, .nilFunc, .nilFunc, .nilFunc, .nilFunc, .nilFunc, .nilFunc, .nilFunc, .nilFunc, .nilFunc, .nilFunc, .nilFunc, .nilFunc, .nilFunc, .nilFunc, .nilFunc, .nilFunc]) = W9 at *; clear hW9)
  clear HG CA
  have hc := (cell_of_row _ _ 1 _ _ _ HW.out.row).trans (show (aluRow_u8 w.heap.size)[1]? = some (.func (.func 52) #[] #[]) from rfl)
  have KE := fun W => eqNo2_u8 (.func 52) #[] #[] W
  refine (CO.out _).mono ?_
  rintro e w2 ⟨rfl, rfl⟩
  go_wp2_with fail
  refine (CX.out _).mono ?_
  rintro e w2 ⟨rfl, rfl⟩
  go_wp2
  go_ret3
  exact ⟨rfl, HW.out.be⟩
set_option maxRecDepth 100000 in
set_option maxHeartbeats 1000000 in
theorem alu2_u8 (a b f : Int) (V F : Int) (CX : Hid (∀ w, Calls Tryz.prog 56 #[.int .u8 (a % 256), .int .u8 (b % 256), .int .i64 f] w fun e w' => e = .returned (.tuple #[.int .u8 V, .int .i64 F]) ∧ w = w')) (w : World) : Calls Tryz.prog 23 #[.int .i64 2, .int .i64 a, .int .i64 b, .int .i64 f] w fun e w' => e = .returned (.tuple #[.int .i64 (wrap64 V), .int .i64 F, .int .i64 0]) ∧ Below w.heap.size w w' := by
  have CO := Lib.hid (fun w => isOpYes 2 w (by decide) (by decide))
  have CA := Lib.hid aloneC_u8
  have HG := Lib.hid (show (((w.alloc (.cells #[.func (.func 54) #[] #[]] 60)).alloc (.cells #[.func (.func 57) #[] #[]] 60)).alloc (.cells #[.nilFunc, .nilFunc, .nilFunc, .nilFunc, .nilFunc, .nilFunc, .nilFunc, .nilFunc, .nilFunc, .nilFunc, .nilFunc, .nilFunc, .nilFunc, .nilFunc, .nilFunc, .nilFunc, .nilFunc, .nilFunc, .nilFunc, .nilFunc, .nilFunc, .nilFunc, .nilFunc, .nilFunc, .nilFunc, .nilFunc, .nilFunc, .nilFunc, .nilFunc, .nilFunc, .nilFunc, .nilFunc, .nilFunc, .nilFunc, .nilFunc, .nilFunc, .nilFunc, .nilFunc, .nilFunc, .nilFunc, .nilFunc, .nilFunc, .nilFunc, .nilFunc, .nilFunc] 62)).heap[w.heap.size + 1 + 1]? = some (.cells #[.nilFunc, .nilFunc, .nilFunc, .nilFunc, .nilFunc, .nilFunc, .nilFunc, .nilFunc, .nilFunc, .nilFunc, .nilFunc, .nilFunc, .nilFunc, .nilFunc, .nilFunc, .nilFunc, .nilFunc, .nilFunc, .nilFunc, .nilFunc, .nilFunc, .nilFunc, .nilFunc, .nilFunc, .nilFunc, .nilFunc, .nilFunc, .nilFunc, .nilFunc, .nilFunc, .nilFunc, .nilFunc, .nilFunc, .nilFunc, .nilFunc, .nilFunc, .nilFunc, .nilFunc, .nilFunc, .nilFunc, .nilFunc, .nilFunc, .nilFunc, .nilFunc, .nilFunc] 62 (0, 0)) from by simpa using heap_alloc_new ((w.alloc (.cells #[.func (.func 54) #[] #[]] 60)).alloc (.cells #[.func (.func 57) #[] #[]] 60)) (.cells #[.nilFunc, .nilFunc, .nilFunc, .nilFunc, .nilFunc, .nilFunc, .nilFunc, .nilFunc, .nilFunc, .nilFunc, .nilFunc, .nilFunc, .nilFunc, .nilFunc, .nilFunc, .nilFunc, .nilFunc, .nilFunc, .nilFunc, .nilFunc, .nilFunc, .nilFunc, .nilFunc, .nilFunc, .nilFunc, .nilFunc, .nilFunc, .nilFunc, .nilFunc, .nilFunc, .nilFunc, .nilFunc, .nilFunc, .nilFunc, .nilFunc, .nilFunc, .nilFunc, .nilFunc, .nilFunc, .nilFunc, .nilFunc, .nilFunc, .nilFunc, .nilFunc, .nilFunc] 62))
  have HW := Lib.hid (aluW_u8 w)
  go_enter Tryz.func23, Tryz.ntmps23
  go_wp2_with fail
  refine (CA.out _ _).mono ?_
  rintro e w2 ⟨rfl, rfl⟩
  go_wp2_with fail
  refine (CA.out _ _).mono ?_
  rintro e w2 ⟨rfl, rfl⟩
  go_wp2_with (refine wpList_store_row rfl 62 (.tmp 11) (.tmp 15) rfl (w.heap.size + 1 + 1) #[.nilFunc, .func (.func 52) #[] #[], .func (.func 56) #[] #[], .func (.func 53) #[] #[], .func (.func 55) #[] #[], .func (.func 57) #[] #[], .func (.func 54) #[] #[], .func (.func 58) #[] #[], .func (.func 125) #[] #[.pointer (some ⟨w.heap.size, 0, none⟩)], .nilFunc, .func (.func 125) #[] #[.pointer (some ⟨w.heap.size + 1, 0, none⟩)], .nilFunc, .nilFunc, .nilFunc, .nilFunc, .nilFunc, .nilFunc, .nilFunc, .nilFunc, .nilFunc, .nilFunc, .nilFunc, .nilFunc, .nilFunc, .nilFunc, .nilFunc, .nilFunc, .nilFunc, .nilFunc, .nilFunc, .nilFunc, .nilFunc, .nilFunc, .nilFunc, .nilFunc, .nilFunc, .nilFunc, .nilFunc, .nilFunc, .nilFunc, .nilFunc, .nilFunc, .nilFunc, .nilFunc, .nilFunc] rfl rfl 62 _ HG.out (by kernel_rfl) rfl (by simp [Value.oneCell']) ?_; generalize hW9 : ((((w.alloc (.cells #[.func (.func 54) #[] #[]] 60)).alloc (.cells #[.func (.func 57) #[] #[]] 60)).alloc (.cells #[.nilFunc, .nilFunc, .nilFunc, .nilFunc, .nilFunc, .nilFunc, .nilFunc, .nilFunc, .nilFunc, .nilFunc, .nilFunc, .nilFunc, .nilFunc, .nilFunc, .nilFunc, .nilFunc, .nilFunc, .nilFunc, .nilFunc, .nilFunc, .nilFunc, .nilFunc, .nilFunc, .nilFunc, .nilFunc, .nilFunc, .nilFunc, .nilFunc, .nilFunc, .nilFunc, .nilFunc, .nilFunc, .nilFunc, .nilFunc, .nilFunc, .nilFunc, .nilFunc, .nilFunc, .nilFunc, .nilFunc, .nilFunc, .nilFunc, .nilFunc, .nilFunc, .nilFunc] 62)).setRow (w.heap.size + 1 + 1) #[.nilFunc, .func (.func 52) #[] #[], .func (.func 56) #[] #[], .func (.func 53) #[] #[], .func (.func 55) #[] #[], .func (.func 57) #[] #[], .func (.func 54) #[] #[], .func (.func 58) #[] #[], .func (.func 125) #[] #[.pointer (some ⟨w.heap.size, 0, none⟩)], .nilFunc, .func (.func 125) #[] #[.pointer (some ⟨w.heap.size + 1, 0, none⟩)], .nilFunc, .nilFunc, .nilFunc, .nilFunc, .nilFunc, .nilFunc, .nilFunc, .nilFunc, .nilFunc, .nilFunc, .nilFunc, .nilFunc, .nilFunc, .nilFunc, .nilFunc, .nilFunc, .nilFunc, .nilFunc, .nilFunc, .nilFunc, .nilFunc, .nilFunc, .nilFunc, .nilFunc, .nilFunc, .nilFunc, .nilFunc, .nilFunc, .nilFunc, .nilFunc, .nilFunc, .nilFunc, .nilFunc, .nilFunc]) = W9 at *; clear hW9)
  clear HG CA
  have hc := (cell_of_row _ _ 2 _ _ _ HW.out.row).trans (show (aluRow_u8 w.heap.size)[2]? = some (.func (.func 56) #[] #[]) from rfl)
  have KE := fun W => eqNo2_u8 (.func 56) #[] #[] W
  refine (CO.out _).mono ?_
  rintro e w2 ⟨rfl, rfl⟩
  go_wp2_with fail
  refine (CX.out _).mono ?_
  rintro e w2 ⟨rfl, rfl⟩
  go_wp2
  go_ret3
  exact ⟨rfl, HW.out.be⟩
set_option maxRecDepth 100000 in
set_option maxHeartbeats 1000000 in
theorem alu3_u8 (a b f : Int) (V F : Int) (CX : Hid (∀ w, Calls Tryz.prog 53 #[.int .u8 (a % 256), .int .u8 (b % 256), .int .i64 f] w fun e w' => e = .returned (.tuple #[.int .u8 V, .int .i64 F]) ∧ w = w')) (w : World) : Calls Tryz.prog 23 #[.int .i64 3, .int .i64 a, .int .i64 b, .int .i64 f] w fun e w' => e = .returned (.tuple #[.int .i64 (wrap64 V), .int .i64 F, .int .i64 0]) ∧ Below w.heap.size w w' := by
  have CO := Lib.hid (fun w => isOpYes 3 w (by decide) (by decide))
  have CA := Lib.hid aloneC_u8
  have HG := Lib.hid (show (((w.alloc (.cells #[.func (.func 54) #[] #[]] 60)).alloc (.cells #[.func (.func 57) #[] #[]] 60)).alloc (.cells #[.nilFunc, .nilFunc, .nilFunc, .nilFunc, .nilFunc, .nilFunc, .nilFunc, .nilFunc, .nilFunc, .nilFunc, .nilFunc, .nilFunc, .nilFunc, .nilFunc, .nilFunc, .nilFunc, .nilFunc, .nilFunc, .nilFunc, .nilFunc, .nilFunc, .nilFunc, .nilFunc, .nilFunc, .nilFunc, .nilFunc, .nilFunc, .nilFunc, .nilFunc, .nilFunc, .nilFunc, .nilFunc, .nilFunc, .nilFunc, .nilFunc, .nilFunc, .nilFunc, .nilFunc, .nilFunc, .nilFunc, .nilFunc, .nilFunc, .nilFunc, .nilFunc, .nilFunc] 62)).heap[w.heap.size + 1 + 1]? = some (.cells #[.nilFunc, .nilFunc, .nilFunc, .nilFunc, .nilFunc, .nilFunc, .nilFunc, .nilFunc, .nilFunc, .nilFunc, .nilFunc, .nilFunc, .nilFunc, .nilFunc, .nilFunc, .nilFunc, .nilFunc, .nilFunc, .nilFunc, .nilFunc, .nilFunc, .nilFunc, .nilFunc, .nilFunc, .nilFunc, .nilFunc, .nilFunc, .nilFunc, .nilFunc, .nilFunc, .nilFunc, .nilFunc, .nilFunc, .nilFunc, .nilFunc, .nilFunc, .nilFunc, .nilFunc, .nilFunc, .nilFunc, .nilFunc, .nilFunc, .nilFunc, .nilFunc, .nilFunc] 62 (0, 0)) from by simpa using heap_alloc_new ((w.alloc (.cells #[.func (.func 54) #[] #[]] 60)).alloc (.cells #[.func (.func 57) #[] #[]] 60)) (.cells #[.nilFunc, .nilFunc, .nilFunc, .nilFunc, .nilFunc, .nilFunc, .nilFunc, .nilFunc, .nilFunc, .nilFunc, .nilFunc, .nilFunc, .nilFunc, .nilFunc, .nilFunc, .nilFunc, .nilFunc, .nilFunc, .nilFunc, .nilFunc, .nilFunc, .nilFunc, .nilFunc, .nilFunc, .nilFunc, .nilFunc, .nilFunc, .nilFunc, .nilFunc, .nilFunc, .nilFunc, .nilFunc, .nilFunc, .nilFunc, .nilFunc, .nilFunc, .nilFunc, .nilFunc, .nilFunc, .nilFunc, .nilFunc, .nilFunc, .nilFunc, .nilFunc, .nilFunc] 62))
  have HW := Lib.hid (aluW_u8 w)
  go_enter Tryz.func23, Tryz.ntmps23
  go_wp2_with fail
  refine (CA.out _ _).mono ?_
  rintro e w2 ⟨rfl, rfl⟩
  go_wp2_with fail
  refine (CA.out _ _).mono ?_
  rintro e w2 ⟨rfl, rfl⟩
  go_wp2_with (refine wpList_store_row rfl 62 (.tmp 11) (.tmp 15) rfl (w.heap.size + 1 + 1) #[.nilFunc, .func (.func 52) #[] #[], .func (.func 56) #[] #[], .func (.func 53) #[] #[], .func (.func 55) #[] #[], .func (.func 57) #[] #[], .func (.func 54) #[] #[], .func (.func 58) #[] #[], .func (.func 125) #[] #[.pointer (some ⟨w.heap.size, 0, none⟩)], .nilFunc, .func (.func 125) #[] #[.pointer (some ⟨w.heap.size + 1, 0, none⟩)], .nilFunc, .nilFunc, .nilFunc, .nilFunc, .nilFunc, .nilFunc, .nilFunc, .nilFunc, .nilFunc, .nilFunc, .nilFunc, .nilFunc, .nilFunc, .nilFunc, .nilFunc, .nilFunc, .nilFunc, .nilFunc, .nilFunc, .nilFunc, .nilFunc, .nilFunc, .nilFunc, .nilFunc, .nilFunc, .nilFunc, .nilFunc, .nilFunc, .nilFunc, .nilFunc, .nilFunc, .nilFunc, .nilFunc, .nilFunc] rfl rfl 62 _ HG.out (by kernel_rfl) rfl (by simp [Value.oneCell']) ?_; generalize hW9 : ((((w.alloc (.cells #[.func (.func 54) #[] #[]] 60)).alloc (.cells #[.func (.func 57) #[] #[]] 60)).alloc (.cells #[.nilFunc, .nilFunc, .nilFunc, .nilFunc, .nilFunc, .nilFunc, .nilFunc, .nilFunc, .nilFunc, .nilFunc, .nilFunc, .nilFunc, .nilFunc, .nilFunc, .nilFunc, .nilFunc, .nilFunc, .nilFunc, .nilFunc, .nilFunc, .nilFunc, .nilFunc, .nilFunc, .nilFunc, .nilFunc, .nilFunc, .nilFunc, .nilFunc, .nilFunc, .nilFunc, .nilFunc, .nilFunc, .nilFunc, .nilFunc, .nilFunc, .nilFunc, .nilFunc, .nilFunc, .nilFunc, .nilFunc, .nilFunc, .nilFunc, .nilFunc, .nilFunc, .nilFunc] 62)).setRow (w.heap.size + 1 + 1) #[.nilFunc, .func (.func 52) #[] #[], .func (.func 56) #[] #[], .func (.func 53) #[] #[], .func (.func 55) #[] #[], .func (.func 57) #[] #[], .func (.func 54) #[] #[], .func (.func 58) #[] #[], .func (.func 125) #[] #[.pointer (some ⟨w.heap.size, 0, none⟩)], .nilFunc, .func (.func 125) #[] #[.pointer (some ⟨w.heap.size + 1, 0, none⟩)], .nilFunc, .nilFunc, .nilFunc, .nilFunc, .nilFunc, .nilFunc, .nilFunc, .nilFunc, .nilFunc, .nilFunc, .nilFunc, .nilFunc, .nilFunc, .nilFunc, .nilFunc, .nilFunc, .nilFunc, .nilFunc, .nilFunc, .nilFunc, .nilFunc, .nilFunc, .nilFunc, .nilFunc, .nilFunc, .nilFunc, .nilFunc, .nilFunc, .nilFunc, .nilFunc, .nilFunc, .nilFunc, .nilFunc, .nilFunc]) = W9 at *; clear hW9)
  clear HG CA
  have hc := (cell_of_row _ _ 3 _ _ _ HW.out.row).trans (show (aluRow_u8 w.heap.size)[3]? = some (.func (.func 53) #[] #[]) from rfl)
  have KE := fun W => eqNo2_u8 (.func 53) #[] #[] W
  refine (CO.out _).mono ?_
  rintro e w2 ⟨rfl, rfl⟩
  go_wp2_with fail
  refine (CX.out _).mono ?_
  rintro e w2 ⟨rfl, rfl⟩
  go_wp2
  go_ret3
  exact ⟨rfl, HW.out.be⟩
set_option maxRecDepth 100000 in
set_option maxHeartbeats 1000000 in
theorem alu4_u8 (a b f : Int) (V F : Int) (CX : Hid (∀ w, Calls Tryz.prog 55 #[.int .u8 (a % 256), .int .u8 (b % 256), .int .i64 f] w fun e w' => e = .returned (.tuple #[.int .u8 V, .int .i64 F]) ∧ w = w')) (w : World) : Calls Tryz.prog 23 #[.int .i64 4, .int .i64 a, .int .i64 b, .int .i64 f] w fun e w' => e = .returned (.tuple #[.int .i64 (wrap64 V), .int .i64 F, .int .i64 0]) ∧ Below w.heap.size w w' := by
  have CO := Lib.hid (fun w => isOpYes 4 w (by decide) (by decide))
  have CA := Lib.hid aloneC_u8
  have HG := Lib.hid (show (((w.alloc (.cells #[.func (.func 54) #[] #[]] 60)).alloc (.cells #[.func (.func 57) #[] #[]] 60)).alloc (.cells #[.nilFunc, .nilFunc, .nilFunc, .nilFunc, .nilFunc, .nilFunc, .nilFunc, .nilFunc, .nilFunc, .nilFunc, .nilFunc, .nilFunc, .nilFunc, .nilFunc, .nilFunc, .nilFunc, .nilFunc, .nilFunc, .nilFunc, .nilFunc, .nilFunc, .nilFunc, .nilFunc, .nilFunc, .nilFunc, .nilFunc, .nilFunc, .nilFunc, .nilFunc, .nilFunc, .nilFunc, .nilFunc, .nilFunc, .nilFunc, .nilFunc, .nilFunc, .nilFunc, .nilFunc, .nilFunc, .nilFunc, .nilFunc, .nilFunc, .nilFunc, .nilFunc, .nilFunc] 62)).heap[w.heap.size + 1 + 1]? = some (.cells #[.nilFunc, .nilFunc, .nilFunc, .nilFunc, .nilFunc, .nilFunc, .nilFunc, .nilFunc, .nilFunc, .nilFunc, .nilFunc, .nilFunc, .nilFunc, .nilFunc, .nilFunc, .nilFunc, .nilFunc, .nilFunc, .nilFunc, .nilFunc, .nilFunc, .nilFunc, .nilFunc, .nilFunc, .nilFunc, .nilFunc, .nilFunc, .nilFunc, .nilFunc, .nilFunc, .nilFunc, .nilFunc, .nilFunc, .nilFunc, .nilFunc, .nilFunc, .nilFunc, .nilFunc, .nilFunc, .nilFunc, .nilFunc, .nilFunc, .nilFunc, .nilFunc, .nilFunc] 62 (0, 0)) from by simpa using heap_alloc_new ((w.alloc (.cells #[.func (.func 54) #[] #[]] 60)).alloc (.cells #[.func (.func 57) #[] #[]] 60)) (.cells #[.nilFunc, .nilFunc, .nilFunc, .nilFunc, .nilFunc, .nilFunc, .nilFunc, .nilFunc, .nilFunc, .nilFunc, .nilFunc, .nilFunc, .nilFunc, .nilFunc, .nilFunc, .nilFunc, .nilFunc, .nilFunc, .nilFunc, .nilFunc, .nilFunc, .nilFunc, .nilFunc, .nilFunc, .nilFunc, .nilFunc, .nilFunc, .nilFunc, .nilFunc, .nilFunc, .nilFunc, .nilFunc, .nilFunc, .nilFunc, .nilFunc, .nilFunc, .nilFunc, .nilFunc, .nilFunc, .nilFunc, .nilFunc, .nilFunc, .nilFunc, .nilFunc, .nilFunc] 62))
  have HW := Lib.hid (aluW_u8 w)
  go_enter Tryz.func23, Tryz.ntmps23
  go_wp2_with fail
  refine (CA.out _ _).mono ?_
  rintro e w2 ⟨rfl, rfl⟩
  go_wp2_with fail
  refine (CA.out _ _).mono ?_
  rintro e w2 ⟨rfl, rfl⟩
  go_wp2_with (refine wpList_store_row rfl 62 (.tmp 11) (.tmp 15) rfl (w.heap.size + 1 + 1) #[.nilFunc, .func (.func 52) #[] #[], .func (.func 56) #[] #[], .func (.func 53) #[] #[], .func (.func 55) #[] #[], .func (.func 57) #[] #[], .func (.func 54) #[] #[], .func (.func 58) #[] #[], .func (.func 125) #[] #[.pointer (some ⟨w.heap.size, 0, none⟩)], .nilFunc, .func (.func 125) #[] #[.pointer (some ⟨w.heap.size + 1, 0, none⟩)], .nilFunc, .nilFunc, .nilFunc, .nilFunc, .nilFunc, .nilFunc, .nilFunc, .nilFunc, .nilFunc, .nilFunc, .nilFunc, .nilFunc, .nilFunc, .nilFunc, .nilFunc, .nilFunc, .nilFunc, .nilFunc, .nilFunc, .nilFunc, .nilFunc, .nilFunc, .nilFunc, .nilFunc, .nilFunc, .nilFunc, .nilFunc, .nilFunc, .nilFunc, .nilFunc, .nilFunc, .nilFunc, .nilFunc, .nilFunc] rfl rfl 62 _ HG.out (by kernel_rfl) rfl (by simp [Value.oneCell']) ?_; generalize hW9 : ((((w.alloc (.cells #[.func (.func 54) #[] #[]] 60)).alloc (.cells #[.func (.func 57) #[] #[]] 60)).alloc (.cells #[.nilFunc, .nilFunc, .nilFunc, .nilFunc, .nilFunc, .nilFunc, .nilFunc, .nilFunc, .nilFunc, .nilFunc, .nilFunc, .nilFunc, .nilFunc, .nilFunc, .nilFunc, .nilFunc, .nilFunc, .nilFunc, .nilFunc, .nilFunc, .nilFunc, .nilFunc, .nilFunc, .nilFunc, .nilFunc, .nilFunc, .nilFunc, .nilFunc, .nilFunc, .nilFunc, .nilFunc, .nilFunc, .nilFunc, .nilFunc, .nilFunc, .nilFunc, .nilFunc, .nilFunc, .nilFunc, .nilFunc, .nilFunc, .nilFunc, .nilFunc, .nilFunc, .nilFunc] 62)).setRow (w.heap.size + 1 + 1) #[.nilFunc, .func (.func 52) #[] #[], .func (.func 56) #[] #[], .func (.func 53) #[] #[], .func (.func 55) #[] #[], .func (.func 57) #[] #[], .func (.func 54) #[] #[], .func (.func 58) #[] #[], .func (.func 125) #[] #[.pointer (some ⟨w.heap.size, 0, none⟩)], .nilFunc, .func (.func 125) #[] #[.pointer (some ⟨w.heap.size + 1, 0, none⟩)], .nilFunc, .nilFunc, .nilFunc, .nilFunc, .nilFunc, .nilFunc, .nilFunc, .nilFunc, .nilFunc, .nilFunc, .nilFunc, .nilFunc, .nilFunc, .nilFunc, .nilFunc, .nilFunc, .nilFunc, .nilFunc, .nilFunc, .nilFunc, .nilFunc, .nilFunc, .nilFunc, .nilFunc, .nilFunc, .nilFunc, .nilFunc, .nilFunc, .nilFunc, .nilFunc, .nilFunc, .nilFunc, .nilFunc, .nilFunc]) = W9 at *; clear hW9)
  clear HG CA
  have hc := (cell_of_row _ _ 4 _ _ _ HW.out.row).trans (show (aluRow_u8 w.heap.size)[4]? = some (.func (.func 55) #[] #[]) from rfl)
  have KE := fun W => eqNo2_u8 (.func 55) #[] #[] W
  refine (CO.out _).mono ?_
  rintro e w2 ⟨rfl, rfl⟩
  go_wp2_with fail
  refine (CX.out _).mono ?_
  rintro e w2 ⟨rfl, rfl⟩
  go_wp2
  go_ret3
  exact ⟨rfl, HW.out.be⟩
set_option maxRecDepth 100000 in
set_option maxHeartbeats 1000000 in
theorem alu5_u8 (a b f : Int) (V F : Int) (CX : Hid (∀ w, Calls Tryz.prog 57 #[.int .u8 (a % 256), .int .u8 (b % 256), .int .i64 f] w fun e w' => e = .returned (.tuple #[.int .u8 V, .int .i64 F]) ∧ w = w')) (w : World) : Calls Tryz.prog 23 #[.int .i64 5, .int .i64 a, .int .i64 b, .int .i64 f] w fun e w' => e = .returned (.tuple #[.int .i64 (wrap64 V), .int .i64 F, .int .i64 0]) ∧ Below w.heap.size w w' := by
  have CO := Lib.hid (fun w => isOpYes 5 w (by decide) (by decide))
  have CA := Lib.hid aloneC_u8
  have HG := Lib.hid (show (((w.alloc (.cells #[.func (.func 54) #[] #[]] 60)).alloc (.cells #[.func (.func 57) #[] #[]] 60)).alloc (.cells #[.nilFunc, .nilFunc, .nilFunc, .nilFunc, .nilFunc, .nilFunc, .nilFunc, .nilFunc, .nilFunc, .nilFunc, .nilFunc, .nilFunc, .nilFunc, .nilFunc, .nilFunc, .nilFunc, .nilFunc, .nilFunc, .nilFunc, .nilFunc, .nilFunc, .nilFunc, .nilFunc, .nilFunc, .nilFunc, .nilFunc, .nilFunc, .nilFunc, .nilFunc, .nilFunc, .nilFunc, .nilFunc, .nilFunc, .nilFunc, .nilFunc, .nilFunc, .nilFunc, .nilFunc, .nilFunc, .nilFunc, .nilFunc, .nilFunc, .nilFunc, .nilFunc, .nilFunc] 62)).heap[w.heap.size + 1 + 1]? = some (.cells #[.nilFunc, .nilFunc, .nilFunc, .nilFunc, .nilFunc, .nilFunc, .nilFunc, .nilFunc, .nilFunc, .nilFunc, .nilFunc, .nilFunc, .nilFunc, .nilFunc, .nilFunc, .nilFunc, .nilFunc, .nilFunc, .nilFunc, .nilFunc, .nilFunc, .nilFunc, .nilFunc, .nilFunc, .nilFunc, .nilFunc, .nilFunc, .nilFunc, .nilFunc, .nilFunc, .nilFunc, .nilFunc, .nilFunc, .nilFunc, .nilFunc, .nilFunc, .nilFunc, .nilFunc, .nilFunc, .nilFunc, .nilFunc, .nilFunc, .nilFunc, .nilFunc, .nilFunc] 62 (0, 0)) from by simpa using heap_alloc_new ((w.alloc (.cells #[.func (.func 54) #[] #[]] 60)).alloc (.cells #[.func (.func 57) #[] #[]] 60)) (.cells #[.nilFunc, .nilFunc, .nilFunc, .nilFunc, .nilFunc, .nilFunc, .nilFunc, .nilFunc, .nilFunc, .nilFunc, .nilFunc, .nilFunc, .nilFunc, .nilFunc, .nilFunc, .nilFunc, .nilFunc, .nilFunc, .nilFunc, .nilFunc, .nilFunc, .nilFunc, .nilFunc, .nilFunc, .nilFunc, .nilFunc, .nilFunc, .nilFunc, .nilFunc, .nilFunc, .nilFunc, .nilFunc, .nilFunc, .nilFunc, .nilFunc, .nilFunc, .nilFunc, .nilFunc, .nilFunc, .nilFunc, .nilFunc, .nilFunc, .nilFunc, .nilFunc, .nilFunc] 62))
  have HW := Lib.hid (aluW_u8 w)
  go_enter Tryz.func23, Tryz.ntmps23
  go_wp2_with fail
  refine (CA.out _ _).mono ?_
  rintro e w2 ⟨rfl, rfl⟩
  go_wp2_with fail
  refine (CA.out _ _).mono ?_
  rintro e w2 ⟨rfl, rfl⟩
  go_wp2_with (refine wpList_store_row rfl 62 (.tmp 11) (.tmp 15) rfl (w.heap.size + 1 + 1) #[.nilFunc, .func (.func 52) #[] #[], .func (.func 56) #[] #[], .func (.func 53) #[] #[], .func (.func 55) #[] #[], .func (.func 57) #[] #[], .func (.func 54) #[] #[], .func (.func 58) #[] #[], .func (.func 125) #[] #[.pointer (some ⟨w.heap.size, 0, none⟩)], .nilFunc, .func (.func 125) #[] #[.pointer (some ⟨w.heap.size + 1, 0, none⟩)], .nilFunc, .nilFunc, .nilFunc, .nilFunc, .nilFunc, .nilFunc, .nilFunc, .nilFunc, .nilFunc, .nilFunc, .nilFunc, .nilFunc, .nilFunc, .nilFunc, .nilFunc, .nilFunc, .nilFunc, .nilFunc, .nilFunc, .nilFunc, .nilFunc, .nilFunc, .nilFunc, .nilFunc, .nilFunc, .nilFunc, .nilFunc, .nilFunc, .nilFunc, .nilFunc, .nilFunc, .nilFunc, .nilFunc, .nilFunc] rfl rfl 62 _ HG.out (by kernel_rfl) rfl (by simp [Value.oneCell']) ?_; generalize hW9 : ((((w.alloc (.cells #[.func (.func 54) #[] #[]] 60)).alloc (.cells #[.func (.func 57) #[] #[]] 60)).alloc (.cells #[.nilFunc, .nilFunc, .nilFunc, .nilFunc, .nilFunc, .nilFunc, .nilFunc, .nilFunc, .nilFunc, .nilFunc, .nilFunc, .nilFunc, .nilFunc, .nilFunc, .nilFunc, .nilFunc, .nilFunc, .nilFunc, .nilFunc, .nilFunc, .nilFunc, .nilFunc, .nilFunc, .nilFunc, .nilFunc, .nilFunc, .nilFunc, .nilFunc, .nilFunc, .nilFunc, .nilFunc, .nilFunc, .nilFunc, .nilFunc, .nilFunc, .nilFunc, .nilFunc, .nilFunc, .nilFunc, .nilFunc, .nilFunc, .nilFunc, .nilFunc, .nilFunc, .nilFunc] 62)).setRow (w.heap.size + 1 + 1) #[.nilFunc, .func (.func 52) #[] #[], .func (.func 56) #[] #[], .func (.func 53) #[] #[], .func (.func 55) #[] #[], .func (.func 57) #[] #[], .func (.func 54) #[] #[], .func (.func 58) #[] #[], .func (.func 125) #[] #[.pointer (some ⟨w.heap.size, 0, none⟩)], .nilFunc, .func (.func 125) #[] #[.pointer (some ⟨w.heap.size + 1, 0, none⟩)], .nilFunc, .nilFunc, .nilFunc, .nilFunc, .nilFunc, .nilFunc, .nilFunc, .nilFunc, .nilFunc, .nilFunc, .nilFunc, .nilFunc, .nilFunc, .nilFunc, .nilFunc, .nilFunc, .nilFunc, .nilFunc, .nilFunc, .nilFunc, .nilFunc, .nilFunc, .nilFunc, .nilFunc, .nilFunc, .nilFunc, .nilFunc, .nilFunc, .nilFunc, .nilFunc, .nilFunc, .nilFunc, .nilFunc, .nilFunc]) = W9 at *; clear hW9)
  clear HG CA
  have hc := (cell_of_row _ _ 5 _ _ _ HW.out.row).trans (show (aluRow_u8 w.heap.size)[5]? = some (.func (.func 57) #[] #[]) from rfl)
  have KE := fun W => eqNo2_u8 (.func 57) #[] #[] W
  refine (CO.out _).mono ?_
  rintro e w2 ⟨rfl, rfl⟩
  go_wp2_with fail
  refine (CX.out _).mono ?_
  rintro e w2 ⟨rfl, rfl⟩
  go_wp2
  go_ret3
  exact ⟨rfl, HW.out.be⟩
set_option maxRecDepth 100000 in
set_option maxHeartbeats 1000000 in
theorem alu6_u8 (a b f : Int) (V F : Int) (CX : Hid (∀ w, Calls Tryz.prog 54 #[.int .u8 (a % 256), .int .u8 (b % 256), .int .i64 f] w fun e w' => e = .returned (.tuple #[.int .u8 V, .int .i64 F]) ∧ w = w')) (w : World) : Calls Tryz.prog 23 #[.int .i64 6, .int .i64 a, .int .i64 b, .int .i64 f] w fun e w' => e = .returned (.tuple #[.int .i64 (wrap64 V), .int .i64 F, .int .i64 0]) ∧ Below w.heap.size w w' := by
  have CO := Lib.hid (fun w => isOpYes 6 w (by decide) (by decide))
  have CA := Lib.hid aloneC_u8
  have HG := Lib.hid (show (((w.alloc (.cells #[.func (.func 54) #[] #[]] 60)).alloc (.cells #[.func (.func 57) #[] #[]] 60)).alloc (.cells #[.nilFunc, .nilFunc, .nilFunc, .nilFunc, .nilFunc, .nilFunc, .nilFunc, .nilFunc, .nilFunc, .nilFunc, .nilFunc, .nilFunc, .nilFunc, .nilFunc, .nilFunc, .nilFunc, .nilFunc, .nilFunc, .nilFunc, .nilFunc, .nilFunc, .nilFunc, .nilFunc, .nilFunc, .nilFunc, .nilFunc, .nilFunc, .nilFunc, .nilFunc, .nilFunc, .nilFunc, .nilFunc, .nilFunc, .nilFunc, .nilFunc, .nilFunc, .nilFunc, .nilFunc, .nilFunc, .nilFunc, .nilFunc, .nilFunc, .nilFunc, .nilFunc, .nilFunc] 62)).heap[w.heap.size + 1 + 1]? = some (.cells #[.nilFunc, .nilFunc, .nilFunc, .nilFunc, .nilFunc, .nilFunc, .nilFunc, .nilFunc, .nilFunc, .nilFunc, .nilFunc, .nilFunc, .nilFunc, .nilFunc, .nilFunc, .nilFunc, .nilFunc, .nilFunc, .nilFunc, .nilFunc, .nilFunc, .nilFunc, .nilFunc, .nilFunc, .nilFunc, .nilFunc, .nilFunc, .nilFunc, .nilFunc, .nilFunc, .nilFunc, .nilFunc, .nilFunc, .nilFunc, .nilFunc, .nilFunc, .nilFunc, .nilFunc, .nilFunc, .nilFunc, .nilFunc, .nilFunc, .nilFunc, .nilFunc, .nilFunc] 62 (0, 0)) from by simpa using heap_alloc_new ((w.alloc (.cells #[.func (.func 54) #[] #[]] 60)).alloc (.cells #[.func (.func 57) #[] #[]] 60)) (.cells #[.nilFunc, .nilFunc, .nilFunc, .nilFunc, .nilFunc, .nilFunc, .nilFunc, .nilFunc, .nilFunc, .nilFunc, .nilFunc, .nilFunc, .nilFunc, .nilFunc, .nilFunc, .nilFunc, .nilFunc, .nilFunc, .nilFunc, .nilFunc, .nilFunc, .nilFunc, .nilFunc, .nilFunc, .nilFunc, .nilFunc, .nilFunc, .nilFunc, .nilFunc, .nilFunc, .nilFunc, .nilFunc, .nilFunc, .nilFunc, .nilFunc, .nilFunc, .nilFunc, .nilFunc, .nilFunc, .nilFunc, .nilFunc, .nilFunc, .nilFunc, .nilFunc, .nilFunc] 62))
  have HW := Lib.hid (aluW_u8 w)
  go_enter Tryz.func23, Tryz.ntmps23
  go_wp2_with fail
  refine (CA.out _ _).mono ?_
  rintro e w2 ⟨rfl, rfl⟩
  go_wp2_with fail
  refine (CA.out _ _).mono ?_
  rintro e w2 ⟨rfl, rfl⟩
  go_wp2_with (refine wpList_store_row rfl 62 (.tmp 11) (.tmp 15) rfl (w.heap.size + 1 + 1) #[.nilFunc, .func (.func 52) #[] #[], .func (.func 56) #[] #[], .func (.func 53) #[] #[], .func (.func 55) #[] #[], .func (.func 57) #[] #[], .func (.func 54) #[] #[], .func (.func 58) #[] #[], .func (.func 125) #[] #[.pointer (some ⟨w.heap.size, 0, none⟩)], .nilFunc, .func (.func 125) #[] #[.pointer (some ⟨w.heap.size + 1, 0, none⟩)], .nilFunc, .nilFunc, .nilFunc, .nilFunc, .nilFunc, .nilFunc, .nilFunc, .nilFunc, .nilFunc, .nilFunc, .nilFunc, .nilFunc, .nilFunc, .nilFunc, .nilFunc, .nilFunc, .nilFunc, .nilFunc, .nilFunc, .nilFunc, .nilFunc, .nilFunc, .nilFunc, .nilFunc, .nilFunc, .nilFunc, .nilFunc, .nilFunc, .nilFunc, .nilFunc, .nilFunc, .nilFunc, .nilFunc, .nilFunc] rfl rfl 62 _ HG.out (by kernel_rfl) rfl (by simp [Value.oneCell']) ?_; generalize hW9 : ((((w.alloc (.cells #[.func (.func 54) #[] #[]] 60)).alloc (.cells #[.func (.func 57) #[] #[]] 60)).alloc (.cells #[.nilFunc, .nilFunc, .nilFunc, .nilFunc, .nilFunc, .nilFunc, .nilFunc, .nilFunc, .nilFunc, .nilFunc, .nilFunc, .nilFunc, .nilFunc, .nilFunc, .nilFunc, .nilFunc, .nilFunc, .nilFunc, .nilFunc, .nilFunc, .nilFunc, .nilFunc, .nilFunc, .nilFunc, .nilFunc, .nilFunc, .nilFunc, .nilFunc, .nilFunc, .nilFunc, .nilFunc, .nilFunc, .nilFunc, .nilFunc, .nilFunc, .nilFunc, .nilFunc, .nilFunc, .nilFunc, .nilFunc, .nilFunc, .nilFunc, .nilFunc, .nilFunc, .nilFunc] 62)).setRow (w.heap.size + 1 + 1) #[.nilFunc, .func (.func 52) #[] #[], .func (.func 56) #[] #[], .func (.func 53) #[] #[], .func (.func 55) #[] #[], .func (.func 57) #[] #[], .func (.func 54) #[] #[], .func (.func 58) #[] #[], .func (.func 125) #[] #[.pointer (some ⟨w.heap.size, 0, none⟩)], .nilFunc, .func (.func 125) #[] #[.pointer (some ⟨w.heap.size + 1, 0, none⟩)], .nilFunc, .nilFunc, .nilFunc, .nilFunc, .nilFunc, .nilFunc, .nilFunc, .nilFunc, .nilFunc, .nilFunc, .nilFunc, .nilFunc, .nilFunc, .nilFunc, .nilFunc, .nilFunc, .nilFunc, .nilFunc, .nilFunc, .nilFunc, .nilFunc, .nilFunc, .nilFunc, .nilFunc, .nilFunc, .nilFunc, .nilFunc, .nilFunc, .nilFunc, .nilFunc, .nilFunc, .nilFunc, .nilFunc, .nilFunc]) = W9 at *; clear hW9)
  clear HG CA
  have hc := (cell_of_row _ _ 6 _ _ _ HW.out.row).trans (show (aluRow_u8 w.heap.size)[6]? = some (.func (.func 54) #[] #[]) from rfl)
  have KE := fun W => eqNo2_u8 (.func 54) #[] #[] W
  refine (CO.out _).mono ?_
  rintro e w2 ⟨rfl, rfl⟩
  go_wp2_with fail
  refine (CX.out _).mono ?_
  rintro e w2 ⟨rfl, rfl⟩
  go_wp2
  go_ret3
  exact ⟨rfl, HW.out.be⟩
set_option maxRecDepth 100000 in
set_option maxHeartbeats 1000000 in
theorem alu7_u8 (a b f : Int) (V F : Int) (CX : Hid (∀ w, Calls Tryz.prog 58 #[.int .u8 (a % 256), .int .u8 (b % 256), .int .i64 f] w fun e w' => e = .returned (.tuple #[.int .u8 V, .int .i64 F]) ∧ w = w')) (w : World) : Calls Tryz.prog 23 #[.int .i64 7, .int .i64 a, .int .i64 b, .int .i64 f] w fun e w' => e = .returned (.tuple #[.int .i64 (wrap64 V), .int .i64 F, .int .i64 0]) ∧ Below w.heap.size w w' := by
  have CO := Lib.hid (fun w => isOpYes 7 w (by decide) (by decide))
  have CA := Lib.hid aloneC_u8
  have HG := Lib.hid (show (((w.alloc (.cells #[.func (.func 54) #[] #[]] 60)).alloc (.cells #[.func (.func 57) #[] #[]] 60)).alloc (.cells #[.nilFunc, .nilFunc, .nilFunc, .nilFunc, .nilFunc, .nilFunc, .nilFunc, .nilFunc, .nilFunc, .nilFunc, .nilFunc, .nilFunc, .nilFunc, .nilFunc, .nilFunc, .nilFunc, .nilFunc, .nilFunc, .nilFunc, .nilFunc, .nilFunc, .nilFunc, .nilFunc, .nilFunc, .nilFunc, .nilFunc, .nilFunc, .nilFunc, .nilFunc, .nilFunc, .nilFunc, .nilFunc, .nilFunc, .nilFunc, .nilFunc, .nilFunc, .nilFunc, .nilFunc, .nilFunc, .nilFunc, .nilFunc, .nilFunc, .nilFunc, .nilFunc, .nilFunc] 62)).heap[w.heap.size + 1 + 1]? = some (.cells #[.nilFunc, .nilFunc, .nilFunc, .nilFunc, .nilFunc, .nilFunc, .nilFunc, .nilFunc, .nilFunc, .nilFunc, .nilFunc, .nilFunc, .nilFunc, .nilFunc, .nilFunc, .nilFunc, .nilFunc, .nilFunc, .nilFunc, .nilFunc, .nilFunc, .nilFunc, .nilFunc, .nilFunc, .nilFunc, .nilFunc, .nilFunc, .nilFunc, .nilFunc, .nilFunc, .nilFunc, .nilFunc, .nilFunc, .nilFunc, .nilFunc, .nilFunc, .nilFunc, .nilFunc, .nilFunc, .nilFunc, .nilFunc, .nilFunc, .nilFunc, .nilFunc, .nilFunc] 62 (0, 0)) from by simpa using heap_alloc_new ((w.alloc (.cells #[.func (.func 54) #[] #[]] 60)).alloc (.cells #[.func (.func 57) #[] #[]] 60)) (.cells #[.nilFunc, .nilFunc, .nilFunc, .nilFunc, .nilFunc, .nilFunc, .nilFunc, .nilFunc, .nilFunc, .nilFunc, .nilFunc, .nilFunc, .nilFunc, .nilFunc, .nilFunc, .nilFunc, .nilFunc, .nilFunc, .nilFunc, .nilFunc, .nilFunc, .nilFunc, .nilFunc, .nilFunc, .nilFunc, .nilFunc, .nilFunc, .nilFunc, .nilFunc, .nilFunc, .nilFunc, .nilFunc, .nilFunc, .nilFunc, .nilFunc, .nilFunc, .nilFunc, .nilFunc, .nilFunc, .nilFunc, .nilFunc, .nilFunc, .nilFunc, .nilFunc, .nilFunc] 62))
  have HW := Lib.hid (aluW_u8 w)
  go_enter Tryz.func23, Tryz.ntmps23
  go_wp2_with fail
  refine (CA.out _ _).mono ?_
  rintro e w2 ⟨rfl, rfl⟩
  go_wp2_with fail
  refine (CA.out _ _).mono ?_
  rintro e w2 ⟨rfl, rfl⟩
  go_wp2_with (refine wpList_store_row rfl 62 (.tmp 11) (.tmp 15) rfl (w.heap.size + 1 + 1) #[.nilFunc, .func (.func 52) #[] #[], .func (.func 56) #[] #[], .func (.func 53) #[] #[], .func (.func 55) #[] #[], .func (.func 57) #[] #[], .func (.func 54) #[] #[], .func (.func 58) #[] #[], .func (.func 125) #[] #[.pointer (some ⟨w.heap.size, 0, none⟩)], .nilFunc, .func (.func 125) #[] #[.pointer (some ⟨w.heap.size + 1, 0, none⟩)], .nilFunc, .nilFunc, .nilFunc, .nilFunc, .nilFunc, .nilFunc, .nilFunc, .nilFunc, .nilFunc, .nilFunc, .nilFunc, .nilFunc, .nilFunc, .nilFunc, .nilFunc, .nilFunc, .nilFunc, .nilFunc, .nilFunc, .nilFunc, .nilFunc, .nilFunc, .nilFunc, .nilFunc, .nilFunc, .nilFunc, .nilFunc, .nilFunc, .nilFunc, .nilFunc, .nilFunc, .nilFunc, .nilFunc, .nilFunc] rfl rfl 62 _ HG.out (by kernel_rfl) rfl (by simp [Value.oneCell']) ?_; generalize hW9 : ((((w.alloc (.cells #[.func (.func 54) #[] #[]] 60)).alloc (.cells #[.func (.func 57) #[] #[]] 60)).alloc (.cells #[.nilFunc, .nilFunc, .nilFunc, .nilFunc, .nilFunc, .nilFunc, .nilFunc, .nilFunc, .nilFunc, .nilFunc, .nilFunc, .nilFunc, .nilFunc, .nilFunc, .nilFunc, .nilFunc, .nilFunc, .nilFunc, .nilFunc, .nilFunc, .nilFunc, .nilFunc, .nilFunc, .nilFunc, .nilFunc, .nilFunc, .nilFunc, .nilFunc, .nilFunc, .nilFunc, .nilFunc, .nilFunc, .nilFunc, .nilFunc, .nilFunc, .nilFunc, .nilFunc, .nilFunc, .nilFunc, .nilFunc, .nilFunc, .nilFunc, .nilFunc, .nilFunc, .nilFunc] 62)).setRow (w.heap.size + 1 + 1) #[.nilFunc, .func (.func 52) #[] #[], .func (.func 56) #[] #[], .func (.func 53) #[] #[], .func (.func 55) #[] #[], .func (.func 57) #[] #[], .func (.func 54) #[] #[], .func (.func 58) #[] #[], .func (.func 125) #[] #[.pointer (some ⟨w.heap.size, 0, none⟩)], .nilFunc, .func (.func 125) #[] #[.pointer (some ⟨w.heap.size + 1, 0, none⟩)], .nilFunc, .nilFunc, .nilFunc, .nilFunc, .nilFunc, .nilFunc, .nilFunc, .nilFunc, .nilFunc, .nilFunc, .nilFunc, .nilFunc, .nilFunc, .nilFunc, .nilFunc, .nilFunc, .nilFunc, .nilFunc, .nilFunc, .nilFunc, .nilFunc, .nilFunc, .nilFunc, .nilFunc, .nilFunc, .nilFunc, .nilFunc, .nilFunc, .nilFunc, .nilFunc, .nilFunc, .nilFunc, .nilFunc, .nilFunc]) = W9 at *; clear hW9)
  clear HG CA
  have hc := (cell_of_row _ _ 7 _ _ _ HW.out.row).trans (show (aluRow_u8 w.heap.size)[7]? = some (.func (.func 58) #[] #[]) from rfl)
  have KE := fun W => eqNo2_u8 (.func 58) #[] #[] W
  refine (CO.out _).mono ?_
  rintro e w2 ⟨rfl, rfl⟩
  go_wp2_with fail
  refine (CX.out _).mono ?_
  rintro e w2 ⟨rfl, rfl⟩
  go_wp2
  go_ret3
  exact ⟨rfl, HW.out.be⟩
set_option maxRecDepth 100000 in
set_option maxHeartbeats 1000000 in
theorem alu8_u8 (a b f : Int) (V F : Int) (CX : Hid (∀ w, Calls Tryz.prog 54 #[.int .u8 (a % 256), .int .u8 (b % 256), .int .i64 f] w fun e w' => e = .returned (.tuple #[.int .u8 V, .int .i64 F]) ∧ w = w')) (w : World) : Calls Tryz.prog 23 #[.int .i64 8, .int .i64 a, .int .i64 b, .int .i64 f] w fun e w' => e = .returned (.tuple #[.int .i64 (wrap64 (a % 256)), .int .i64 F, .int .i64 0]) ∧ Below w.heap.size w w' := by
  have CO := Lib.hid (fun w => isOpYes 8 w (by decide) (by decide))
  have CA := Lib.hid aloneC_u8
  have HG := Lib.hid (show (((w.alloc (.cells #[.func (.func 54) #[] #[]] 60)).alloc (.cells #[.func (.func 57) #[] #[]] 60)).alloc (.cells #[.nilFunc, .nilFunc, .nilFunc, .nilFunc, .nilFunc, .nilFunc, .nilFunc, .nilFunc, .nilFunc, .nilFunc, .nilFunc, .nilFunc, .nilFunc, .nilFunc, .nilFunc, .nilFunc, .nilFunc, .nilFunc, .nilFunc, .nilFunc, .nilFunc, .nilFunc, .nilFunc, .nilFunc, .nilFunc, .nilFunc, .nilFunc, .nilFunc, .nilFunc, .nilFunc, .nilFunc, .nilFunc, .nilFunc, .nilFunc, .nilFunc, .nilFunc, .nilFunc, .nilFunc, .nilFunc, .nilFunc, .nilFunc, .nilFunc, .nilFunc, .nilFunc, .nilFunc] 62)).heap[w.heap.size + 1 + 1]? = some (.cells #[.nilFunc, .nilFunc, .nilFunc, .nilFunc, .nilFunc, .nilFunc, .nilFunc, .nilFunc, .nilFunc, .nilFunc, .nilFunc, .nilFunc, .nilFunc, .nilFunc, .nilFunc, .nilFunc, .nilFunc, .nilFunc, .nilFunc, .nilFunc, .nilFunc, .nilFunc, .nilFunc, .nilFunc, .nilFunc, .nilFunc, .nilFunc, .nilFunc, .nilFunc, .nilFunc, .nilFunc, .nilFunc, .nilFunc, .nilFunc, .nilFunc, .nilFunc, .nilFunc, .nilFunc, .nilFunc, .nilFunc, .nilFunc, .nilFunc, .nilFunc, .nilFunc, .nilFunc] 62 (0, 0)) from by simpa using heap_alloc_new ((w.alloc (.cells #[.func (.func 54) #[] #[]] 60)).alloc (.cells #[.func (.func 57) #[] #[]] 60)) (.cells #[.nilFunc, .nilFunc, .nilFunc, .nilFunc, .nilFunc, .nilFunc, .nilFunc, .nilFunc, .nilFunc, .nilFunc, .nilFunc, .nilFunc, .nilFunc, .nilFunc, .nilFunc, .nilFunc, .nilFunc, .nilFunc, .nilFunc, .nilFunc, .nilFunc, .nilFunc, .nilFunc, .nilFunc, .nilFunc, .nilFunc, .nilFunc, .nilFunc, .nilFunc, .nilFunc, .nilFunc, .nilFunc, .nilFunc, .nilFunc, .nilFunc, .nilFunc, .nilFunc, .nilFunc, .nilFunc, .nilFunc, .nilFunc, .nilFunc, .nilFunc, .nilFunc, .nilFunc] 62))
  have HW := Lib.hid (aluW_u8 w)
  go_enter Tryz.func23, Tryz.ntmps23
  go_wp2_with fail
  refine (CA.out _ _).mono ?_
  rintro e w2 ⟨rfl, rfl⟩
  go_wp2_with fail
  refine (CA.out _ _).mono ?_
  rintro e w2 ⟨rfl, rfl⟩
  go_wp2_with (refine wpList_store_row rfl 62 (.tmp 11) (.tmp 15) rfl (w.heap.size + 1 + 1) #[.nilFunc, .func (.func 52) #[] #[], .func (.func 56) #[] #[], .func (.func 53) #[] #[], .func (.func 55) #[] #[], .func (.func 57) #[] #[], .func (.func 54) #[] #[], .func (.func 58) #[] #[], .func (.func 125) #[] #[.pointer (some ⟨w.heap.size, 0, none⟩)], .nilFunc, .func (.func 125) #[] #[.pointer (some ⟨w.heap.size + 1, 0, none⟩)], .nilFunc, .nilFunc, .nilFunc, .nilFunc, .nilFunc, .nilFunc, .nilFunc, .nilFunc, .nilFunc, .nilFunc, .nilFunc, .nilFunc, .nilFunc, .nilFunc, .nilFunc, .nilFunc, .nilFunc, .nilFunc, .nilFunc, .nilFunc, .nilFunc, .nilFunc, .nilFunc, .nilFunc, .nilFunc, .nilFunc, .nilFunc, .nilFunc, .nilFunc, .nilFunc, .nilFunc, .nilFunc, .nilFunc, .nilFunc] rfl rfl 62 _ HG.out (by kernel_rfl) rfl (by simp [Value.oneCell']) ?_; generalize hW9 : ((((w.alloc (.cells #[.func (.func 54) #[] #[]] 60)).alloc (.cells #[.func (.func 57) #[] #[]] 60)).alloc (.cells #[.nilFunc, .nilFunc, .nilFunc, .nilFunc, .nilFunc, .nilFunc, .nilFunc, .nilFunc, .nilFunc, .nilFunc, .nilFunc, .nilFunc, .nilFunc, .nilFunc, .nilFunc, .nilFunc, .nilFunc, .nilFunc, .nilFunc, .nilFunc, .nilFunc, .nilFunc, .nilFunc, .nilFunc, .nilFunc, .nilFunc, .nilFunc, .nilFunc, .nilFunc, .nilFunc, .nilFunc, .nilFunc, .nilFunc, .nilFunc, .nilFunc, .nilFunc, .nilFunc, .nilFunc, .nilFunc, .nilFunc, .nilFunc, .nilFunc, .nilFunc, .nilFunc, .nilFunc] 62)).setRow (w.heap.size + 1 + 1) #[.nilFunc, .func (.func 52) #[] #[], .func (.func 56) #[] #[], .func (.func 53) #[] #[], .func (.func 55) #[] #[], .func (.func 57) #[] #[], .func (.func 54) #[] #[], .func (.func 58) #[] #[], .func (.func 125) #[] #[.pointer (some ⟨w.heap.size, 0, none⟩)], .nilFunc, .func (.func 125) #[] #[.pointer (some ⟨w.heap.size + 1, 0, none⟩)], .nilFunc, .nilFunc, .nilFunc, .nilFunc, .nilFunc, .nilFunc, .nilFunc, .nilFunc, .nilFunc, .nilFunc, .nilFunc, .nilFunc, .nilFunc, .nilFunc, .nilFunc, .nilFunc, .nilFunc, .nilFunc, .nilFunc, .nilFunc, .nilFunc, .nilFunc, .nilFunc, .nilFunc, .nilFunc, .nilFunc, .nilFunc, .nilFunc, .nilFunc, .nilFunc, .nilFunc, .nilFunc, .nilFunc, .nilFunc]) = W9 at *; clear hW9)
  clear HG CA
  have hc := (cell_of_row _ _ 8 _ _ _ HW.out.row).trans (show (aluRow_u8 w.heap.size)[8]? = some (.func (.func 125) #[] #[.pointer (some ⟨w.heap.size, 0, none⟩)]) from rfl)
  have KE := fun W => eqNo2_u8 (.func 125) #[] #[.pointer (some ⟨w.heap.size, 0, none⟩)] W
  refine (CO.out _).mono ?_
  rintro e w2 ⟨rfl, rfl⟩
  go_wp2_with fail
  refine (alone_subtract_u8 _ _ _ _ V F _ HW.out.b1 CX).mono ?_
  rintro e w2 ⟨rfl, rfl⟩
  go_wp2
  go_ret3
  refine ⟨ret_3 ?_, HW.out.be⟩
  first | rfl | (unfold wrap64; omega)
set_option maxRecDepth 100000 in
set_option maxHeartbeats 1000000 in
theorem alu10_u8 (a b f : Int) (V F : Int) (CX : Hid (∀ w, Calls Tryz.prog 57 #[.int .u8 (a % 256), .int .u8 (b % 256), .int .i64 f] w fun e w' => e = .returned (.tuple #[.int .u8 V, .int .i64 F]) ∧ w = w')) (w : World) : Calls Tryz.prog 23 #[.int .i64 10, .int .i64 a, .int .i64 b, .int .i64 f] w fun e w' => e = .returned (.tuple #[.int .i64 (wrap64 (a % 256)), .int .i64 F, .int .i64 0]) ∧ Below w.heap.size w w' := by
  have CO := Lib.hid (fun w => isOpYes 10 w (by decide) (by decide))
  have CA := Lib.hid aloneC_u8
  have HG := Lib.hid (show (((w.alloc (.cells #[.func (.func 54) #[] #[]] 60)).alloc (.cells #[.func (.func 57) #[] #[]] 60)).alloc (.cells #[.nilFunc, .nilFunc, .nilFunc, .nilFunc, .nilFunc, .nilFunc, .nilFunc, .nilFunc, .nilFunc, .nilFunc, .nilFunc, .nilFunc, .nilFunc, .nilFunc, .nilFunc, .nilFunc, .nilFunc, .nilFunc, .nilFunc, .nilFunc, .nilFunc, .nilFunc, .nilFunc, .nilFunc, .nilFunc, .nilFunc, .nilFunc, .nilFunc, .nilFunc, .nilFunc, .nilFunc, .nilFunc, .nilFunc, .nilFunc, .nilFunc, .nilFunc, .nilFunc, .nilFunc, .nilFunc, .nilFunc, .nilFunc, .nilFunc, .nilFunc, .nilFunc, .nilFunc] 62)).heap[w.heap.size + 1 + 1]? = some (.cells #[.nilFunc, .nilFunc, .nilFunc, .nilFunc, .nilFunc, .nilFunc, .nilFunc, .nilFunc, .nilFunc, .nilFunc, .nilFunc, .nilFunc, .nilFunc, .nilFunc, .nilFunc, .nilFunc, .nilFunc, .nilFunc, .nilFunc, .nilFunc, .nilFunc, .nilFunc, .nilFunc, .nilFunc, .nilFunc, .nilFunc, .nilFunc, .nilFunc, .nilFunc, .nilFunc, .nilFunc, .nilFunc, .nilFunc, .nilFunc, .nilFunc, .nilFunc, .nilFunc, .nilFunc, .nilFunc, .nilFunc, .nilFunc, .nilFunc, .nilFunc, .nilFunc, .nilFunc] 62 (0, 0)) from by simpa using heap_alloc_new ((w.alloc (.cells #[.func (.func 54) #[] #[]] 60)).alloc (.cells #[.func (.func 57) #[] #[]] 60)) (.cells #[.nilFunc, .nilFunc, .nilFunc, .nilFunc, .nilFunc, .nilFunc, .nilFunc, .nilFunc, .nilFunc, .nilFunc, .nilFunc, .nilFunc, .nilFunc, .nilFunc, .nilFunc, .nilFunc, .nilFunc, .nilFunc, .nilFunc, .nilFunc, .nilFunc, .nilFunc, .nilFunc, .nilFunc, .nilFunc, .nilFunc, .nilFunc, .nilFunc, .nilFunc, .nilFunc, .nilFunc, .nilFunc, .nilFunc, .nilFunc, .nilFunc, .nilFunc, .nilFunc, .nilFunc, .nilFunc, .nilFunc, .nilFunc, .nilFunc, .nilFunc, .nilFunc, .nilFunc] 62))
  have HW := Lib.hid (aluW_u8 w)
  go_enter Tryz.func23, Tryz.ntmps23
  go_wp2_with fail
  refine (CA.out _ _).mono ?_
  rintro e w2 ⟨rfl, rfl⟩
  go_wp2_with fail
  refine (CA.out _ _).mono ?_
  rintro e w2 ⟨rfl, rfl⟩
  go_wp2_with (refine wpList_store_row rfl 62 (.tmp 11) (.tmp 15) rfl (w.heap.size + 1 + 1) #[.nilFunc, .func (.func 52) #[] #[], .func (.func 56) #[] #[], .func (.func 53) #[] #[], .func (.func 55) #[] #[], .func (.func 57) #[] #[], .func (.func 54) #[] #[], .func (.func 58) #[] #[], .func (.func 125) #[] #[.pointer (some ⟨w.heap.size, 0, none⟩)], .nilFunc, .func (.func 125) #[] #[.pointer (some ⟨w.heap.size + 1, 0, none⟩)], .nilFunc, .nilFunc, .nilFunc, .nilFunc, .nilFunc, .nilFunc, .nilFunc, .nilFunc, .nilFunc, .nilFunc, .nilFunc, .nilFunc, .nilFunc, .nilFunc, .nilFunc, .nilFunc, .nilFunc, .nilFunc, .nilFunc, .nilFunc, .nilFunc, .nilFunc, .nilFunc, .nilFunc, .nilFunc, .nilFunc, .nilFunc, .nilFunc, .nilFunc, .nilFunc, .nilFunc, .nilFunc, .nilFunc, .nilFunc] rfl rfl 62 _ HG.out (by kernel_rfl) rfl (by simp [Value.oneCell']) ?_; generalize hW9 : ((((w.alloc (.cells #[.func (.func 54) #[] #[]] 60)).alloc (.cells #[.func (.func 57) #[] #[]] 60)).alloc (.cells #[.nilFunc, .nilFunc, .nilFunc, .nilFunc, .nilFunc, .nilFunc, .nilFunc, .nilFunc, .nilFunc, .nilFunc, .nilFunc, .nilFunc, .nilFunc, .nilFunc, .nilFunc, .nilFunc, .nilFunc, .nilFunc, .nilFunc, .nilFunc, .nilFunc, .nilFunc, .nilFunc, .nilFunc, .nilFunc, .nilFunc, .nilFunc, .nilFunc, .nilFunc, .nilFunc, .nilFunc, .nilFunc, .nilFunc, .nilFunc, .nilFunc, .nilFunc, .nilFunc, .nilFunc, .nilFunc, .nilFunc, .nilFunc, .nilFunc, .nilFunc, .nilFunc, .nilFunc] 62)).setRow (w.heap.size + 1 + 1) #[.nilFunc, .func (.func 52) #[] #[], .func (.func 56) #[] #[], .func (.func 53) #[] #[], .func (.func 55) #[] #[], .func (.func 57) #[] #[], .func (.func 54) #[] #[], .func (.func 58) #[] #[], .func (.func 125) #[] #[.pointer (some ⟨w.heap.size, 0, none⟩)], .nilFunc, .func (.func 125) #[] #[.pointer (some ⟨w.heap.size + 1, 0, none⟩)], .nilFunc, .nilFunc, .nilFunc, .nilFunc, .nilFunc, .nilFunc, .nilFunc, .nilFunc, .nilFunc, .nilFunc, .nilFunc, .nilFunc, .nilFunc, .nilFunc, .nilFunc, .nilFunc, .nilFunc, .nilFunc, .nilFunc, .nilFunc, .nilFunc, .nilFunc, .nilFunc, .nilFunc, .nilFunc, .nilFunc, .nilFunc, .nilFunc, .nilFunc, .nilFunc, .nilFunc, .nilFunc, .nilFunc, .nilFunc]) = W9 at *; clear hW9)
  clear HG CA
  have hc := (cell_of_row _ _ 10 _ _ _ HW.out.row).trans (show (aluRow_u8 w.heap.size)[10]? = some (.func (.func 125) #[] #[.pointer (some ⟨w.heap.size + 1, 0, none⟩)]) from rfl)
  have KE := fun W => eqNo2_u8 (.func 125) #[] #[.pointer (some ⟨w.heap.size + 1, 0, none⟩)] W
  refine (CO.out _).mono ?_
  rintro e w2 ⟨rfl, rfl⟩
  go_wp2_with fail
  refine (alone_bitsAnd_u8 _ _ _ _ V F _ HW.out.b2 CX).mono ?_
  rintro e w2 ⟨rfl, rfl⟩
  go_wp2
  go_ret3
  refine ⟨ret_3 ?_, HW.out.be⟩
  first | rfl | (unfold wrap64; omega)
theorem alu_nil_u8 (n i : Nat) (h : i < 45) (hn : i ≠ 1 ∧ i ≠ 2 ∧ i ≠ 3 ∧ i ≠ 4 ∧ i ≠ 5 ∧ i ≠ 6 ∧ i ≠ 7 ∧ i ≠ 8 ∧ i ≠ 10) : (aluRow_u8 n)[i]? = some .nilFunc := by
  have K : ∀ i, i < 45 → (i ≠ 1 ∧ i ≠ 2 ∧ i ≠ 3 ∧ i ≠ 4 ∧ i ≠ 5 ∧ i ≠ 6 ∧ i ≠ 7 ∧ i ≠ 8 ∧ i ≠ 10) → (aluRow_u8 n)[i]? = some .nilFunc := by
    intro i h hn
    rcases (by omega : i = 0 ∨ i = 9 ∨ i = 11 ∨ i = 12 ∨ i = 13 ∨ i = 14 ∨ i = 15 ∨ i = 16 ∨ i = 17 ∨ i = 18 ∨ i = 19 ∨ i = 20 ∨ i = 21 ∨ i = 22 ∨ i = 23 ∨ i = 24 ∨ i = 25 ∨ i = 26 ∨ i = 27 ∨ i = 28 ∨ i = 29 ∨ i = 30 ∨ i = 31 ∨ i = 32 ∨ i = 33 ∨ i = 34 ∨ i = 35 ∨ i = 36 ∨ i = 37 ∨ i = 38 ∨ i = 39 ∨ i = 40 ∨ i = 41 ∨ i = 42 ∨ i = 43 ∨ i = 44) with rfl | rfl | rfl | rfl | rfl | rfl | rfl | rfl | rfl | rfl | rfl | rfl | rfl | rfl | rfl | rfl | rfl | rfl | rfl | rfl | rfl | rfl | rfl | rfl | rfl | rfl | rfl | rfl | rfl | rfl | rfl | rfl | rfl | rfl | rfl | rfl
    all_goals rfl
  exact K i h hn
set_option maxRecDepth 100000 in
set_option maxHeartbeats 1000000 in
theorem aluNil_u8 (op a b f : Int) (h1 : 1 ≤ op) (h2 : op ≤ 44) (h3 : ¬ (op ≤ 8 ∨ op = 10)) (w : World) : Calls Tryz.prog 23 #[.int .i64 op, .int .i64 a, .int .i64 b, .int .i64 f] w fun e w' => e = .returned (.tuple #[.int .i64 0, .int .i64 0, .int .i64 11]) ∧ Below w.heap.size w w' := by
  have CO := Lib.hid (fun w => isOpYes op w h1 h2)
  have CA := Lib.hid aloneC_u8
  have HG := Lib.hid (show (((w.alloc (.cells #[.func (.func 54) #[] #[]] 60)).alloc (.cells #[.func (.func 57) #[] #[]] 60)).alloc (.cells #[.nilFunc, .nilFunc, .nilFunc, .nilFunc, .nilFunc, .nilFunc, .nilFunc, .nilFunc, .nilFunc, .nilFunc, .nilFunc, .nilFunc, .nilFunc, .nilFunc, .nilFunc, .nilFunc, .nilFunc, .nilFunc, .nilFunc, .nilFunc, .nilFunc, .nilFunc, .nilFunc, .nilFunc, .nilFunc, .nilFunc, .nilFunc, .nilFunc, .nilFunc, .nilFunc, .nilFunc, .nilFunc, .nilFunc, .nilFunc, .nilFunc, .nilFunc, .nilFunc, .nilFunc, .nilFunc, .nilFunc, .nilFunc, .nilFunc, .nilFunc, .nilFunc, .nilFunc] 62)).heap[w.heap.size + 1 + 1]? = some (.cells #[.nilFunc, .nilFunc, .nilFunc, .nilFunc, .nilFunc, .nilFunc, .nilFunc, .nilFunc, .nilFunc, .nilFunc, .nilFunc, .nilFunc, .nilFunc, .nilFunc, .nilFunc, .nilFunc, .nilFunc, .nilFunc, .nilFunc, .nilFunc, .nilFunc, .nilFunc, .nilFunc, .nilFunc, .nilFunc, .nilFunc, .nilFunc, .nilFunc, .nilFunc, .nilFunc, .nilFunc, .nilFunc, .nilFunc, .nilFunc, .nilFunc, .nilFunc, .nilFunc, .nilFunc, .nilFunc, .nilFunc, .nilFunc, .nilFunc, .nilFunc, .nilFunc, .nilFunc] 62 (0, 0)) from by simpa using heap_alloc_new ((w.alloc (.cells #[.func (.func 54) #[] #[]] 60)).alloc (.cells #[.func (.func 57) #[] #[]] 60)) (.cells #[.nilFunc, .nilFunc, .nilFunc, .nilFunc, .nilFunc, .nilFunc, .nilFunc, .nilFunc, .nilFunc, .nilFunc, .nilFunc, .nilFunc, .nilFunc, .nilFunc, .nilFunc, .nilFunc, .nilFunc, .nilFunc, .nilFunc, .nilFunc, .nilFunc, .nilFunc, .nilFunc, .nilFunc, .nilFunc, .nilFunc, .nilFunc, .nilFunc, .nilFunc, .nilFunc, .nilFunc, .nilFunc, .nilFunc, .nilFunc, .nilFunc, .nilFunc, .nilFunc, .nilFunc, .nilFunc, .nilFunc, .nilFunc, .nilFunc, .nilFunc, .nilFunc, .nilFunc] 62))
  have HW := Lib.hid (aluW_u8 w)
  go_enter Tryz.func23, Tryz.ntmps23
  go_wp2_with fail
  refine (CA.out _ _).mono ?_
  rintro e w2 ⟨rfl, rfl⟩
  go_wp2_with fail
  refine (CA.out _ _).mono ?_
  rintro e w2 ⟨rfl, rfl⟩
  go_wp2_with (refine wpList_store_row rfl 62 (.tmp 11) (.tmp 15) rfl (w.heap.size + 1 + 1) #[.nilFunc, .func (.func 52) #[] #[], .func (.func 56) #[] #[], .func (.func 53) #[] #[], .func (.func 55) #[] #[], .func (.func 57) #[] #[], .func (.func 54) #[] #[], .func (.func 58) #[] #[], .func (.func 125) #[] #[.pointer (some ⟨w.heap.size, 0, none⟩)], .nilFunc, .func (.func 125) #[] #[.pointer (some ⟨w.heap.size + 1, 0, none⟩)], .nilFunc, .nilFunc, .nilFunc, .nilFunc, .nilFunc, .nilFunc, .nilFunc, .nilFunc, .nilFunc, .nilFunc, .nilFunc, .nilFunc, .nilFunc, .nilFunc, .nilFunc, .nilFunc, .nilFunc, .nilFunc, .nilFunc, .nilFunc, .nilFunc, .nilFunc, .nilFunc, .nilFunc, .nilFunc, .nilFunc, .nilFunc, .nilFunc, .nilFunc, .nilFunc, .nilFunc, .nilFunc, .nilFunc, .nilFunc] rfl rfl 62 _ HG.out (by kernel_rfl) rfl (by simp [Value.oneCell']) ?_; generalize hW9 : ((((w.alloc (.cells #[.func (.func 54) #[] #[]] 60)).alloc (.cells #[.func (.func 57) #[] #[]] 60)).alloc (.cells #[.nilFunc, .nilFunc, .nilFunc, .nilFunc, .nilFunc, .nilFunc, .nilFunc, .nilFunc, .nilFunc, .nilFunc, .nilFunc, .nilFunc, .nilFunc, .nilFunc, .nilFunc, .nilFunc, .nilFunc, .nilFunc, .nilFunc, .nilFunc, .nilFunc, .nilFunc, .nilFunc, .nilFunc, .nilFunc, .nilFunc, .nilFunc, .nilFunc, .nilFunc, .nilFunc, .nilFunc, .nilFunc, .nilFunc, .nilFunc, .nilFunc, .nilFunc, .nilFunc, .nilFunc, .nilFunc, .nilFunc, .nilFunc, .nilFunc, .nilFunc, .nilFunc, .nilFunc] 62)).setRow (w.heap.size + 1 + 1) #[.nilFunc, .func (.func 52) #[] #[], .func (.func 56) #[] #[], .func (.func 53) #[] #[], .func (.func 55) #[] #[], .func (.func 57) #[] #[], .func (.func 54) #[] #[], .func (.func 58) #[] #[], .func (.func 125) #[] #[.pointer (some ⟨w.heap.size, 0, none⟩)], .nilFunc, .func (.func 125) #[] #[.pointer (some ⟨w.heap.size + 1, 0, none⟩)], .nilFunc, .nilFunc, .nilFunc, .nilFunc, .nilFunc, .nilFunc, .nilFunc, .nilFunc, .nilFunc, .nilFunc, .nilFunc, .nilFunc, .nilFunc, .nilFunc, .nilFunc, .nilFunc, .nilFunc, .nilFunc, .nilFunc, .nilFunc, .nilFunc, .nilFunc, .nilFunc, .nilFunc, .nilFunc, .nilFunc, .nilFunc, .nilFunc, .nilFunc, .nilFunc, .nilFunc, .nilFunc, .nilFunc, .nilFunc]) = W9 at *; clear hW9)
  clear HG CA
  have hc := (cell_of_row _ _ op.toNat _ _ _ HW.out.row).trans (alu_nil_u8 w.heap.size op.toNat (by omega) (by omega))
  have KE := eqYes2_u8
  refine (CO.out _).mono ?_
  rintro e w2 ⟨rfl, rfl⟩
  go_wp2
  go_ret3
  exact ⟨rfl, HW.out.be⟩
set_option maxRecDepth 100000 in
set_option maxHeartbeats 1000000 in
theorem aluNo_u8 (op a b f : Int) (h : ¬ (1 ≤ op ∧ op ≤ 44)) (w : World) : Calls Tryz.prog 23 #[.int .i64 op, .int .i64 a, .int .i64 b, .int .i64 f] w fun e w' => e = .returned (.tuple #[.int .i64 0, .int .i64 0, .int .i64 11]) ∧ Below w.heap.size w w' := by
  have CO := Lib.hid (fun w => isOpNo op w h)
  clear h
  have CA := Lib.hid aloneC_u8
  have HG := Lib.hid (show (((w.alloc (.cells #[.func (.func 54) #[] #[]] 60)).alloc (.cells #[.func (.func 57) #[] #[]] 60)).alloc (.cells #[.nilFunc, .nilFunc, .nilFunc, .nilFunc, .nilFunc, .nilFunc, .nilFunc, .nilFunc, .nilFunc, .nilFunc, .nilFunc, .nilFunc, .nilFunc, .nilFunc, .nilFunc, .nilFunc, .nilFunc, .nilFunc, .nilFunc, .nilFunc, .nilFunc, .nilFunc, .nilFunc, .nilFunc, .nilFunc, .nilFunc, .nilFunc, .nilFunc, .nilFunc, .nilFunc, .nilFunc, .nilFunc, .nilFunc, .nilFunc, .nilFunc, .nilFunc, .nilFunc, .nilFunc, .nilFunc, .nilFunc, .nilFunc, .nilFunc, .nilFunc, .nilFunc, .nilFunc] 62)).heap[w.heap.size + 1 + 1]? = some (.cells #[.nilFunc, .nilFunc, .nilFunc, .nilFunc, .nilFunc, .nilFunc, .nilFunc, .nilFunc, .nilFunc, .nilFunc, .nilFunc, .nilFunc, .nilFunc, .nilFunc, .nilFunc, .nilFunc, .nilFunc, .nilFunc, .nilFunc, .nilFunc, .nilFunc, .nilFunc, .nilFunc, .nilFunc, .nilFunc, .nilFunc, .nilFunc, .nilFunc, .nilFunc, .nilFunc, .nilFunc, .nilFunc, .nilFunc, .nilFunc, .nilFunc, .nilFunc, .nilFunc, .nilFunc, .nilFunc, .nilFunc, .nilFunc, .nilFunc, .nilFunc, .nilFunc, .nilFunc] 62 (0, 0)) from by simpa using heap_alloc_new ((w.alloc (.cells #[.func (.func 54) #[] #[]] 60)).alloc (.cells #[.func (.func 57) #[] #[]] 60)) (.cells #[.nilFunc, .nilFunc, .nilFunc, .nilFunc, .nilFunc, .nilFunc, .nilFunc, .nilFunc, .nilFunc, .nilFunc, .nilFunc, .nilFunc, .nilFunc, .nilFunc, .nilFunc, .nilFunc, .nilFunc, .nilFunc, .nilFunc, .nilFunc, .nilFunc, .nilFunc, .nilFunc, .nilFunc, .nilFunc, .nilFunc, .nilFunc, .nilFunc, .nilFunc, .nilFunc, .nilFunc, .nilFunc, .nilFunc, .nilFunc, .nilFunc, .nilFunc, .nilFunc, .nilFunc, .nilFunc, .nilFunc, .nilFunc, .nilFunc, .nilFunc, .nilFunc, .nilFunc] 62))
  have HW := Lib.hid (aluW_u8 w)
  go_enter Tryz.func23, Tryz.ntmps23
  go_wp2_with fail
  refine (CA.out _ _).mono ?_
  rintro e w2 ⟨rfl, rfl⟩
  go_wp2_with fail
  refine (CA.out _ _).mono ?_
  rintro e w2 ⟨rfl, rfl⟩
  go_wp2_with (refine wpList_store_row rfl 62 (.tmp 11) (.tmp 15) rfl (w.heap.size + 1 + 1) #[.nilFunc, .func (.func 52) #[] #[], .func (.func 56) #[] #[], .func (.func 53) #[] #[], .func (.func 55) #[] #[], .func (.func 57) #[] #[], .func (.func 54) #[] #[], .func (.func 58) #[] #[], .func (.func 125) #[] #[.pointer (some ⟨w.heap.size, 0, none⟩)], .nilFunc, .func (.func 125) #[] #[.pointer (some ⟨w.heap.size + 1, 0, none⟩)], .nilFunc, .nilFunc, .nilFunc, .nilFunc, .nilFunc, .nilFunc, .nilFunc, .nilFunc, .nilFunc, .nilFunc, .nilFunc, .nilFunc, .nilFunc, .nilFunc, .nilFunc, .nilFunc, .nilFunc, .nilFunc, .nilFunc, .nilFunc, .nilFunc, .nilFunc, .nilFunc, .nilFunc, .nilFunc, .nilFunc, .nilFunc, .nilFunc, .nilFunc, .nilFunc, .nilFunc, .nilFunc, .nilFunc, .nilFunc] rfl rfl 62 _ HG.out (by kernel_rfl) rfl (by simp [Value.oneCell']) ?_; generalize hW9 : ((((w.alloc (.cells #[.func (.func 54) #[] #[]] 60)).alloc (.cells #[.func (.func 57) #[] #[]] 60)).alloc (.cells #[.nilFunc, .nilFunc, .nilFunc, .nilFunc, .nilFunc, .nilFunc, .nilFunc, .nilFunc, .nilFunc, .nilFunc, .nilFunc, .nilFunc, .nilFunc, .nilFunc, .nilFunc, .nilFunc, .nilFunc, .nilFunc, .nilFunc, .nilFunc, .nilFunc, .nilFunc, .nilFunc, .nilFunc, .nilFunc, .nilFunc, .nilFunc, .nilFunc, .nilFunc, .nilFunc, .nilFunc, .nilFunc, .nilFunc, .nilFunc, .nilFunc, .nilFunc, .nilFunc, .nilFunc, .nilFunc, .nilFunc, .nilFunc, .nilFunc, .nilFunc, .nilFunc, .nilFunc] 62)).setRow (w.heap.size + 1 + 1) #[.nilFunc, .func (.func 52) #[] #[], .func (.func 56) #[] #[], .func (.func 53) #[] #[], .func (.func 55) #[] #[], .func (.func 57) #[] #[], .func (.func 54) #[] #[], .func (.func 58) #[] #[], .func (.func 125) #[] #[.pointer (some ⟨w.heap.size, 0, none⟩)], .nilFunc, .func (.func 125) #[] #[.pointer (some ⟨w.heap.size + 1, 0, none⟩)], .nilFunc, .nilFunc, .nilFunc, .nilFunc, .nilFunc, .nilFunc, .nilFunc, .nilFunc, .nilFunc, .nilFunc, .nilFunc, .nilFunc, .nilFunc, .nilFunc, .nilFunc, .nilFunc, .nilFunc, .nilFunc, .nilFunc, .nilFunc, .nilFunc, .nilFunc, .nilFunc, .nilFunc, .nilFunc, .nilFunc, .nilFunc, .nilFunc, .nilFunc, .nilFunc, .nilFunc, .nilFunc, .nilFunc, .nilFunc]) = W9 at *; clear hW9)
  clear HG CA
  refine (CO.out _).mono ?_
  rintro e w2 ⟨rfl, rfl⟩
  go_wp2
  go_ret3
  exact ⟨rfl, HW.out.be⟩
end Go.Proofs.YtifpcfhfglkbcaaGreatDoor
