/-
  The tables of steps of impl/l06_flags.go for numbers of 32 bits, and what alu and one answer; conditions: those in each head.
-/
import Derived.Test.YtifpcfhfglkbcaaGreatDoorWalkFlB8
import Derived.Great.Walk
namespace Go.Proofs.YtifpcfhfglkbcaaGreatDoor
open Go.RowKit
set_option linter.unusedVariables false
set_option linter.unusedSimpArgs false
set_option maxHeartbeats 400000 in
theorem add_u32 (A B : Nat) (f : Int) (hA : A < 2 ^ 32) (hB : B < 2 ^ 32) (w : World) : Calls Tryz.prog 69 #[.int .u32 (A : Int), .int .u32 (B : Int), .int .i64 f] w fun e w' => e = .returned (.tuple #[.int .u32 ((sumN 32 A B 0 : Nat) : Int), .int .i64 (sumF 32 A B 0)]) ∧ w = w' := by
  have CP := Lib.hid (show ∀ w, Calls Tryz.prog 129 #[.int .u32 (A : Int), .int .u32 (B : Int), .int .u32 0] w fun e w' => e = .returned (.tuple #[.int .u32 ((sumN 32 A B 0 : Nat) : Int), .int .i64 (sumF 32 A B 0)]) ∧ w = w' from fun w => plus_u32 A B 0 hA hB (by decide) w)
  clear hA hB
  go_enter Tryz.func69, Tryz.ntmps69
  go_wp2_with fail
  refine (CP.out _).mono ?_
  rintro e w1 ⟨rfl, rfl⟩
  go_wp2
  go_ret2
  exact ⟨rfl, rfl⟩
set_option maxHeartbeats 400000 in
theorem addCarry0_u32 (A B : Nat) (f : Int) (hA : A < 2 ^ 32) (hB : B < 2 ^ 32) (hf : bits .and .i64 f 1 = 0) (w : World) : Calls Tryz.prog 70 #[.int .u32 (A : Int), .int .u32 (B : Int), .int .i64 f] w fun e w' => e = .returned (.tuple #[.int .u32 ((sumN 32 A B 0 : Nat) : Int), .int .i64 (sumF 32 A B 0)]) ∧ w = w' := by
  have CP := Lib.hid (show ∀ w, Calls Tryz.prog 129 #[.int .u32 (A : Int), .int .u32 (B : Int), .int .u32 0] w fun e w' => e = .returned (.tuple #[.int .u32 ((sumN 32 A B 0 : Nat) : Int), .int .i64 (sumF 32 A B 0)]) ∧ w = w' from fun w => plus_u32 A B 0 hA hB (by decide) w)
  clear hA hB
  go_enter Tryz.func70, Tryz.ntmps70
  go_wp2_with fail
  refine (CP.out _).mono ?_
  rintro e w1 ⟨rfl, rfl⟩
  go_wp2
  go_ret2
  exact ⟨rfl, rfl⟩
set_option maxHeartbeats 400000 in
theorem addCarry1_u32 (A B : Nat) (f : Int) (hA : A < 2 ^ 32) (hB : B < 2 ^ 32) (hf : bits .and .i64 f 1 = 1) (w : World) : Calls Tryz.prog 70 #[.int .u32 (A : Int), .int .u32 (B : Int), .int .i64 f] w fun e w' => e = .returned (.tuple #[.int .u32 ((sumN 32 A B 1 : Nat) : Int), .int .i64 (sumF 32 A B 1)]) ∧ w = w' := by
  have CP := Lib.hid (show ∀ w, Calls Tryz.prog 129 #[.int .u32 (A : Int), .int .u32 (B : Int), .int .u32 1] w fun e w' => e = .returned (.tuple #[.int .u32 ((sumN 32 A B 1 : Nat) : Int), .int .i64 (sumF 32 A B 1)]) ∧ w = w' from fun w => plus_u32 A B 1 hA hB (by decide) w)
  clear hA hB
  go_enter Tryz.func70, Tryz.ntmps70
  go_wp2_with fail
  refine (CP.out _).mono ?_
  rintro e w1 ⟨rfl, rfl⟩
  go_wp2
  go_ret2
  exact ⟨rfl, rfl⟩
set_option maxHeartbeats 400000 in
theorem subtract_u32 (A B : Nat) (f : Int) (hA : A < 2 ^ 32) (hB : B < 2 ^ 32) (w : World) : Calls Tryz.prog 71 #[.int .u32 (A : Int), .int .u32 (B : Int), .int .i64 f] w fun e w' => e = .returned (.tuple #[.int .u32 ((difN 32 A B 0 : Nat) : Int), .int .i64 (difF 32 A B 0)]) ∧ w = w' := by
  have CP := Lib.hid (show ∀ w, Calls Tryz.prog 130 #[.int .u32 (A : Int), .int .u32 (B : Int), .int .u32 0] w fun e w' => e = .returned (.tuple #[.int .u32 ((difN 32 A B 0 : Nat) : Int), .int .i64 (difF 32 A B 0)]) ∧ w = w' from fun w => minus_u32 A B 0 hA hB (by decide) w)
  clear hA hB
  go_enter Tryz.func71, Tryz.ntmps71
  go_wp2_with fail
  refine (CP.out _).mono ?_
  rintro e w1 ⟨rfl, rfl⟩
  go_wp2
  go_ret2
  exact ⟨rfl, rfl⟩
set_option maxHeartbeats 400000 in
theorem subtractCarry0_u32 (A B : Nat) (f : Int) (hA : A < 2 ^ 32) (hB : B < 2 ^ 32) (hf : bits .and .i64 f 1 = 0) (w : World) : Calls Tryz.prog 72 #[.int .u32 (A : Int), .int .u32 (B : Int), .int .i64 f] w fun e w' => e = .returned (.tuple #[.int .u32 ((difN 32 A B 0 : Nat) : Int), .int .i64 (difF 32 A B 0)]) ∧ w = w' := by
  have CP := Lib.hid (show ∀ w, Calls Tryz.prog 130 #[.int .u32 (A : Int), .int .u32 (B : Int), .int .u32 0] w fun e w' => e = .returned (.tuple #[.int .u32 ((difN 32 A B 0 : Nat) : Int), .int .i64 (difF 32 A B 0)]) ∧ w = w' from fun w => minus_u32 A B 0 hA hB (by decide) w)
  clear hA hB
  go_enter Tryz.func72, Tryz.ntmps72
  go_wp2_with fail
  refine (CP.out _).mono ?_
  rintro e w1 ⟨rfl, rfl⟩
  go_wp2
  go_ret2
  exact ⟨rfl, rfl⟩
set_option maxHeartbeats 400000 in
theorem subtractCarry1_u32 (A B : Nat) (f : Int) (hA : A < 2 ^ 32) (hB : B < 2 ^ 32) (hf : bits .and .i64 f 1 = 1) (w : World) : Calls Tryz.prog 72 #[.int .u32 (A : Int), .int .u32 (B : Int), .int .i64 f] w fun e w' => e = .returned (.tuple #[.int .u32 ((difN 32 A B 1 : Nat) : Int), .int .i64 (difF 32 A B 1)]) ∧ w = w' := by
  have CP := Lib.hid (show ∀ w, Calls Tryz.prog 130 #[.int .u32 (A : Int), .int .u32 (B : Int), .int .u32 1] w fun e w' => e = .returned (.tuple #[.int .u32 ((difN 32 A B 1 : Nat) : Int), .int .i64 (difF 32 A B 1)]) ∧ w = w' from fun w => minus_u32 A B 1 hA hB (by decide) w)
  clear hA hB
  go_enter Tryz.func72, Tryz.ntmps72
  go_wp2_with fail
  refine (CP.out _).mono ?_
  rintro e w1 ⟨rfl, rfl⟩
  go_wp2
  go_ret2
  exact ⟨rfl, rfl⟩
set_option maxHeartbeats 400000 in
theorem bitsOr_u32 (A B : Nat) (f : Int) (hA : A < 2 ^ 32) (hB : B < 2 ^ 32) (w : World) : Calls Tryz.prog 73 #[.int .u32 (A : Int), .int .u32 (B : Int), .int .i64 f] w fun e w' => e = .returned (.tuple #[.int .u32 ((A ||| B : Nat) : Int), .int .i64 (szp 32 (A ||| B))]) ∧ w = w' := by
  have HV := Lib.hid (bOr (k := .u32) rfl hA hB)
  have CF := Lib.hid (fun w => flagsOf_u32 (bits .or .u32 (A : Int) (B : Int)) (by rw [HV.out]; omega) (by have := Nat.or_lt_two_pow hA hB; rw [HV.out]; omega) w)
  clear hA hB
  go_enter Tryz.func73, Tryz.ntmps73
  go_wp2_with fail
  refine (CF.out _).mono ?_
  rintro e w1 ⟨rfl, rfl⟩
  go_wp2
  go_ret2
  exact ⟨ret_kt HV.out (szp_eq (w := 32) (by decide +kernel) HV.out), rfl⟩
set_option maxHeartbeats 400000 in
theorem bitsAnd_u32 (A B : Nat) (f : Int) (hA : A < 2 ^ 32) (hB : B < 2 ^ 32) (w : World) : Calls Tryz.prog 74 #[.int .u32 (A : Int), .int .u32 (B : Int), .int .i64 f] w fun e w' => e = .returned (.tuple #[.int .u32 ((A &&& B : Nat) : Int), .int .i64 (szp 32 (A &&& B))]) ∧ w = w' := by
  have HV := Lib.hid (bAnd (k := .u32) rfl hA hB)
  have CF := Lib.hid (fun w => flagsOf_u32 (bits .and .u32 (A : Int) (B : Int)) (by rw [HV.out]; omega) (by have := Nat.and_lt_two_pow A hB; rw [HV.out]; omega) w)
  clear hA hB
  go_enter Tryz.func74, Tryz.ntmps74
  go_wp2_with fail
  refine (CF.out _).mono ?_
  rintro e w1 ⟨rfl, rfl⟩
  go_wp2
  go_ret2
  exact ⟨ret_kt HV.out (szp_eq (w := 32) (by decide +kernel) HV.out), rfl⟩
set_option maxHeartbeats 400000 in
theorem bitsXor_u32 (A B : Nat) (f : Int) (hA : A < 2 ^ 32) (hB : B < 2 ^ 32) (w : World) : Calls Tryz.prog 75 #[.int .u32 (A : Int), .int .u32 (B : Int), .int .i64 f] w fun e w' => e = .returned (.tuple #[.int .u32 ((A ^^^ B : Nat) : Int), .int .i64 (szp 32 (A ^^^ B))]) ∧ w = w' := by
  have HV := Lib.hid (bXor (k := .u32) rfl hA hB)
  have CF := Lib.hid (fun w => flagsOf_u32 (bits .xor .u32 (A : Int) (B : Int)) (by rw [HV.out]; omega) (by have := Nat.xor_lt_two_pow hA hB; rw [HV.out]; omega) w)
  clear hA hB
  go_enter Tryz.func75, Tryz.ntmps75
  go_wp2_with fail
  refine (CF.out _).mono ?_
  rintro e w1 ⟨rfl, rfl⟩
  go_wp2
  go_ret2
  exact ⟨ret_kt HV.out (szp_eq (w := 32) (by decide +kernel) HV.out), rfl⟩
set_option maxHeartbeats 400000 in
theorem aloneC_u32 (g : FuncId) (w : World) : Calls Tryz.prog 76 #[.func (.func g) #[] #[]] w fun e w' => e = .returned (.func (.func 131) #[] #[.pointer (some ⟨w.heap.size, 0, none⟩)]) ∧ w' = w.alloc (.cells #[.func (.func g) #[] #[]] 70) := by
  go_enter Tryz.func76, Tryz.ntmps76
  go_wp2
  go_ret
  exact ⟨rfl, rfl⟩
set_option maxHeartbeats 400000 in
theorem alone_subtract_u32 (b : Nat) (x y f v f' : Int) (w : World) (h : w.cell? ⟨b, 0, none⟩ = some (.func (.func 71) #[] #[])) (CX : Hid (∀ w, Calls Tryz.prog 71 #[.int .u32 x, .int .u32 y, .int .i64 f] w fun e w' => e = .returned (.tuple #[.int .u32 v, .int .i64 f']) ∧ w = w')) : Calls Tryz.prog 131 #[.int .u32 x, .int .u32 y, .int .i64 f, .pointer (some ⟨b, 0, none⟩)] w fun e w' => e = .returned (.tuple #[.int .u32 x, .int .i64 f']) ∧ w = w' := by
  go_enter Tryz.func131, Tryz.ntmps131
  go_wp2_with fail
  refine (CX.out _).mono ?_
  rintro e w1 ⟨rfl, rfl⟩
  go_wp2
  go_ret2
  exact ⟨rfl, rfl⟩
set_option maxHeartbeats 400000 in
theorem alone_bitsAnd_u32 (b : Nat) (x y f v f' : Int) (w : World) (h : w.cell? ⟨b, 0, none⟩ = some (.func (.func 74) #[] #[])) (CX : Hid (∀ w, Calls Tryz.prog 74 #[.int .u32 x, .int .u32 y, .int .i64 f] w fun e w' => e = .returned (.tuple #[.int .u32 v, .int .i64 f']) ∧ w = w')) : Calls Tryz.prog 131 #[.int .u32 x, .int .u32 y, .int .i64 f, .pointer (some ⟨b, 0, none⟩)] w fun e w' => e = .returned (.tuple #[.int .u32 x, .int .i64 f']) ∧ w = w' := by
  go_enter Tryz.func131, Tryz.ntmps131
  go_wp2_with fail
  refine (CX.out _).mono ?_
  rintro e w1 ⟨rfl, rfl⟩
  go_wp2
  go_ret2
  exact ⟨rfl, rfl⟩
set_option maxRecDepth 100000 in
theorem eqNo2_u32 (g : Fn) (l c : Array Value) (w : World) : (binOp .eql 70 (.func g l c) .nilFunc).run Tryz.prog w = .ok (.bool false) w := by kernel_rfl
set_option maxRecDepth 100000 in
theorem eqYes2_u32 (w : World) : (binOp .eql 70 .nilFunc .nilFunc).run Tryz.prog w = .ok (.bool true) w := by kernel_rfl
set_option maxRecDepth 100000 in
theorem eqNo1_u32 (g : Fn) (l c : Array Value) (w : World) : (binOp .eql 93 (.func g l c) .nilFunc).run Tryz.prog w = .ok (.bool false) w := by kernel_rfl
set_option maxRecDepth 100000 in
theorem eqYes1_u32 (w : World) : (binOp .eql 93 .nilFunc .nilFunc).run Tryz.prog w = .ok (.bool true) w := by kernel_rfl
def aluRow_u32 (n : Nat) : Array Value := #[.nilFunc, .func (.func 69) #[] #[], .func (.func 73) #[] #[], .func (.func 70) #[] #[], .func (.func 72) #[] #[], .func (.func 74) #[] #[], .func (.func 71) #[] #[], .func (.func 75) #[] #[], .func (.func 131) #[] #[.pointer (some ⟨n, 0, none⟩)], .nilFunc, .func (.func 131) #[] #[.pointer (some ⟨n + 1, 0, none⟩)], .nilFunc, .nilFunc, .nilFunc, .nilFunc, .nilFunc, .nilFunc, .nilFunc, .nilFunc, .nilFunc, .nilFunc, .nilFunc, .nilFunc, .nilFunc, .nilFunc, .nilFunc, .nilFunc, .nilFunc, .nilFunc, .nilFunc, .nilFunc, .nilFunc, .nilFunc, .nilFunc, .nilFunc, .nilFunc, .nilFunc, .nilFunc, .nilFunc, .nilFunc, .nilFunc, .nilFunc, .nilFunc, .nilFunc, .nilFunc]
structure AluW_u32 (w W : World) : Prop where
  row : W.heap[w.heap.size + 1 + 1]? = some (.cells (aluRow_u32 w.heap.size) 72 (0, 0))
  b1 : W.cell? ⟨w.heap.size, 0, none⟩ = some (.func (.func 71) #[] #[])
  b2 : W.cell? ⟨w.heap.size + 1, 0, none⟩ = some (.func (.func 74) #[] #[])
  be : Below w.heap.size w W
theorem aluW_u32 (w : World) : AluW_u32 w ((((w.alloc (.cells #[.func (.func 71) #[] #[]] 70)).alloc (.cells #[.func (.func 74) #[] #[]] 70)).alloc (.cells #[.nilFunc, .nilFunc, .nilFunc, .nilFunc, .nilFunc, .nilFunc, .nilFunc, .nilFunc, .nilFunc, .nilFunc, .nilFunc, .nilFunc, .nilFunc, .nilFunc, .nilFunc, .nilFunc, .nilFunc, .nilFunc, .nilFunc, .nilFunc, .nilFunc, .nilFunc, .nilFunc, .nilFunc, .nilFunc, .nilFunc, .nilFunc, .nilFunc, .nilFunc, .nilFunc, .nilFunc, .nilFunc, .nilFunc, .nilFunc, .nilFunc, .nilFunc, .nilFunc, .nilFunc, .nilFunc, .nilFunc, .nilFunc, .nilFunc, .nilFunc, .nilFunc, .nilFunc] 72)).setRow (w.heap.size + 1 + 1) #[.nilFunc, .func (.func 69) #[] #[], .func (.func 73) #[] #[], .func (.func 70) #[] #[], .func (.func 72) #[] #[], .func (.func 74) #[] #[], .func (.func 71) #[] #[], .func (.func 75) #[] #[], .func (.func 131) #[] #[.pointer (some ⟨w.heap.size, 0, none⟩)], .nilFunc, .func (.func 131) #[] #[.pointer (some ⟨w.heap.size + 1, 0, none⟩)], .nilFunc, .nilFunc, .nilFunc, .nilFunc, .nilFunc, .nilFunc, .nilFunc, .nilFunc, .nilFunc, .nilFunc, .nilFunc, .nilFunc, .nilFunc, .nilFunc, .nilFunc, .nilFunc, .nilFunc, .nilFunc, .nilFunc, .nilFunc, .nilFunc, .nilFunc, .nilFunc, .nilFunc, .nilFunc, .nilFunc, .nilFunc, .nilFunc, .nilFunc, .nilFunc, .nilFunc, .nilFunc, .nilFunc, .nilFunc]) := by
  have e2 : ((w.alloc (.cells #[.func (.func 71) #[] #[]] 70)).alloc (.cells #[.func (.func 74) #[] #[]] 70)).heap.size = w.heap.size + 1 + 1 := by simp
  have HG : (((w.alloc (.cells #[.func (.func 71) #[] #[]] 70)).alloc (.cells #[.func (.func 74) #[] #[]] 70)).alloc (.cells #[.nilFunc, .nilFunc, .nilFunc, .nilFunc, .nilFunc, .nilFunc, .nilFunc, .nilFunc, .nilFunc, .nilFunc, .nilFunc, .nilFunc, .nilFunc, .nilFunc, .nilFunc, .nilFunc, .nilFunc, .nilFunc, .nilFunc, .nilFunc, .nilFunc, .nilFunc, .nilFunc, .nilFunc, .nilFunc, .nilFunc, .nilFunc, .nilFunc, .nilFunc, .nilFunc, .nilFunc, .nilFunc, .nilFunc, .nilFunc, .nilFunc, .nilFunc, .nilFunc, .nilFunc, .nilFunc, .nilFunc, .nilFunc, .nilFunc, .nilFunc, .nilFunc, .nilFunc] 72)).heap[w.heap.size + 1 + 1]? = some (.cells #[.nilFunc, .nilFunc, .nilFunc, .nilFunc, .nilFunc, .nilFunc, .nilFunc, .nilFunc, .nilFunc, .nilFunc, .nilFunc, .nilFunc, .nilFunc, .nilFunc, .nilFunc, .nilFunc, .nilFunc, .nilFunc, .nilFunc, .nilFunc, .nilFunc, .nilFunc, .nilFunc, .nilFunc, .nilFunc, .nilFunc, .nilFunc, .nilFunc, .nilFunc, .nilFunc, .nilFunc, .nilFunc, .nilFunc, .nilFunc, .nilFunc, .nilFunc, .nilFunc, .nilFunc, .nilFunc, .nilFunc, .nilFunc, .nilFunc, .nilFunc, .nilFunc, .nilFunc] 72 (0, 0)) := by rw [← e2]; exact heap_alloc_new _ _
  refine ⟨?_, ?_, ?_, ?_⟩
  · exact setRow_heap _ _ _ _ _ _ HG
  · exact (cell_setRow_other _ _ _ _ (by simp; omega)).trans (by go_simp)
  · exact (cell_setRow_other _ _ _ _ (by simp)).trans (by go_simp)
  · exact below_setRow ((((Below.refl _ _).alloc (Nat.le_refl _) _).alloc (by simp) _).alloc (by simp; omega) _) (by omega) _
set_option maxRecDepth 100000 in
set_option maxHeartbeats 1000000 in
theorem alu1_u32 (a b f : Int) (V F : Int) (CX : Hid (∀ w, Calls Tryz.prog 69 #[.int .u32 (a % 4294967296), .int .u32 (b % 4294967296), .int .i64 f] w fun e w' => e = .returned (.tuple #[.int .u32 V, .int .i64 F]) ∧ w = w')) (w : World) : Calls Tryz.prog 25 #[.int .i64 1, .int .i64 a, .int .i64 b, .int .i64 f] w fun e w' => e = .returned (.tuple #[.int .i64 (wrap64 V), .int .i64 F, .int .i64 0]) ∧ Below w.heap.size w w' := by
  have CO := Lib.hid (fun w => isOpYes 1 w (by decide) (by decide))
  have CA := Lib.hid aloneC_u32
  have HG := Lib.hid (show (((w.alloc (.cells #[.func (.func 71) #[] #[]] 70)).alloc (.cells #[.func (.func 74) #[] #[]] 70)).alloc (.cells #[.nilFunc, .nilFunc, .nilFunc, .nilFunc, .nilFunc, .nilFunc, .nilFunc, .nilFunc, .nilFunc, .nilFunc, .nilFunc, .nilFunc, .nilFunc, .nilFunc, .nilFunc, .nilFunc, .nilFunc, .nilFunc, .nilFunc, .nilFunc, .nilFunc, .nilFunc, .nilFunc, .nilFunc, .nilFunc, .nilFunc, .nilFunc, .nilFunc, .nilFunc, .nilFunc, .nilFunc, .nilFunc, .nilFunc, .nilFunc, .nilFunc, .nilFunc, .nilFunc, .nilFunc, .nilFunc, .nilFunc, .nilFunc, .nilFunc, .nilFunc, .nilFunc, .nilFunc] 72)).heap[w.heap.size + 1 + 1]? = some (.cells #[.nilFunc, .nilFunc, .nilFunc, .nilFunc, .nilFunc, .nilFunc, .nilFunc, .nilFunc, .nilFunc, .nilFunc, .nilFunc, .nilFunc, .nilFunc, .nilFunc, .nilFunc, .nilFunc, .nilFunc, .nilFunc, .nilFunc, .nilFunc, .nilFunc, .nilFunc, .nilFunc, .nilFunc, .nilFunc, .nilFunc, .nilFunc, .nilFunc, .nilFunc, .nilFunc, .nilFunc, .nilFunc, .nilFunc, .nilFunc, .nilFunc, .nilFunc, .nilFunc, .nilFunc, .nilFunc, .nilFunc, .nilFunc, .nilFunc, .nilFunc, .nilFunc, .nilFunc] 72 (0, 0)) from by simpa using heap_alloc_new ((w.alloc (.cells #[.func (.func 71) #[] #[]] 70)).alloc (.cells #[.func (.func 74) #[] #[]] 70)) (.cells #[.nilFunc, .nilFunc, .nilFunc, .nilFunc, .nilFunc, .nilFunc, .nilFunc, .nilFunc, .nilFunc, .nilFunc, .nilFunc, .nilFunc, .nilFunc, .nilFunc, .nilFunc, .nilFunc, .nilFunc, .nilFunc, .nilFunc, .nilFunc, .nilFunc, .nilFunc, .nilFunc, .nilFunc, .nilFunc, .nilFunc, .nilFunc, .nilFunc, .nilFunc, .nilFunc, .nilFunc, .nilFunc, .nilFunc, .nilFunc, .nilFunc, .nilFunc, .nilFunc, .nilFunc, .nilFunc, .nilFunc, .nilFunc, .nilFunc, .nilFunc, .nilFunc, .nilFunc] 72))
  have HW := Lib.hid (aluW_u32 w)
  go_enter Tryz.func25, Tryz.ntmps25
  go_wp2_with fail
  refine (CA.out _ _).mono ?_
  rintro e w2 ⟨rfl, rfl⟩
  go_wp2_with fail
  refine (CA.out _ _).mono ?_
  rintro e w2 ⟨rfl, rfl⟩
  go_wp2_with (refine wpList_store_row rfl 72 (.tmp 11) (.tmp 15) rfl (w.heap.size + 1 + 1) #[.nilFunc, .func (.func 69) #[] #[], .func (.func 73) #[] #[], .func (.func 70) #[] #[], .func (.func 72) #[] #[], .func (.func 74) #[] #[], .func (.func 71) #[] #[], .func (.func 75) #[] #[], .func (.func 131) #[] #[.pointer (some ⟨w.heap.size, 0, none⟩)], .nilFunc, .func (.func 131) #[] #[.pointer (some ⟨w.heap.size + 1, 0, none⟩)], .nilFunc, .nilFunc, .nilFunc, .nilFunc, .nilFunc, .nilFunc, .nilFunc, .nilFunc, .nilFunc, .nilFunc, .nilFunc, .nilFunc, .nilFunc, .nilFunc, .nilFunc, .nilFunc, .nilFunc, .nilFunc, .nilFunc, .nilFunc, .nilFunc, .nilFunc, .nilFunc, .nilFunc, .nilFunc, .nilFunc, .nilFunc, .nilFunc, .nilFunc, .nilFunc, .nilFunc, .nilFunc, .nilFunc, .nilFunc] rfl rfl 72 _ HG.out (by kernel_rfl) rfl (by simp [Value.oneCell']) ?_; generalize hW9 : ((((w.alloc (.cells #[.func (.func 71) #[] #[]] 70)).alloc (.cells #[.func (.func 74) #[] #[]] 70)).alloc (.cells #[.nilFunc, .nilFunc, .nilFunc, .nilFunc, .nilFunc, .nilFunc, .nilFunc, .nilFunc, .nilFunc, .nilFunc, .nilFunc, .nilFunc, .nilFunc, .nilFunc, .nilFunc, .nilFunc, .nilFunc, .nilFunc, .nilFunc, .nilFunc, .nilFunc, .nilFunc, .nilFunc, .nilFunc, .nilFunc, .nilFunc, .nilFunc, .nilFunc, .nilFunc, .nilFunc, .nilFunc, .nilFunc, .nilFunc, .nilFunc, .nilFunc, .nilFunc, .nilFunc, .nilFunc, .nilFunc, .nilFunc, .nilFunc, .nilFunc, .nilFunc, .nilFunc, .nilFunc] 72)).setRow (w.heap.size + 1 + 1) #[.nilFunc, .func (.func 69) #[] #[], .func (.func 73) #[] #[], .func (.func 70) #[] #[], .func (.func 72) #[] #[], .func (.func 74) #[] #[], .func (.func 71) #[] #[], .func (.func 75) #[] #[], .func (.func 131) #[] #[.pointer (some ⟨w.heap.size, 0, none⟩)], .nilFunc, .func (.func 131) #[] #[.pointer (some ⟨w.heap.size + 1, 0, none⟩)], .nilFunc, .nilFunc, .nilFunc, .nilFunc, .nilFunc, .nilFunc, .nilFunc, .nilFunc, .nilFunc, .nilFunc, .nilFunc, .nilFunc, .nilFunc, .nilFunc, .nilFunc, .nilFunc, .nilFunc, .nilFunc, .nilFunc, .nilFunc, .nilFunc, .nilFunc, .nilFunc, .nilFunc, .nilFunc, .nilFunc, .nilFunc, .nilFunc, .nilFunc, .nilFunc, .nilFunc, .nilFunc, .nilFunc, .nilFunc]) = W9 at *; clear hW9)
  clear HG CA
  have hc := (cell_of_row _ _ 1 _ _ _ HW.out.row).trans (show (aluRow_u32 w.heap.size)[1]? = some (.func (.func 69) #[] #[]) from rfl)
  have KE := fun W => eqNo2_u32 (.func 69) #[] #[] W
  refine (CO.out _).mono ?_
  rintro e w2 ⟨rfl, rfl⟩
  go_wp2_with fail
  refine (CX.out _).mono ?_
  rintro e w2 ⟨rfl, rfl⟩
  go_wp2
  go_ret3
  exact ⟨rfl, HW.out.be⟩
set_option maxRecDepth 100000 in
set_option maxHeartbeats 1000000 in
theorem alu2_u32 (a b f : Int) (V F : Int) (CX : Hid (∀ w, Calls Tryz.prog 73 #[.int .u32 (a % 4294967296), .int .u32 (b % 4294967296), .int .i64 f] w fun e w' => e = .returned (.tuple #[.int .u32 V, .int .i64 F]) ∧ w = w')) (w : World) : Calls Tryz.prog 25 #[.int .i64 2, .int .i64 a, .int .i64 b, .int .i64 f] w fun e w' => e = .returned (.tuple #[.int .i64 (wrap64 V), .int .i64 F, .int .i64 0]) ∧ Below w.heap.size w w' := by
  have CO := Lib.hid (fun w => isOpYes 2 w (by decide) (by decide))
  have CA := Lib.hid aloneC_u32
  have HG := Lib.hid (show (((w.alloc (.cells #[.func (.func 71) #[] #[]] 70)).alloc (.cells #[.func (.func 74) #[] #[]] 70)).alloc (.cells #[.nilFunc, .nilFunc, .nilFunc, .nilFunc, .nilFunc, .nilFunc, .nilFunc, .nilFunc, .nilFunc, .nilFunc, .nilFunc, .nilFunc, .nilFunc, .nilFunc, .nilFunc, .nilFunc, .nilFunc, .nilFunc, .nilFunc, .nilFunc, .nilFunc, .nilFunc, .nilFunc, .nilFunc, .nilFunc, .nilFunc, .nilFunc, .nilFunc, .nilFunc, .nilFunc, .nilFunc, .nilFunc, .nilFunc, .nilFunc, .nilFunc, .nilFunc, .nilFunc, .nilFunc, .nilFunc, .nilFunc, .nilFunc, .nilFunc, .nilFunc, .nilFunc, .nilFunc] 72)).heap[w.heap.size + 1 + 1]? = some (.cells #[.nilFunc, .nilFunc, .nilFunc, .nilFunc, .nilFunc, .nilFunc, .nilFunc, .nilFunc, .nilFunc, .nilFunc, .nilFunc, .nilFunc, .nilFunc, .nilFunc, .nilFunc, .nilFunc, .nilFunc, .nilFunc, .nilFunc, .nilFunc, .nilFunc, .nilFunc, .nilFunc, .nilFunc, .nilFunc, .nilFunc, .nilFunc, .nilFunc, .nilFunc, .nilFunc, .nilFunc, .nilFunc, .nilFunc, .nilFunc, .nilFunc, .nilFunc, .nilFunc, .nilFunc, .nilFunc, .nilFunc, .nilFunc, .nilFunc, .nilFunc, .nilFunc, .nilFunc] 72 (0, 0)) from by simpa using heap_alloc_new ((w.alloc (.cells #[.func (.func 71) #[] #[]] 70)).alloc (.cells #[.func (.func 74) #[] #[]] 70)) (.cells #[.nilFunc, .nilFunc, .nilFunc, .nilFunc, .nilFunc, .nilFunc, .nilFunc, .nilFunc, .nilFunc, .nilFunc, .nilFunc, .nilFunc, .nilFunc, .nilFunc, .nilFunc, .nilFunc, .nilFunc, .nilFunc, .nilFunc, .nilFunc, .nilFunc, .nilFunc, .nilFunc, .nilFunc, .nilFunc, .nilFunc, .nilFunc, .nilFunc, .nilFunc, .nilFunc, .nilFunc, .nilFunc, .nilFunc, .nilFunc, .nilFunc, .nilFunc, .nilFunc, .nilFunc, .nilFunc, .nilFunc, .nilFunc, .nilFunc, .nilFunc, .nilFunc, .nilFunc] 72))
  have HW := Lib.hid (aluW_u32 w)
  go_enter Tryz.func25, Tryz.ntmps25
  go_wp2_with fail
  refine (CA.out _ _).mono ?_
  rintro e w2 ⟨rfl, rfl⟩
  go_wp2_with fail
  refine (CA.out _ _).mono ?_
  rintro e w2 ⟨rfl, rfl⟩
  go_wp2_with (refine wpList_store_row rfl 72 (.tmp 11) (.tmp 15) rfl (w.heap.size + 1 + 1) #[.nilFunc, .func (.func 69) #[] #[], .func (.func 73) #[] #[], .func (.func 70) #[] #[], .func (.func 72) #[] #[], .func (.func 74) #[] #[], .func (.func 71) #[] #[], .func (.func 75) #[] #[], .func (.func 131) #[] #[.pointer (some ⟨w.heap.size, 0, none⟩)], .nilFunc, .func (.func 131) #[] #[.pointer (some ⟨w.heap.size + 1, 0, none⟩)], .nilFunc, .nilFunc, .nilFunc, .nilFunc, .nilFunc, .nilFunc, .nilFunc, .nilFunc, .nilFunc, .nilFunc, .nilFunc, .nilFunc, .nilFunc, .nilFunc, .nilFunc, .nilFunc, .nilFunc, .nilFunc, .nilFunc, .nilFunc, .nilFunc, .nilFunc, .nilFunc, .nilFunc, .nilFunc, .nilFunc, .nilFunc, .nilFunc, .nilFunc, .nilFunc, .nilFunc, .nilFunc, .nilFunc, .nilFunc] rfl rfl 72 _ HG.out (by kernel_rfl) rfl (by simp [Value.oneCell']) ?_; generalize hW9 : ((((w.alloc (.cells #[.func (.func 71) #[] #[]] 70)).alloc (.cells #[.func (.func 74) #[] #[]] 70)).alloc (.cells #[.nilFunc, .nilFunc, .nilFunc, .nilFunc, .nilFunc, .nilFunc, .nilFunc, .nilFunc, .nilFunc, .nilFunc, .nilFunc, .nilFunc, .nilFunc, .nilFunc, .nilFunc, .nilFunc, .nilFunc, .nilFunc, .nilFunc, .nilFunc, .nilFunc, .nilFunc, .nilFunc, .nilFunc, .nilFunc, .nilFunc, .nilFunc, .nilFunc, .nilFunc, .nilFunc, .nilFunc, .nilFunc, .nilFunc, .nilFunc, .nilFunc, .nilFunc, .nilFunc, .nilFunc, .nilFunc, .nilFunc, .nilFunc, .nilFunc, .nilFunc, .nilFunc, .nilFunc] 72)).setRow (w.heap.size + 1 + 1) #[.nilFunc, .func (.func 69) #[] #[], .func (.func 73) #[] #[], .func (.func 70) #[] #[], .func (.func 72) #[] #[], .func (.func 74) #[] #[], .func (.func 71) #[] #[], .func (.func 75) #[] #[], .func (.func 131) #[] #[.pointer (some ⟨w.heap.size, 0, none⟩)], .nilFunc, .func (.func 131) #[] #[.pointer (some ⟨w.heap.size + 1, 0, none⟩)], .nilFunc, .nilFunc, .nilFunc, .nilFunc, .nilFunc, .nilFunc, .nilFunc, .nilFunc, .nilFunc, .nilFunc, .nilFunc, .nilFunc, .nilFunc, .nilFunc, .nilFunc, .nilFunc, .nilFunc, .nilFunc, .nilFunc, .nilFunc, .nilFunc, .nilFunc, .nilFunc, .nilFunc, .nilFunc, .nilFunc, .nilFunc, .nilFunc, .nilFunc, .nilFunc, .nilFunc, .nilFunc, .nilFunc, .nilFunc]) = W9 at *; clear hW9)
  clear HG CA
  have hc := (cell_of_row _ _ 2 _ _ _ HW.out.row).trans (show (aluRow_u32 w.heap.size)[2]? = some (.func (.func 73) #[] #[]) from rfl)
  have KE := fun W => eqNo2_u32 (.func 73) #[] #[] W
  refine (CO.out _).mono ?_
  rintro e w2 ⟨rfl, rfl⟩
  go_wp2_with fail
  refine (CX.out _).mono ?_
  rintro e w2 ⟨rfl, rfl⟩
  go_wp2
  go_ret3
  exact ⟨rfl, HW.out.be⟩
set_option maxRecDepth 100000 in
set_option maxHeartbeats 1000000 in
theorem alu3_u32 (a b f : Int) (V F : Int) (CX : Hid (∀ w, Calls Tryz.prog 70 #[.int .u32 (a % 4294967296), .int .u32 (b % 4294967296), .int .i64 f] w fun e w' => e = .returned (.tuple #[.int .u32 V, .int .i64 F]) ∧ w = w')) (w : World) : Calls Tryz.prog 25 #[.int .i64 3, .int .i64 a, .int .i64 b, .int .i64 f] w fun e w' => e = .returned (.tuple #[.int .i64 (wrap64 V), .int .i64 F, .int .i64 0]) ∧ Below w.heap.size w w' := by
  have CO := Lib.hid (fun w => isOpYes 3 w (by decide) (by decide))
  have CA := Lib.hid aloneC_u32
  have HG := Lib.hid (show (((w.alloc (.cells #[.func (.func 71) #[] #[]] 70)).alloc (.cells #[.func (.func 74) #[] #[]] 70)).alloc (.cells #[.nilFunc, .nilFunc, .nilFunc, .nilFunc, .nilFunc, .nilFunc, .nilFunc, .nilFunc, .nilFunc, .nilFunc, .nilFunc, .nilFunc, .nilFunc, .nilFunc, .nilFunc, .nilFunc, .nilFunc, .nilFunc, .nilFunc, .nilFunc, .nilFunc, .nilFunc, .nilFunc, .nilFunc, .nilFunc, .nilFunc, .nilFunc, .nilFunc, .nilFunc, .nilFunc, .nilFunc, .nilFunc, .nilFunc, .nilFunc, .nilFunc, .nilFunc, .nilFunc, .nilFunc, .nilFunc, .nilFunc, .nilFunc, .nilFunc, .nilFunc, .nilFunc, .nilFunc] 72)).heap[w.heap.size + 1 + 1]? = some (.cells #[.nilFunc, .nilFunc, .nilFunc, .nilFunc, .nilFunc, .nilFunc, .nilFunc, .nilFunc, .nilFunc, .nilFunc, .nilFunc, .nilFunc, .nilFunc, .nilFunc, .nilFunc, .nilFunc, .nilFunc, .nilFunc, .nilFunc, .nilFunc, .nilFunc, .nilFunc, .nilFunc, .nilFunc, .nilFunc, .nilFunc, .nilFunc, .nilFunc, .nilFunc, .nilFunc, .nilFunc, .nilFunc, .nilFunc, .nilFunc, .nilFunc, .nilFunc, .nilFunc, .nilFunc, .nilFunc, .nilFunc, .nilFunc, .nilFunc, .nilFunc, .nilFunc, .nilFunc] 72 (0, 0)) from by simpa using heap_alloc_new ((w.alloc (.cells #[.func (.func 71) #[] #[]] 70)).alloc (.cells #[.func (.func 74) #[] #[]] 70)) (.cells #[.nilFunc, .nilFunc, .nilFunc, .nilFunc, .nilFunc, .nilFunc, .nilFunc, .nilFunc, .nilFunc, .nilFunc, .nilFunc, .nilFunc, .nilFunc, .nilFunc, .nilFunc, .nilFunc, .nilFunc, .nilFunc, .nilFunc, .nilFunc, .nilFunc, .nilFunc, .nilFunc, .nilFunc, .nilFunc, .nilFunc, .nilFunc, .nilFunc, .nilFunc, .nilFunc, .nilFunc, .nilFunc, .nilFunc, .nilFunc, .nilFunc, .nilFunc, .nilFunc, .nilFunc, .nilFunc, .nilFunc, .nilFunc, .nilFunc, .nilFunc, .nilFunc, .nilFunc] 72))
  have HW := Lib.hid (aluW_u32 w)
  go_enter Tryz.func25, Tryz.ntmps25
  go_wp2_with fail
  refine (CA.out _ _).mono ?_
  rintro e w2 ⟨rfl, rfl⟩
  go_wp2_with fail
  refine (CA.out _ _).mono ?_
  rintro e w2 ⟨rfl, rfl⟩
  go_wp2_with (refine wpList_store_row rfl 72 (.tmp 11) (.tmp 15) rfl (w.heap.size + 1 + 1) #[.nilFunc, .func (.func 69) #[] #[], .func (.func 73) #[] #[], .func (.func 70) #[] #[], .func (.func 72) #[] #[], .func (.func 74) #[] #[], .func (.func 71) #[] #[], .func (.func 75) #[] #[], .func (.func 131) #[] #[.pointer (some ⟨w.heap.size, 0, none⟩)], .nilFunc, .func (.func 131) #[] #[.pointer (some ⟨w.heap.size + 1, 0, none⟩)], .nilFunc, .nilFunc, .nilFunc, .nilFunc, .nilFunc, .nilFunc, .nilFunc, .nilFunc, .nilFunc, .nilFunc, .nilFunc, .nilFunc, .nilFunc, .nilFunc, .nilFunc, .nilFunc, .nilFunc, .nilFunc, .nilFunc, .nilFunc, .nilFunc, .nilFunc, .nilFunc, .nilFunc, .nilFunc, .nilFunc, .nilFunc, .nilFunc, .nilFunc, .nilFunc, .nilFunc, .nilFunc, .nilFunc, .nilFunc] rfl rfl 72 _ HG.out (by kernel_rfl) rfl (by simp [Value.oneCell']) ?_; generalize hW9 : ((((w.alloc (.cells #[.func (.func 71) #[] #[]] 70)).alloc (.cells #[.func (.func 74) #[] #[]] 70)).alloc (.cells #[.nilFunc, .nilFunc, .nilFunc, .nilFunc, .nilFunc, .nilFunc, .nilFunc, .nilFunc, .nilFunc, .nilFunc, .nilFunc, .nilFunc, .nilFunc, .nilFunc, .nilFunc, .nilFunc, .nilFunc, .nilFunc, .nilFunc, .nilFunc, .nilFunc, .nilFunc, .nilFunc, .nilFunc, .nilFunc, .nilFunc, .nilFunc, .nilFunc, .nilFunc, .nilFunc, .nilFunc, .nilFunc, .nilFunc, .nilFunc, .nilFunc, .nilFunc, .nilFunc, .nilFunc, .nilFunc, .nilFunc, .nilFunc, .nilFunc, .nilFunc, .nilFunc, .nilFunc] 72)).setRow (w.heap.size + 1 + 1) #[.nilFunc, .func (.func 69) #[] #[], .func (.func 73) #[] #[], .func (.func 70) #[] #[], .func (.func 72) #[] #[], .func (.func 74) #[] #[], .func (.func 71) #[] #[], .func (.func 75) #[] #[], .func (.func 131) #[] #[.pointer (some ⟨w.heap.size, 0, none⟩)], .nilFunc, .func (.func 131) #[] #[.pointer (some ⟨w.heap.size + 1, 0, none⟩)], .nilFunc, .nilFunc, .nilFunc, .nilFunc, .nilFunc, .nilFunc, .nilFunc, .nilFunc, .nilFunc, .nilFunc, .nilFunc, .nilFunc, .nilFunc, .nilFunc, .nilFunc, .nilFunc, .nilFunc, .nilFunc, .nilFunc, .nilFunc, .nilFunc, .nilFunc, .nilFunc, .nilFunc, .nilFunc, .nilFunc, .nilFunc, .nilFunc, .nilFunc, .nilFunc, .nilFunc, .nilFunc, .nilFunc, .nilFunc]) = W9 at *; clear hW9)
  clear HG CA
  have hc := (cell_of_row _ _ 3 _ _ _ HW.out.row).trans (show (aluRow_u32 w.heap.size)[3]? = some (.func (.func 70) #[] #[]) from rfl)
  have KE := fun W => eqNo2_u32 (.func 70) #[] #[] W
  refine (CO.out _).mono ?_
  rintro e w2 ⟨rfl, rfl⟩
  go_wp2_with fail
  refine (CX.out _).mono ?_
  rintro e w2 ⟨rfl, rfl⟩
  go_wp2
  go_ret3
  exact ⟨rfl, HW.out.be⟩
set_option maxRecDepth 100000 in
set_option maxHeartbeats 1000000 in
theorem alu4_u32 (a b f : Int) (V F : Int) (CX : Hid (∀ w, Calls Tryz.prog 72 #[.int .u32 (a % 4294967296), .int .u32 (b % 4294967296), .int .i64 f] w fun e w' => e = .returned (.tuple #[.int .u32 V, .int .i64 F]) ∧ w = w')) (w : World) : Calls Tryz.prog 25 #[.int .i64 4, .int .i64 a, .int .i64 b, .int .i64 f] w fun e w' => e = .returned (.tuple #[.int .i64 (wrap64 V), .int .i64 F, .int .i64 0]) ∧ Below w.heap.size w w' := by
  have CO := Lib.hid (fun w => isOpYes 4 w (by decide) (by decide))
  have CA := Lib.hid aloneC_u32
  have HG := Lib.hid (show (((w.alloc (.cells #[.func (.func 71) #[] #[]] 70)).alloc (.cells #[.func (.func 74) #[] #[]] 70)).alloc (.cells #[.nilFunc, .nilFunc, .nilFunc, .nilFunc, .nilFunc, .nilFunc, .nilFunc, .nilFunc, .nilFunc, .nilFunc, .nilFunc, .nilFunc, .nilFunc, .nilFunc, .nilFunc, .nilFunc, .nilFunc, .nilFunc, .nilFunc, .nilFunc, .nilFunc, .nilFunc, .nilFunc, .nilFunc, .nilFunc, .nilFunc, .nilFunc, .nilFunc, .nilFunc, .nilFunc, .nilFunc, .nilFunc, .nilFunc, .nilFunc, .nilFunc, .nilFunc, .nilFunc, .nilFunc, .nilFunc, .nilFunc, .nilFunc, .nilFunc, .nilFunc, .nilFunc, .nilFunc] 72)).heap[w.heap.size + 1 + 1]? = some (.cells #[.nilFunc, .nilFunc, .nilFunc, .nilFunc, .nilFunc, .nilFunc, .nilFunc, .nilFunc, .nilFunc, .nilFunc, .nilFunc, .nilFunc, .nilFunc, .nilFunc, .nilFunc, .nilFunc, .nilFunc, .nilFunc, .nilFunc, .nilFunc, .nilFunc, .nilFunc, .nilFunc, .nilFunc, .nilFunc, .nilFunc, .nilFunc, .nilFunc, .nilFunc, .nilFunc, .nilFunc, .nilFunc, .nilFunc, .nilFunc, .nilFunc, .nilFunc, .nilFunc, .nilFunc, .nilFunc, .nilFunc, .nilFunc, .nilFunc, .nilFunc, .nilFunc, .nilFunc] 72 (0, 0)) from by simpa using heap_alloc_new ((w.alloc (.cells #[.func (.func 71) #[] #[]] 70)).alloc (.cells #[.func (.func 74) #[] #[]] 70)) (.cells #[.nilFunc, .nilFunc, .nilFunc, .nilFunc, .nilFunc, .nilFunc, .nilFunc, .nilFunc, .nilFunc, .nilFunc, .nilFunc, .nilFunc, .nilFunc, .nilFunc, .nilFunc, .nilFunc, .nilFunc, .nilFunc, .nilFunc, .nilFunc, .nilFunc, .nilFunc, .nilFunc, .nilFunc, .nilFunc, .nilFunc, .nilFunc, .nilFunc, .nilFunc, .nilFunc, .nilFunc, .nilFunc, .nilFunc, .nilFunc, .nilFunc, .nilFunc, .nilFunc, .nilFunc, .nilFunc, .nilFunc, .nilFunc, .nilFunc, .nilFunc, .nilFunc, .nilFunc] 72))
  have HW := Lib.hid (aluW_u32 w)
  go_enter Tryz.func25, Tryz.ntmps25
  go_wp2_with fail
  refine (CA.out _ _).mono ?_
  rintro e w2 ⟨rfl, rfl⟩
  go_wp2_with fail
  refine (CA.out _ _).mono ?_
  rintro e w2 ⟨rfl, rfl⟩
  go_wp2_with (refine wpList_store_row rfl 72 (.tmp 11) (.tmp 15) rfl (w.heap.size + 1 + 1) #[.nilFunc, .func (.func 69) #[] #[], .func (.func 73) #[] #[], .func (.func 70) #[] #[], .func (.func 72) #[] #[], .func (.func 74) #[] #[], .func (.func 71) #[] #[], .func (.func 75) #[] #[], .func (.func 131) #[] #[.pointer (some ⟨w.heap.size, 0, none⟩)], .nilFunc, .func (.func 131) #[] #[.pointer (some ⟨w.heap.size + 1, 0, none⟩)], .nilFunc, .nilFunc, .nilFunc, .nilFunc, .nilFunc, .nilFunc, .nilFunc, .nilFunc, .nilFunc, .nilFunc, .nilFunc, .nilFunc, .nilFunc, .nilFunc, .nilFunc, .nilFunc, .nilFunc, .nilFunc, .nilFunc, .nilFunc, .nilFunc, .nilFunc, .nilFunc, .nilFunc, .nilFunc, .nilFunc, .nilFunc, .nilFunc, .nilFunc, .nilFunc, .nilFunc, .nilFunc, .nilFunc, .nilFunc] rfl rfl 72 _ HG.out (by kernel_rfl) rfl (by simp [Value.oneCell']) ?_; generalize hW9 : ((((w.alloc (.cells #[.func (.func 71) #[] #[]] 70)).alloc (.cells #[.func (.func 74) #[] #[]] 70)).alloc (.cells #[.nilFunc, .nilFunc, .nilFunc, .nilFunc, .nilFunc, .nilFunc, .nilFunc, .nilFunc, .nilFunc, .nilFunc, .nilFunc, .nilFunc, .nilFunc, .nilFunc, .nilFunc, .nilFunc, .nilFunc, .nilFunc, .nilFunc, .nilFunc, .nilFunc, .nilFunc, .nilFunc, .nilFunc, .nilFunc, .nilFunc, .nilFunc, .nilFunc, .nilFunc, .nilFunc, .nilFunc, .nilFunc, .nilFunc, .nilFunc, .nilFunc, .nilFunc, .nilFunc, .nilFunc, .nilFunc, .nilFunc, .nilFunc, .nilFunc, .nilFunc, .nilFunc, .nilFunc] 72)).setRow (w.heap.size + 1 + 1) #[.nilFunc, .func (.func 69) #[] #[], .func (.func 73) #[] #[], .func (.func 70) #[] #[], .func (.func 72) #[] #[], .func (.func 74) #[] #[], .func (.func 71) #[] #[], .func (.func 75) #[] #[], .func (.func 131) #[] #[.pointer (some ⟨w.heap.size, 0, none⟩)], .nilFunc, .func (.func 131) #[] #[.pointer (some ⟨w.heap.size + 1, 0, none⟩)], .nilFunc, .nilFunc, .nilFunc, .nilFunc, .nilFunc, .nilFunc, .nilFunc, .nilFunc, .nilFunc, .nilFunc, .nilFunc, .nilFunc, .nilFunc, .nilFunc, .nilFunc, .nilFunc, .nilFunc, .nilFunc, .nilFunc, .nilFunc, .nilFunc, .nilFunc, .nilFunc, .nilFunc, .nilFunc, .nilFunc, .nilFunc, .nilFunc, .nilFunc, .nilFunc, .nilFunc, .nilFunc, .nilFunc, .nilFunc]) = W9 at *; clear hW9)
  clear HG CA
  have hc := (cell_of_row _ _ 4 _ _ _ HW.out.row).trans (show (aluRow_u32 w.heap.size)[4]? = some (.func (.func 72) #[] #[]) from rfl)
  have KE := fun W => eqNo2_u32 (.func 72) #[] #[] W
  refine (CO.out _).mono ?_
  rintro e w2 ⟨rfl, rfl⟩
  go_wp2_with fail
  refine (CX.out _).mono ?_
  rintro e w2 ⟨rfl, rfl⟩
  go_wp2
  go_ret3
  exact ⟨rfl, HW.out.be⟩
set_option maxRecDepth 100000 in
set_option maxHeartbeats 1000000 in
theorem alu5_u32 (a b f : Int) (V F : Int) (CX : Hid (∀ w, Calls Tryz.prog 74 #[.int .u32 (a % 4294967296), .int .u32 (b % 4294967296), .int .i64 f] w fun e w' => e = .returned (.tuple #[.int .u32 V, .int .i64 F]) ∧ w = w')) (w : World) : Calls Tryz.prog 25 #[.int .i64 5, .int .i64 a, .int .i64 b, .int .i64 f] w fun e w' => e = .returned (.tuple #[.int .i64 (wrap64 V), .int .i64 F, .int .i64 0]) ∧ Below w.heap.size w w' := by
  have CO := Lib.hid (fun w => isOpYes 5 w (by decide) (by decide))
  have CA := Lib.hid aloneC_u32
  have HG := Lib.hid (show (((w.alloc (.cells #[.func (.func 71) #[] #[]] 70)).alloc (.cells #[.func (.func 74) #[] #[]] 70)).alloc (.cells #[.nilFunc, .nilFunc, .nilFunc, .nilFunc, .nilFunc, .nilFunc, .nilFunc, .nilFunc, .nilFunc, .nilFunc, .nilFunc, .nilFunc, .nilFunc, .nilFunc, .nilFunc, .nilFunc, .nilFunc, .nilFunc, .nilFunc, .nilFunc, .nilFunc, .nilFunc, .nilFunc, .nilFunc, .nilFunc, .nilFunc, .nilFunc, .nilFunc, .nilFunc, .nilFunc, .nilFunc, .nilFunc, .nilFunc, .nilFunc, .nilFunc, .nilFunc, .nilFunc, .nilFunc, .nilFunc, .nilFunc, .nilFunc, .nilFunc, .nilFunc, .nilFunc, .nilFunc] 72)).heap[w.heap.size + 1 + 1]? = some (.cells #[.nilFunc, .nilFunc, .nilFunc, .nilFunc, .nilFunc, .nilFunc, .nilFunc, .nilFunc, .nilFunc, .nilFunc, .nilFunc, .nilFunc, .nilFunc, .nilFunc, .nilFunc, .nilFunc, .nilFunc, .nilFunc, .nilFunc, .nilFunc, .nilFunc, .nilFunc, .nilFunc, .nilFunc, .nilFunc, .nilFunc, .nilFunc, .nilFunc, .nilFunc, .nilFunc, .nilFunc, .nilFunc, .nilFunc, .nilFunc, .nilFunc, .nilFunc, .nilFunc, .nilFunc, .nilFunc, .nilFunc, .nilFunc, .nilFunc, .nilFunc, .nilFunc, .nilFunc] 72 (0, 0)) from by simpa using heap_alloc_new ((w.alloc (.cells #[.func (.func 71) #[] #[]] 70)).alloc (.cells #[.func (.func 74) #[] #[]] 70)) (.cells #[.nilFunc, .nilFunc, .nilFunc, .nilFunc, .nilFunc, .nilFunc, .nilFunc, .nilFunc, .nilFunc, .nilFunc, .nilFunc, .nilFunc, .nilFunc, .nilFunc, .nilFunc, .nilFunc, .nilFunc, .nilFunc, .nilFunc, .nilFunc, .nilFunc, .nilFunc, .nilFunc, .nilFunc, .nilFunc, .nilFunc, .nilFunc, .nilFunc, .nilFunc, .nilFunc, .nilFunc, .nilFunc, .nilFunc, .nilFunc, .nilFunc, .nilFunc, .nilFunc, .nilFunc, .nilFunc, .nilFunc, .nilFunc, .nilFunc, .nilFunc, .nilFunc, .nilFunc] 72))
  have HW := Lib.hid (aluW_u32 w)
  go_enter Tryz.func25, Tryz.ntmps25
  go_wp2_with fail
  refine (CA.out _ _).mono ?_
  rintro e w2 ⟨rfl, rfl⟩
  go_wp2_with fail
  refine (CA.out _ _).mono ?_
  rintro e w2 ⟨rfl, rfl⟩
  go_wp2_with (refine wpList_store_row rfl 72 (.tmp 11) (.tmp 15) rfl (w.heap.size + 1 + 1) #[.nilFunc, .func (.func 69) #[] #[], .func (.func 73) #[] #[], .func (.func 70) #[] #[], .func (.func 72) #[] #[], .func (.func 74) #[] #[], .func (.func 71) #[] #[], .func (.func 75) #[] #[], .func (.func 131) #[] #[.pointer (some ⟨w.heap.size, 0, none⟩)], .nilFunc, .func (.func 131) #[] #[.pointer (some ⟨w.heap.size + 1, 0, none⟩)], .nilFunc, .nilFunc, .nilFunc, .nilFunc, .nilFunc, .nilFunc, .nilFunc, .nilFunc, .nilFunc, .nilFunc, .nilFunc, .nilFunc, .nilFunc, .nilFunc, .nilFunc, .nilFunc, .nilFunc, .nilFunc, .nilFunc, .nilFunc, .nilFunc, .nilFunc, .nilFunc, .nilFunc, .nilFunc, .nilFunc, .nilFunc, .nilFunc, .nilFunc, .nilFunc, .nilFunc, .nilFunc, .nilFunc, .nilFunc] rfl rfl 72 _ HG.out (by kernel_rfl) rfl (by simp [Value.oneCell']) ?_; generalize hW9 : ((((w.alloc (.cells #[.func (.func 71) #[] #[]] 70)).alloc (.cells #[.func (.func 74) #[] #[]] 70)).alloc (.cells #[.nilFunc, .nilFunc, .nilFunc, .nilFunc, .nilFunc, .nilFunc, .nilFunc, .nilFunc, .nilFunc, .nilFunc, .nilFunc, .nilFunc, .nilFunc, .nilFunc, .nilFunc, .nilFunc, .nilFunc, .nilFunc, .nilFunc, .nilFunc, .nilFunc, .nilFunc, .nilFunc, .nilFunc, .nilFunc, .nilFunc, .nilFunc, .nilFunc, .nilFunc, .nilFunc, .nilFunc, .nilFunc, .nilFunc, .nilFunc, .nilFunc, .nilFunc, .nilFunc, .nilFunc, .nilFunc, .nilFunc, .nilFunc, .nilFunc, .nilFunc, .nilFunc, .nilFunc] 72)).setRow (w.heap.size + 1 + 1) #[.nilFunc, .func (.func 69) #[] #[], .func (.func 73) #[] #[], .func (.func 70) #[] #[], .func (.func 72) #[] #[], .func (.func 74) #[] #[], .func (.func 71) #[] #[], .func (.func 75) #[] #[], .func (.func 131) #[] #[.pointer (some ⟨w.heap.size, 0, none⟩)], .nilFunc, .func (.func 131) #[] #[.pointer (some ⟨w.heap.size + 1, 0, none⟩)], .nilFunc, .nilFunc, .nilFunc, .nilFunc, .nilFunc, .nilFunc, .nilFunc, .nilFunc, .nilFunc, .nilFunc, .nilFunc, .nilFunc, .nilFunc, .nilFunc, .nilFunc, .nilFunc, .nilFunc, .nilFunc, .nilFunc, .nilFunc, .nilFunc, .nilFunc, .nilFunc, .nilFunc, .nilFunc, .nilFunc, .nilFunc, .nilFunc, .nilFunc, .nilFunc, .nilFunc, .nilFunc, .nilFunc, .nilFunc]) = W9 at *; clear hW9)
  clear HG CA
  have hc := (cell_of_row _ _ 5 _ _ _ HW.out.row).trans (show (aluRow_u32 w.heap.size)[5]? = some (.func (.func 74) #[] #[]) from rfl)
  have KE := fun W => eqNo2_u32 (.func 74) #[] #[] W
  refine (CO.out _).mono ?_
  rintro e w2 ⟨rfl, rfl⟩
  go_wp2_with fail
  refine (CX.out _).mono ?_
  rintro e w2 ⟨rfl, rfl⟩
  go_wp2
  go_ret3
  exact ⟨rfl, HW.out.be⟩
set_option maxRecDepth 100000 in
set_option maxHeartbeats 1000000 in
theorem alu6_u32 (a b f : Int) (V F : Int) (CX : Hid (∀ w, Calls Tryz.prog 71 #[.int .u32 (a % 4294967296), .int .u32 (b % 4294967296), .int .i64 f] w fun e w' => e = .returned (.tuple #[.int .u32 V, .int .i64 F]) ∧ w = w')) (w : World) : Calls Tryz.prog 25 #[.int .i64 6, .int .i64 a, .int .i64 b, .int .i64 f] w fun e w' => e = .returned (.tuple #[.int .i64 (wrap64 V), .int .i64 F, .int .i64 0]) ∧ Below w.heap.size w w' := by
  have CO := Lib.hid (fun w => isOpYes 6 w (by decide) (by decide))
  have CA := Lib.hid aloneC_u32
  have HG := Lib.hid (show (((w.alloc (.cells #[.func (.func 71) #[] #[]] 70)).alloc (.cells #[.func (.func 74) #[] #[]] 70)).alloc (.cells #[.nilFunc, .nilFunc, .nilFunc, .nilFunc, .nilFunc, .nilFunc, .nilFunc, .nilFunc, .nilFunc, .nilFunc, .nilFunc, .nilFunc, .nilFunc, .nilFunc, .nilFunc, .nilFunc, .nilFunc, .nilFunc, .nilFunc, .nilFunc, .nilFunc, .nilFunc, .nilFunc, .nilFunc, .nilFunc, .nilFunc, .nilFunc, .nilFunc, .nilFunc, .nilFunc, .nilFunc, .nilFunc, .nilFunc, .nilFunc, .nilFunc, .nilFunc, .nilFunc, .nilFunc, .nilFunc, .nilFunc, .nilFunc, .nilFunc, .nilFunc, .nilFunc, .nilFunc] 72)).heap[w.heap.size + 1 + 1]? = some (.cells #[.nilFunc, .nilFunc, .nilFunc, .nilFunc, .nilFunc, .nilFunc, .nilFunc, .nilFunc, .nilFunc, .nilFunc, .nilFunc, .nilFunc, .nilFunc, .nilFunc, .nilFunc, .nilFunc, .nilFunc, .nilFunc, .nilFunc, .nilFunc, .nilFunc, .nilFunc, .nilFunc, .nilFunc, .nilFunc, .nilFunc, .nilFunc, .nilFunc, .nilFunc, .nilFunc, .nilFunc, .nilFunc, .nilFunc, .nilFunc, .nilFunc, .nilFunc, .nilFunc, .nilFunc, .nilFunc, .nilFunc, .nilFunc, .nilFunc, .nilFunc, .nilFunc, .nilFunc] 72 (0, 0)) from by simpa using heap_alloc_new ((w.alloc (.cells #[.func (.func 71) #[] #[]] 70)).alloc (.cells #[.func (.func 74) #[] #[]] 70)) (.cells #[.nilFunc, .nilFunc, .nilFunc, .nilFunc, .nilFunc, .nilFunc, .nilFunc, .nilFunc, .nilFunc, .nilFunc, .nilFunc, .nilFunc, .nilFunc, .nilFunc, .nilFunc, .nilFunc, .nilFunc, .nilFunc, .nilFunc, .nilFunc, .nilFunc, .nilFunc, .nilFunc, .nilFunc, .nilFunc, .nilFunc, .nilFunc, .nilFunc, .nilFunc, .nilFunc, .nilFunc, .nilFunc, .nilFunc, .nilFunc, .nilFunc, .nilFunc, .nilFunc, .nilFunc, .nilFunc, .nilFunc, .nilFunc, .nilFunc, .nilFunc, .nilFunc, .nilFunc] 72))
  have HW := Lib.hid (aluW_u32 w)
  go_enter Tryz.func25, Tryz.ntmps25
  go_wp2_with fail
  refine (CA.out _ _).mono ?_
  rintro e w2 ⟨rfl, rfl⟩
  go_wp2_with fail
  refine (CA.out _ _).mono ?_
  rintro e w2 ⟨rfl, rfl⟩
  go_wp2_with (refine wpList_store_row rfl 72 (.tmp 11) (.tmp 15) rfl (w.heap.size + 1 + 1) #[.nilFunc, .func (.func 69) #[] #[], .func (.func 73) #[] #[], .func (.func 70) #[] #[], .func (.func 72) #[] #[], .func (.func 74) #[] #[], .func (.func 71) #[] #[], .func (.func 75) #[] #[], .func (.func 131) #[] #[.pointer (some ⟨w.heap.size, 0, none⟩)], .nilFunc, .func (.func 131) #[] #[.pointer (some ⟨w.heap.size + 1, 0, none⟩)], .nilFunc, .nilFunc, .nilFunc, .nilFunc, .nilFunc, .nilFunc, .nilFunc, .nilFunc, .nilFunc, .nilFunc, .nilFunc, .nilFunc, .nilFunc, .nilFunc, .nilFunc, .nilFunc, .nilFunc, .nilFunc, .nilFunc, .nilFunc, .nilFunc, .nilFunc, .nilFunc, .nilFunc, .nilFunc, .nilFunc, .nilFunc, .nilFunc, .nilFunc, .nilFunc, .nilFunc, .nilFunc, .nilFunc, .nilFunc] rfl rfl 72 _ HG.out (by kernel_rfl) rfl (by simp [Value.oneCell']) ?_; generalize hW9 : ((((w.alloc (.cells #[.func (.func 71) #[] #[]] 70)).alloc (.cells #[.func (.func 74) #[] #[]] 70)).alloc (.cells #[.nilFunc, .nilFunc, .nilFunc, .nilFunc, .nilFunc, .nilFunc, .nilFunc, .nilFunc, .nilFunc, .nilFunc, .nilFunc, .nilFunc, .nilFunc, .nilFunc, .nilFunc, .nilFunc, .nilFunc, .nilFunc, .nilFunc, .nilFunc, .nilFunc, .nilFunc, .nilFunc, .nilFunc, .nilFunc, .nilFunc, .nilFunc, .nilFunc, .nilFunc, .nilFunc, .nilFunc, .nilFunc, .nilFunc, .nilFunc, .nilFunc, .nilFunc, .nilFunc, .nilFunc, .nilFunc, .nilFunc, .nilFunc, .nilFunc, .nilFunc, .nilFunc, .nilFunc] 72)).setRow (w.heap.size + 1 + 1) #[.nilFunc, .func (.func 69) #[] #[], .func (.func 73) #[] #[], .func (.func 70) #[] #[], .func (.func 72) #[] #[], .func (.func 74) #[] #[], .func (.func 71) #[] #[], .func (.func 75) #[] #[], .func (.func 131) #[] #[.pointer (some ⟨w.heap.size, 0, none⟩)], .nilFunc, .func (.func 131) #[] #[.pointer (some ⟨w.heap.size + 1, 0, none⟩)], .nilFunc, .nilFunc, .nilFunc, .nilFunc, .nilFunc, .nilFunc, .nilFunc, .nilFunc, .nilFunc, .nilFunc, .nilFunc, .nilFunc, .nilFunc, .nilFunc, .nilFunc, .nilFunc, .nilFunc, .nilFunc, .nilFunc, .nilFunc, .nilFunc, .nilFunc, .nilFunc, .nilFunc, .nilFunc, .nilFunc, .nilFunc, .nilFunc, .nilFunc, .nilFunc, .nilFunc, .nilFunc, .nilFunc, .nilFunc]) = W9 at *; clear hW9)
  clear HG CA
  have hc := (cell_of_row _ _ 6 _ _ _ HW.out.row).trans (show (aluRow_u32 w.heap.size)[6]? = some (.func (.func 71) #[] #[]) from rfl)
  have KE := fun W => eqNo2_u32 (.func 71) #[] #[] W
  refine (CO.out _).mono ?_
  rintro e w2 ⟨rfl, rfl⟩
  go_wp2_with fail
  refine (CX.out _).mono ?_
  rintro e w2 ⟨rfl, rfl⟩
  go_wp2
  go_ret3
  exact ⟨rfl, HW.out.be⟩
set_option maxRecDepth 100000 in
set_option maxHeartbeats 1000000 in
theorem alu7_u32 (a b f : Int) (V F : Int) (CX : Hid (∀ w, Calls Tryz.prog 75 #[.int .u32 (a % 4294967296), .int .u32 (b % 4294967296), .int .i64 f] w fun e w' => e = .returned (.tuple #[.int .u32 V, .int .i64 F]) ∧ w = w')) (w : World) : Calls Tryz.prog 25 #[.int .i64 7, .int .i64 a, .int .i64 b, .int .i64 f] w fun e w' => e = .returned (.tuple #[.int .i64 (wrap64 V), .int .i64 F, .int .i64 0]) ∧ Below w.heap.size w w' := by
  have CO := Lib.hid (fun w => isOpYes 7 w (by decide) (by decide))
  have CA := Lib.hid aloneC_u32
  have HG := Lib.hid (show (((w.alloc (.cells #[.func (.func 71) #[] #[]] 70)).alloc (.cells #[.func (.func 74) #[] #[]] 70)).alloc (.cells #[.nilFunc, .nilFunc, .nilFunc, .nilFunc, .nilFunc, .nilFunc, .nilFunc, .nilFunc, .nilFunc, .nilFunc, .nilFunc, .nilFunc, .nilFunc, .nilFunc, .nilFunc, .nilFunc, .nilFunc, .nilFunc, .nilFunc, .nilFunc, .nilFunc, .nilFunc, .nilFunc, .nilFunc, .nilFunc, .nilFunc, .nilFunc, .nilFunc, .nilFunc, .nilFunc, .nilFunc, .nilFunc, .nilFunc, .nilFunc, .nilFunc, .nilFunc, .nilFunc, .nilFunc, .nilFunc, .nilFunc, .nilFunc, .nilFunc, .nilFunc, .nilFunc, .nilFunc] 72)).heap[w.heap.size + 1 + 1]? = some (.cells #[.nilFunc, .nilFunc, .nilFunc, .nilFunc, .nilFunc, .nilFunc, .nilFunc, .nilFunc, .nilFunc, .nilFunc, .nilFunc, .nilFunc, .nilFunc, .nilFunc, .nilFunc, .nilFunc, .nilFunc, .nilFunc, .nilFunc, .nilFunc, .nilFunc, .nilFunc, .nilFunc, .nilFunc, .nilFunc, .nilFunc, .nilFunc, .nilFunc, .nilFunc, .nilFunc, .nilFunc, .nilFunc, .nilFunc, .nilFunc, .nilFunc, .nilFunc, .nilFunc, .nilFunc, .nilFunc, .nilFunc, .nilFunc, .nilFunc, .nilFunc, .nilFunc, .nilFunc] 72 (0, 0)) from by simpa using heap_alloc_new ((w.alloc (.cells #[.func (.func 71) #[] #[]] 70)).alloc (.cells #[.func (.func 74) #[] #[]] 70)) (.cells #[.nilFunc, .nilFunc, .nilFunc, .nilFunc, .nilFunc, .nilFunc, .nilFunc, .nilFunc, .nilFunc, .nilFunc, .nilFunc, .nilFunc, .nilFunc, .nilFunc, .nilFunc, .nilFunc, .nilFunc, .nilFunc, .nilFunc, .nilFunc, .nilFunc, .nilFunc, .nilFunc, .nilFunc, .nilFunc, .nilFunc, .nilFunc, .nilFunc, .nilFunc, .nilFunc, .nilFunc, .nilFunc, .nilFunc, .nilFunc, .nilFunc, .nilFunc, .nilFunc, .nilFunc, .nilFunc, .nilFunc, .nilFunc, .nilFunc, .nilFunc, .nilFunc, .nilFunc] 72))
  have HW := Lib.hid (aluW_u32 w)
  go_enter Tryz.func25, Tryz.ntmps25
  go_wp2_with fail
  refine (CA.out _ _).mono ?_
  rintro e w2 ⟨rfl, rfl⟩
  go_wp2_with fail
  refine (CA.out _ _).mono ?_
  rintro e w2 ⟨rfl, rfl⟩
  go_wp2_with (refine wpList_store_row rfl 72 (.tmp 11) (.tmp 15) rfl (w.heap.size + 1 + 1) #[.nilFunc, .func (.func 69) #[] #[], .func (.func 73) #[] #[], .func (.func 70) #[] #[], .func (.func 72) #[] #[], .func (.func 74) #[] #[], .func (.func 71) #[] #[], .func (.func 75) #[] #[], .func (.func 131) #[] #[.pointer (some ⟨w.heap.size, 0, none⟩)], .nilFunc, .func (.func 131) #[] #[.pointer (some ⟨w.heap.size + 1, 0, none⟩)], .nilFunc, .nilFunc, .nilFunc, .nilFunc, .nilFunc, .nilFunc, .nilFunc, .nilFunc, .nilFunc, .nilFunc, .nilFunc, .nilFunc, .nilFunc, .nilFunc, .nilFunc, .nilFunc, .nilFunc, .nilFunc, .nilFunc, .nilFunc, .nilFunc, .nilFunc, .nilFunc, .nilFunc, .nilFunc, .nilFunc, .nilFunc, .nilFunc, .nilFunc, .nilFunc, .nilFunc, .nilFunc, .nilFunc, .nilFunc] rfl rfl 72 _ HG.out (by kernel_rfl) rfl (by simp [Value.oneCell']) ?_; generalize hW9 : ((((w.alloc (.cells #[.func (.func 71) #[] #[]] 70)).alloc (.cells #[.func (.func 74) #[] #[]] 70)).alloc (.cells #[.nilFunc, .nilFunc, .nilFunc, .nilFunc, .nilFunc, .nilFunc, .nilFunc, .nilFunc, .nilFunc, .nilFunc, .nilFunc, .nilFunc, .nilFunc, .nilFunc, .nilFunc, .nilFunc, .nilFunc, .nilFunc, .nilFunc, .nilFunc, .nilFunc, .nilFunc, .nilFunc, .nilFunc, .nilFunc, .nilFunc, .nilFunc, .nilFunc, .nilFunc, .nilFunc, .nilFunc, .nilFunc, .nilFunc, .nilFunc, .nilFunc, .nilFunc, .nilFunc, .nilFunc, .nilFunc, .nilFunc, .nilFunc, .nilFunc, .nilFunc, .nilFunc, .nilFunc] 72)).setRow (w.heap.size + 1 + 1) #[.nilFunc, .func (.func 69) #[] #[], .func (.func 73) #[] #[], .func (.func 70) #[] #[], .func (.func 72) #[] #[], .func (.func 74) #[] #[], .func (.func 71) #[] #[], .func (.func 75) #[] #[], .func (.func 131) #[] #[.pointer (some ⟨w.heap.size, 0, none⟩)], .nilFunc, .func (.func 131) #[] #[.pointer (some ⟨w.heap.size + 1, 0, none⟩)], .nilFunc, .nilFunc, .nilFunc, .nilFunc, .nilFunc, .nilFunc, .nilFunc, .nilFunc, .nilFunc, .nilFunc, .nilFunc, .nilFunc, .nilFunc, .nilFunc, .nilFunc, .nilFunc, .nilFunc, .nilFunc, .nilFunc, .nilFunc, .nilFunc, .nilFunc, .nilFunc, .nilFunc, .nilFunc, .nilFunc, .nilFunc, .nilFunc, .nilFunc, .nilFunc, .nilFunc, .nilFunc, .nilFunc, .nilFunc]) = W9 at *; clear hW9)
  clear HG CA
  have hc := (cell_of_row _ _ 7 _ _ _ HW.out.row).trans (show (aluRow_u32 w.heap.size)[7]? = some (.func (.func 75) #[] #[]) from rfl)
  have KE := fun W => eqNo2_u32 (.func 75) #[] #[] W
  refine (CO.out _).mono ?_
  rintro e w2 ⟨rfl, rfl⟩
  go_wp2_with fail
  refine (CX.out _).mono ?_
  rintro e w2 ⟨rfl, rfl⟩
  go_wp2
  go_ret3
  exact ⟨rfl, HW.out.be⟩
set_option maxRecDepth 100000 in
set_option maxHeartbeats 1000000 in
theorem alu8_u32 (a b f : Int) (V F : Int) (CX : Hid (∀ w, Calls Tryz.prog 71 #[.int .u32 (a % 4294967296), .int .u32 (b % 4294967296), .int .i64 f] w fun e w' => e = .returned (.tuple #[.int .u32 V, .int .i64 F]) ∧ w = w')) (w : World) : Calls Tryz.prog 25 #[.int .i64 8, .int .i64 a, .int .i64 b, .int .i64 f] w fun e w' => e = .returned (.tuple #[.int .i64 (wrap64 (a % 4294967296)), .int .i64 F, .int .i64 0]) ∧ Below w.heap.size w w' := by
  have CO := Lib.hid (fun w => isOpYes 8 w (by decide) (by decide))
  have CA := Lib.hid aloneC_u32
  have HG := Lib.hid (show (((w.alloc (.cells #[.func (.func 71) #[] #[]] 70)).alloc (.cells #[.func (.func 74) #[] #[]] 70)).alloc (.cells #[.nilFunc, .nilFunc, .nilFunc, .nilFunc, .nilFunc, .nilFunc, .nilFunc, .nilFunc, .nilFunc, .nilFunc, .nilFunc, .nilFunc, .nilFunc, .nilFunc, .nilFunc, .nilFunc, .nilFunc, .nilFunc, .nilFunc, .nilFunc, .nilFunc, .nilFunc, .nilFunc, .nilFunc, .nilFunc, .nilFunc, .nilFunc, .nilFunc, .nilFunc, .nilFunc, .nilFunc, .nilFunc, .nilFunc, .nilFunc, .nilFunc, .nilFunc, .nilFunc, .nilFunc, .nilFunc, .nilFunc, .nilFunc, .nilFunc, .nilFunc, .nilFunc, .nilFunc] 72)).heap[w.heap.size + 1 + 1]? = some (.cells #[.nilFunc, .nilFunc, .nilFunc, .nilFunc, .nilFunc, .nilFunc, .nilFunc, .nilFunc, .nilFunc, .nilFunc, .nilFunc, .nilFunc, .nilFunc, .nilFunc, .nilFunc, .nilFunc, .nilFunc, .nilFunc, .nilFunc, .nilFunc, .nilFunc, .nilFunc, .nilFunc, .nilFunc, .nilFunc, .nilFunc, .nilFunc, .nilFunc, .nilFunc, .nilFunc, .nilFunc, .nilFunc, .nilFunc, .nilFunc, .nilFunc, .nilFunc, .nilFunc, .nilFunc, .nilFunc, .nilFunc, .nilFunc, .nilFunc, .nilFunc, .nilFunc, .nilFunc] 72 (0, 0)) from by simpa using heap_alloc_new ((w.alloc (.cells #[.func (.func 71) #[] #[]] 70)).alloc (.cells #[.func (.func 74) #[] #[]] 70)) (.cells #[.nilFunc, .nilFunc, .nilFunc, .nilFunc, .nilFunc, .nilFunc, .nilFunc, .nilFunc, .nilFunc, .nilFunc, .nilFunc, .nilFunc, .nilFunc, .nilFunc, .nilFunc, .nilFunc, .nilFunc, .nilFunc, .nilFunc, .nilFunc, .nilFunc, .nilFunc, .nilFunc, .nilFunc, .nilFunc, .nilFunc, .nilFunc, .nilFunc, .nilFunc, .nilFunc, .nilFunc, .nilFunc, .nilFunc, .nilFunc, .nilFunc, .nilFunc, .nilFunc, .nilFunc, .nilFunc, .nilFunc, .nilFunc, .nilFunc, .nilFunc, .nilFunc, .nilFunc] 72))
  have HW := Lib.hid (aluW_u32 w)
  go_enter Tryz.func25, Tryz.ntmps25
  go_wp2_with fail
  refine (CA.out _ _).mono ?_
  rintro e w2 ⟨rfl, rfl⟩
  go_wp2_with fail
  refine (CA.out _ _).mono ?_
  rintro e w2 ⟨rfl, rfl⟩
  go_wp2_with (refine wpList_store_row rfl 72 (.tmp 11) (.tmp 15) rfl (w.heap.size + 1 + 1) #[.nilFunc, .func (.func 69) #[] #[], .func (.func 73) #[] #[], .func (.func 70) #[] #[], .func (.func 72) #[] #[], .func (.func 74) #[] #[], .func (.func 71) #[] #[], .func (.func 75) #[] #[], .func (.func 131) #[] #[.pointer (some ⟨w.heap.size, 0, none⟩)], .nilFunc, .func (.func 131) #[] #[.pointer (some ⟨w.heap.size + 1, 0, none⟩)], .nilFunc, .nilFunc, .nilFunc, .nilFunc, .nilFunc, .nilFunc, .nilFunc, .nilFunc, .nilFunc, .nilFunc, .nilFunc, .nilFunc, .nilFunc, .nilFunc, .nilFunc, .nilFunc, .nilFunc, .nilFunc, .nilFunc, .nilFunc, .nilFunc, .nilFunc, .nilFunc, .nilFunc, .nilFunc, .nilFunc, .nilFunc, .nilFunc, .nilFunc, .nilFunc, .nilFunc, .nilFunc, .nilFunc, .nilFunc] rfl rfl 72 _ HG.out (by kernel_rfl) rfl (by simp [Value.oneCell']) ?_; generalize hW9 : ((((w.alloc (.cells #[.func (.func 71) #[] #[]] 70)).alloc (.cells #[.func (.func 74) #[] #[]] 70)).alloc (.cells #[.nilFunc, .nilFunc, .nilFunc, .nilFunc, .nilFunc, .nilFunc, .nilFunc, .nilFunc, .nilFunc, .nilFunc, .nilFunc, .nilFunc, .nilFunc, .nilFunc, .nilFunc, .nilFunc, .nilFunc, .nilFunc, .nilFunc, .nilFunc, .nilFunc, .nilFunc, .nilFunc, .nilFunc, .nilFunc, .nilFunc, .nilFunc, .nilFunc, .nilFunc, .nilFunc, .nilFunc, .nilFunc, .nilFunc, .nilFunc, .nilFunc, .nilFunc, .nilFunc, .nilFunc, .nilFunc, .nilFunc, .nilFunc, .nilFunc, .nilFunc, .nilFunc, .nilFunc] 72)).setRow (w.heap.size + 1 + 1) #[.nilFunc, .func (.func 69) #[] #[], .func (.func 73) #[] #[], .func (.func 70) #[] #[], .func (.func 72) #[] #[], .func (.func 74) #[] #[], .func (.func 71) #[] #[], .func (.func 75) #[] #[], .func (.func 131) #[] #[.pointer (some ⟨w.heap.size, 0, none⟩)], .nilFunc, .func (.func 131) #[] #[.pointer (some ⟨w.heap.size + 1, 0, none⟩)], .nilFunc, .nilFunc, .nilFunc, .nilFunc, .nilFunc, .nilFunc, .nilFunc, .nilFunc, .nilFunc, .nilFunc, .nilFunc, .nilFunc, .nilFunc, .nilFunc, .nilFunc, .nilFunc, .nilFunc, .nilFunc, .nilFunc, .nilFunc, .nilFunc, .nilFunc, .nilFunc, .nilFunc, .nilFunc, .nilFunc, .nilFunc, .nilFunc, .nilFunc, .nilFunc, .nilFunc, .nilFunc, .nilFunc, .nilFunc]) = W9 at *; clear hW9)
  clear HG CA
  have hc := (cell_of_row _ _ 8 _ _ _ HW.out.row).trans (show (aluRow_u32 w.heap.size)[8]? = some (.func (.func 131) #[] #[.pointer (some ⟨w.heap.size, 0, none⟩)]) from rfl)
  have KE := fun W => eqNo2_u32 (.func 131) #[] #[.pointer (some ⟨w.heap.size, 0, none⟩)] W
  refine (CO.out _).mono ?_
  rintro e w2 ⟨rfl, rfl⟩
  go_wp2_with fail
  refine (alone_subtract_u32 _ _ _ _ V F _ HW.out.b1 CX).mono ?_
  rintro e w2 ⟨rfl, rfl⟩
  go_wp2
  go_ret3
  refine ⟨ret_3 ?_, HW.out.be⟩
  first | rfl | (unfold wrap64; omega)
set_option maxRecDepth 100000 in
set_option maxHeartbeats 1000000 in
theorem alu10_u32 (a b f : Int) (V F : Int) (CX : Hid (∀ w, Calls Tryz.prog 74 #[.int .u32 (a % 4294967296), .int .u32 (b % 4294967296), .int .i64 f] w fun e w' => e = .returned (.tuple #[.int .u32 V, .int .i64 F]) ∧ w = w')) (w : World) : Calls Tryz.prog 25 #[.int .i64 10, .int .i64 a, .int .i64 b, .int .i64 f] w fun e w' => e = .returned (.tuple #[.int .i64 (wrap64 (a % 4294967296)), .int .i64 F, .int .i64 0]) ∧ Below w.heap.size w w' := by
  have CO := Lib.hid (fun w => isOpYes 10 w (by decide) (by decide))
  have CA := Lib.hid aloneC_u32
  have HG := Lib.hid (show (((w.alloc (.cells #[.func (.func 71) #[] #[]] 70)).alloc (.cells #[.func (.func 74) #[] #[]] 70)).alloc (.cells #[.nilFunc, .nilFunc, .nilFunc, .nilFunc, .nilFunc, .nilFunc, .nilFunc, .nilFunc, .nilFunc, .nilFunc, .nilFunc, .nilFunc, .nilFunc, .nilFunc, .nilFunc, .nilFunc, .nilFunc, .nilFunc, .nilFunc, .nilFunc, .nilFunc, .nilFunc, .nilFunc, .nilFunc, .nilFunc, .nilFunc, .nilFunc, .nilFunc, .nilFunc, .nilFunc, .nilFunc, .nilFunc, .nilFunc, .nilFunc, .nilFunc, .nilFunc, .nilFunc, .nilFunc, .nilFunc, .nilFunc, .nilFunc, .nilFunc, .nilFunc, .nilFunc, .nilFunc] 72)).heap[w.heap.size + 1 + 1]? = some (.cells #[.nilFunc, .nilFunc, .nilFunc, .nilFunc, .nilFunc, .nilFunc, .nilFunc, .nilFunc, .nilFunc, .nilFunc, .nilFunc, .nilFunc, .nilFunc, .nilFunc, .nilFunc, .nilFunc, .nilFunc, .nilFunc, .nilFunc, .nilFunc, .nilFunc, .nilFunc, .nilFunc, .nilFunc, .nilFunc, .nilFunc, .nilFunc, .nilFunc, .nilFunc, .nilFunc, .nilFunc, .nilFunc, .nilFunc, .nilFunc, .nilFunc, .nilFunc, .nilFunc, .nilFunc, .nilFunc, .nilFunc, .nilFunc, .nilFunc, .nilFunc, .nilFunc, .nilFunc] 72 (0, 0)) from by simpa using heap_alloc_new ((w.alloc (.cells #[.func (.func 71) #[] #[]] 70)).alloc (.cells #[.func (.func 74) #[] #[]] 70)) (.cells #[.nilFunc, .nilFunc, .nilFunc, .nilFunc, .nilFunc, .nilFunc, .nilFunc, .nilFunc, .nilFunc, .nilFunc, .nilFunc, .nilFunc, .nilFunc, .nilFunc, .nilFunc, .nilFunc, .nilFunc, .nilFunc, .nilFunc, .nilFunc, .nilFunc, .nilFunc, .nilFunc, .nilFunc, .nilFunc, .nilFunc, .nilFunc, .nilFunc, .nilFunc, .nilFunc, .nilFunc, .nilFunc, .nilFunc, .nilFunc, .nilFunc, .nilFunc, .nilFunc, .nilFunc, .nilFunc, .nilFunc, .nilFunc, .nilFunc, .nilFunc, .nilFunc, .nilFunc] 72))
  have HW := Lib.hid (aluW_u32 w)
  go_enter Tryz.func25, Tryz.ntmps25
  go_wp2_with fail
  refine (CA.out _ _).mono ?_
  rintro e w2 ⟨rfl, rfl⟩
  go_wp2_with fail
  refine (CA.out _ _).mono ?_
  rintro e w2 ⟨rfl, rfl⟩
  go_wp2_with (refine wpList_store_row rfl 72 (.tmp 11) (.tmp 15) rfl (w.heap.size + 1 + 1) #[.nilFunc, .func (.func 69) #[] #[], .func (.func 73) #[] #[], .func (.func 70) #[] #[], .func (.func 72) #[] #[], .func (.func 74) #[] #[], .func (.func 71) #[] #[], .func (.func 75) #[] #[], .func (.func 131) #[] #[.pointer (some ⟨w.heap.size, 0, none⟩)], .nilFunc, .func (.func 131) #[] #[.pointer (some ⟨w.heap.size + 1, 0, none⟩)], .nilFunc, .nilFunc, .nilFunc, .nilFunc, .nilFunc, .nilFunc, .nilFunc, .nilFunc, .nilFunc, .nilFunc, .nilFunc, .nilFunc, .nilFunc, .nilFunc, .nilFunc, .nilFunc, .nilFunc, .nilFunc, .nilFunc, .nilFunc, .nilFunc, .nilFunc, .nilFunc, .nilFunc, .nilFunc, .nilFunc, .nilFunc, .nilFunc, .nilFunc, .nilFunc, .nilFunc, .nilFunc, .nilFunc, .nilFunc] rfl rfl 72 _ HG.out (by kernel_rfl) rfl (by simp [Value.oneCell']) ?_; generalize hW9 : ((((w.alloc (.cells #[.func (.func 71) #[] #[]] 70)).alloc (.cells #[.func (.func 74) #[] #[]] 70)).alloc (.cells #[.nilFunc, .nilFunc, .nilFunc, .nilFunc, .nilFunc, .nilFunc, .nilFunc, .nilFunc, .nilFunc, .nilFunc, .nilFunc, .nilFunc, .nilFunc, .nilFunc, .nilFunc, .nilFunc, .nilFunc, .nilFunc, .nilFunc, .nilFunc, .nilFunc, .nilFunc, .nilFunc, .nilFunc, .nilFunc, .nilFunc, .nilFunc, .nilFunc, .nilFunc, .nilFunc, .nilFunc, .nilFunc, .nilFunc, .nilFunc, .nilFunc, .nilFunc, .nilFunc, .nilFunc, .nilFunc, .nilFunc, .nilFunc, .nilFunc, .nilFunc, .nilFunc, .nilFunc] 72)).setRow (w.heap.size + 1 + 1) #[.nilFunc, .func (.func 69) #[] #[], .func (.func 73) #[] #[], .func (.func 70) #[] #[], .func (.func 72) #[] #[], .func (.func 74) #[] #[], .func (.func 71) #[] #[], .func (.func 75) #[] #[], .func (.func 131) #[] #[.pointer (some ⟨w.heap.size, 0, none⟩)], .nilFunc, .func (.func 131) #[] #[.pointer (some ⟨w.heap.size + 1, 0, none⟩)], .nilFunc, .nilFunc, .nilFunc, .nilFunc, .nilFunc, .nilFunc, .nilFunc, .nilFunc, .nilFunc, .nilFunc, .nilFunc, .nilFunc, .nilFunc, .nilFunc, .nilFunc, .nilFunc, .nilFunc, .nilFunc, .nilFunc, .nilFunc, .nilFunc, .nilFunc, .nilFunc, .nilFunc, .nilFunc, .nilFunc, .nilFunc, .nilFunc, .nilFunc, .nilFunc, .nilFunc, .nilFunc, .nilFunc, .nilFunc]) = W9 at *; clear hW9)
  clear HG CA
  have hc := (cell_of_row _ _ 10 _ _ _ HW.out.row).trans (show (aluRow_u32 w.heap.size)[10]? = some (.func (.func 131) #[] #[.pointer (some ⟨w.heap.size + 1, 0, none⟩)]) from rfl)
  have KE := fun W => eqNo2_u32 (.func 131) #[] #[.pointer (some ⟨w.heap.size + 1, 0, none⟩)] W
  refine (CO.out _).mono ?_
  rintro e w2 ⟨rfl, rfl⟩
  go_wp2_with fail
  refine (alone_bitsAnd_u32 _ _ _ _ V F _ HW.out.b2 CX).mono ?_
  rintro e w2 ⟨rfl, rfl⟩
  go_wp2
  go_ret3
  refine ⟨ret_3 ?_, HW.out.be⟩
  first | rfl | (unfold wrap64; omega)
theorem alu_nil_u32 (n i : Nat) (h : i < 45) (hn : i ≠ 1 ∧ i ≠ 2 ∧ i ≠ 3 ∧ i ≠ 4 ∧ i ≠ 5 ∧ i ≠ 6 ∧ i ≠ 7 ∧ i ≠ 8 ∧ i ≠ 10) : (aluRow_u32 n)[i]? = some .nilFunc := by
  have K : ∀ i, i < 45 → (i ≠ 1 ∧ i ≠ 2 ∧ i ≠ 3 ∧ i ≠ 4 ∧ i ≠ 5 ∧ i ≠ 6 ∧ i ≠ 7 ∧ i ≠ 8 ∧ i ≠ 10) → (aluRow_u32 n)[i]? = some .nilFunc := by
    intro i h hn
    rcases (by omega : i = 0 ∨ i = 9 ∨ i = 11 ∨ i = 12 ∨ i = 13 ∨ i = 14 ∨ i = 15 ∨ i = 16 ∨ i = 17 ∨ i = 18 ∨ i = 19 ∨ i = 20 ∨ i = 21 ∨ i = 22 ∨ i = 23 ∨ i = 24 ∨ i = 25 ∨ i = 26 ∨ i = 27 ∨ i = 28 ∨ i = 29 ∨ i = 30 ∨ i = 31 ∨ i = 32 ∨ i = 33 ∨ i = 34 ∨ i = 35 ∨ i = 36 ∨ i = 37 ∨ i = 38 ∨ i = 39 ∨ i = 40 ∨ i = 41 ∨ i = 42 ∨ i = 43 ∨ i = 44) with rfl | rfl | rfl | rfl | rfl | rfl | rfl | rfl | rfl | rfl | rfl | rfl | rfl | rfl | rfl | rfl | rfl | rfl | rfl | rfl | rfl | rfl | rfl | rfl | rfl | rfl | rfl | rfl | rfl | rfl | rfl | rfl | rfl | rfl | rfl | rfl
    all_goals rfl
  exact K i h hn
set_option maxRecDepth 100000 in
set_option maxHeartbeats 1000000 in
theorem aluNil_u32 (op a b f : Int) (h1 : 1 ≤ op) (h2 : op ≤ 44) (h3 : ¬ (op ≤ 8 ∨ op = 10)) (w : World) : Calls Tryz.prog 25 #[.int .i64 op, .int .i64 a, .int .i64 b, .int .i64 f] w fun e w' => e = .returned (.tuple #[.int .i64 0, .int .i64 0, .int .i64 11]) ∧ Below w.heap.size w w' := by
  have CO := Lib.hid (fun w => isOpYes op w h1 h2)
  have CA := Lib.hid aloneC_u32
  have HG := Lib.hid (show (((w.alloc (.cells #[.func (.func 71) #[] #[]] 70)).alloc (.cells #[.func (.func 74) #[] #[]] 70)).alloc (.cells #[.nilFunc, .nilFunc, .nilFunc, .nilFunc, .nilFunc, .nilFunc, .nilFunc, .nilFunc, .nilFunc, .nilFunc, .nilFunc, .nilFunc, .nilFunc, .nilFunc, .nilFunc, .nilFunc, .nilFunc, .nilFunc, .nilFunc, .nilFunc, .nilFunc, .nilFunc, .nilFunc, .nilFunc, .nilFunc, .nilFunc, .nilFunc, .nilFunc, .nilFunc, .nilFunc, .nilFunc, .nilFunc, .nilFunc, .nilFunc, .nilFunc, .nilFunc, .nilFunc, .nilFunc, .nilFunc, .nilFunc, .nilFunc, .nilFunc, .nilFunc, .nilFunc, .nilFunc] 72)).heap[w.heap.size + 1 + 1]? = some (.cells #[.nilFunc, .nilFunc, .nilFunc, .nilFunc, .nilFunc, .nilFunc, .nilFunc, .nilFunc, .nilFunc, .nilFunc, .nilFunc, .nilFunc, .nilFunc, .nilFunc, .nilFunc, .nilFunc, .nilFunc, .nilFunc, .nilFunc, .nilFunc, .nilFunc, .nilFunc, .nilFunc, .nilFunc, .nilFunc, .nilFunc, .nilFunc, .nilFunc, .nilFunc, .nilFunc, .nilFunc, .nilFunc, .nilFunc, .nilFunc, .nilFunc, .nilFunc, .nilFunc, .nilFunc, .nilFunc, .nilFunc, .nilFunc, .nilFunc, .nilFunc, .nilFunc, .nilFunc] 72 (0, 0)) from by simpa using heap_alloc_new ((w.alloc (.cells #[.func (.func 71) #[] #[]] 70)).alloc (.cells #[.func (.func 74) #[] #[]] 70)) (.cells #[.nilFunc, .nilFunc, .nilFunc, .nilFunc, .nilFunc, .nilFunc, .nilFunc, .nilFunc, .nilFunc, .nilFunc, .nilFunc, .nilFunc, .nilFunc, .nilFunc, .nilFunc, .nilFunc, .nilFunc, .nilFunc, .nilFunc, .nilFunc, .nilFunc, .nilFunc, .nilFunc, .nilFunc, .nilFunc, .nilFunc, .nilFunc, .nilFunc, .nilFunc, .nilFunc, .nilFunc, .nilFunc, .nilFunc, .nilFunc, .nilFunc, .nilFunc, .nilFunc, .nilFunc, .nilFunc, .nilFunc, .nilFunc, .nilFunc, .nilFunc, .nilFunc, .nilFunc] 72))
  have HW := Lib.hid (aluW_u32 w)
  go_enter Tryz.func25, Tryz.ntmps25
  go_wp2_with fail
  refine (CA.out _ _).mono ?_
  rintro e w2 ⟨rfl, rfl⟩
  go_wp2_with fail
  refine (CA.out _ _).mono ?_
  rintro e w2 ⟨rfl, rfl⟩
  go_wp2_with (refine wpList_store_row rfl 72 (.tmp 11) (.tmp 15) rfl (w.heap.size + 1 + 1) #[.nilFunc, .func (.func 69) #[] #[], .func (.func 73) #[] #[], .func (.func 70) #[] #[], .func (.func 72) #[] #[], .func (.func 74) #[] #[], .func (.func 71) #[] #[], .func (.func 75) #[] #[], .func (.func 131) #[] #[.pointer (some ⟨w.heap.size, 0, none⟩)], .nilFunc, .func (.func 131) #[] #[.pointer (some ⟨w.heap.size + 1, 0, none⟩)], .nilFunc, .nilFunc, .nilFunc, .nilFunc, .nilFunc, .nilFunc, .nilFunc, .nilFunc, .nilFunc, .nilFunc, .nilFunc, .nilFunc, .nilFunc, .nilFunc, .nilFunc, .nilFunc, .nilFunc, .nilFunc, .nilFunc, .nilFunc, .nilFunc, .nilFunc, .nilFunc, .nilFunc, .nilFunc, .nilFunc, .nilFunc, .nilFunc, .nilFunc, .nilFunc, .nilFunc, .nilFunc, .nilFunc, .nilFunc] rfl rfl 72 _ HG.out (by kernel_rfl) rfl (by simp [Value.oneCell']) ?_; generalize hW9 : ((((w.alloc (.cells #[.func (.func 71) #[] #[]] 70)).alloc (.cells #[.func (.func 74) #[] #[]] 70)).alloc (.cells #[.nilFunc, .nilFunc, .nilFunc, .nilFunc, .nilFunc, .nilFunc, .nilFunc, .nilFunc, .nilFunc, .nilFunc, .nilFunc, .nilFunc, .nilFunc, .nilFunc, .nilFunc, .nilFunc, .nilFunc, .nilFunc, .nilFunc, .nilFunc, .nilFunc, .nilFunc, .nilFunc, .nilFunc, .nilFunc, .nilFunc, .nilFunc, .nilFunc, .nilFunc, .nilFunc, .nilFunc, .nilFunc, .nilFunc, .nilFunc, .nilFunc, .nilFunc, .nilFunc, .nilFunc, .nilFunc, .nilFunc, .nilFunc, .nilFunc, .nilFunc, .nilFunc, .nilFunc] 72)).setRow (w.heap.size + 1 + 1) #[.nilFunc, .func (.func 69) #[] #[], .func (.func 73) #[] #[], .func (.func 70) #[] #[], .func (.func 72) #[] #[], .func (.func 74) #[] #[], .func (.func 71) #[] #[], .func (.func 75) #[] #[], .func (.func 131) #[] #[.pointer (some ⟨w.heap.size, 0, none⟩)], .nilFunc, .func (.func 131) #[] #[.pointer (some ⟨w.heap.size + 1, 0, none⟩)], .nilFunc, .nilFunc, .nilFunc, .nilFunc, .nilFunc, .nilFunc, .nilFunc, .nilFunc, .nilFunc, .nilFunc, .nilFunc, .nilFunc, .nilFunc, .nilFunc, .nilFunc, .nilFunc, .nilFunc, .nilFunc, .nilFunc, .nilFunc, .nilFunc, .nilFunc, .nilFunc, .nilFunc, .nilFunc, .nilFunc, .nilFunc, .nilFunc, .nilFunc, .nilFunc, .nilFunc, .nilFunc, .nilFunc, .nilFunc]) = W9 at *; clear hW9)
  clear HG CA
  have hc := (cell_of_row _ _ op.toNat _ _ _ HW.out.row).trans (alu_nil_u32 w.heap.size op.toNat (by omega) (by omega))
  have KE := eqYes2_u32
  refine (CO.out _).mono ?_
  rintro e w2 ⟨rfl, rfl⟩
  go_wp2
  go_ret3
  exact ⟨rfl, HW.out.be⟩
set_option maxRecDepth 100000 in
set_option maxHeartbeats 1000000 in
theorem aluNo_u32 (op a b f : Int) (h : ¬ (1 ≤ op ∧ op ≤ 44)) (w : World) : Calls Tryz.prog 25 #[.int .i64 op, .int .i64 a, .int .i64 b, .int .i64 f] w fun e w' => e = .returned (.tuple #[.int .i64 0, .int .i64 0, .int .i64 11]) ∧ Below w.heap.size w w' := by
  have CO := Lib.hid (fun w => isOpNo op w h)
  clear h
  have CA := Lib.hid aloneC_u32
  have HG := Lib.hid (show (((w.alloc (.cells #[.func (.func 71) #[] #[]] 70)).alloc (.cells #[.func (.func 74) #[] #[]] 70)).alloc (.cells #[.nilFunc, .nilFunc, .nilFunc, .nilFunc, .nilFunc, .nilFunc, .nilFunc, .nilFunc, .nilFunc, .nilFunc, .nilFunc, .nilFunc, .nilFunc, .nilFunc, .nilFunc, .nilFunc, .nilFunc, .nilFunc, .nilFunc, .nilFunc, .nilFunc, .nilFunc, .nilFunc, .nilFunc, .nilFunc, .nilFunc, .nilFunc, .nilFunc, .nilFunc, .nilFunc, .nilFunc, .nilFunc, .nilFunc, .nilFunc, .nilFunc, .nilFunc, .nilFunc, .nilFunc, .nilFunc, .nilFunc, .nilFunc, .nilFunc, .nilFunc, .nilFunc, .nilFunc] 72)).heap[w.heap.size + 1 + 1]? = some (.cells #[.nilFunc, .nilFunc, .nilFunc, .nilFunc, .nilFunc, .nilFunc, .nilFunc, .nilFunc, .nilFunc, .nilFunc, .nilFunc, .nilFunc, .nilFunc, .nilFunc, .nilFunc, .nilFunc, .nilFunc, .nilFunc, .nilFunc, .nilFunc, .nilFunc, .nilFunc, .nilFunc, .nilFunc, .nilFunc, .nilFunc, .nilFunc, .nilFunc, .nilFunc, .nilFunc, .nilFunc, .nilFunc, .nilFunc, .nilFunc, .nilFunc, .nilFunc, .nilFunc, .nilFunc, .nilFunc, .nilFunc, .nilFunc, .nilFunc, .nilFunc, .nilFunc, .nilFunc] 72 (0, 0)) from by simpa using heap_alloc_new ((w.alloc (.cells #[.func (.func 71) #[] #[]] 70)).alloc (.cells #[.func (.func 74) #[] #[]] 70)) (.cells #[.nilFunc, .nilFunc, .nilFunc, .nilFunc, .nilFunc, .nilFunc, .nilFunc, .nilFunc, .nilFunc, .nilFunc, .nilFunc, .nilFunc, .nilFunc, .nilFunc, .nilFunc, .nilFunc, .nilFunc, .nilFunc, .nilFunc, .nilFunc, .nilFunc, .nilFunc, .nilFunc, .nilFunc, .nilFunc, .nilFunc, .nilFunc, .nilFunc, .nilFunc, .nilFunc, .nilFunc, .nilFunc, .nilFunc, .nilFunc, .nilFunc, .nilFunc, .nilFunc, .nilFunc, .nilFunc, .nilFunc, .nilFunc, .nilFunc, .nilFunc, .nilFunc, .nilFunc] 72))
  have HW := Lib.hid (aluW_u32 w)
  go_enter Tryz.func25, Tryz.ntmps25
  go_wp2_with fail
  refine (CA.out _ _).mono ?_
  rintro e w2 ⟨rfl, rfl⟩
  go_wp2_with fail
  refine (CA.out _ _).mono ?_
  rintro e w2 ⟨rfl, rfl⟩
  go_wp2_with (refine wpList_store_row rfl 72 (.tmp 11) (.tmp 15) rfl (w.heap.size + 1 + 1) #[.nilFunc, .func (.func 69) #[] #[], .func (.func 73) #[] #[], .func (.func 70) #[] #[], .func (.func 72) #[] #[], .func (.func 74) #[] #[], .func (.func 71) #[] #[], .func (.func 75) #[] #[], .func (.func 131) #[] #[.pointer (some ⟨w.heap.size, 0, none⟩)], .nilFunc, .func (.func 131) #[] #[.pointer (some ⟨w.heap.size + 1, 0, none⟩)], .nilFunc, .nilFunc, .nilFunc, .nilFunc, .nilFunc, .nilFunc, .nilFunc, .nilFunc, .nilFunc, .nilFunc, .nilFunc, .nilFunc, .nilFunc, .nilFunc, .nilFunc, .nilFunc, .nilFunc, .nilFunc, .nilFunc, .nilFunc, .nilFunc, .nilFunc, .nilFunc, .nilFunc, .nilFunc, .nilFunc, .nilFunc, .nilFunc, .nilFunc, .nilFunc, .nilFunc, .nilFunc, .nilFunc, .nilFunc] rfl rfl 72 _ HG.out (by kernel_rfl) rfl (by simp [Value.oneCell']) ?_; generalize hW9 : ((((w.alloc (.cells #[.func (.func 71) #[] #[]] 70)).alloc (.cells #[.func (.func 74) #[] #[]] 70)).alloc (.cells #[.nilFunc, .nilFunc, .nilFunc, .nilFunc, .nilFunc, .nilFunc, .nilFunc, .nilFunc, .nilFunc, .nilFunc, .nilFunc, .nilFunc, .nilFunc, .nilFunc, .nilFunc, .nilFunc, .nilFunc, .nilFunc, .nilFunc, .nilFunc, .nilFunc, .nilFunc, .nilFunc, .nilFunc, .nilFunc, .nilFunc, .nilFunc, .nilFunc, .nilFunc, .nilFunc, .nilFunc, .nilFunc, .nilFunc, .nilFunc, .nilFunc, .nilFunc, .nilFunc, .nilFunc, .nilFunc, .nilFunc, .nilFunc, .nilFunc, .nilFunc, .nilFunc, .nilFunc] 72)).setRow (w.heap.size + 1 + 1) #[.nilFunc, .func (.func 69) #[] #[], .func (.func 73) #[] #[], .func (.func 70) #[] #[], .func (.func 72) #[] #[], .func (.func 74) #[] #[], .func (.func 71) #[] #[], .func (.func 75) #[] #[], .func (.func 131) #[] #[.pointer (some ⟨w.heap.size, 0, none⟩)], .nilFunc, .func (.func 131) #[] #[.pointer (some ⟨w.heap.size + 1, 0, none⟩)], .nilFunc, .nilFunc, .nilFunc, .nilFunc, .nilFunc, .nilFunc, .nilFunc, .nilFunc, .nilFunc, .nilFunc, .nilFunc, .nilFunc, .nilFunc, .nilFunc, .nilFunc, .nilFunc, .nilFunc, .nilFunc, .nilFunc, .nilFunc, .nilFunc, .nilFunc, .nilFunc, .nilFunc, .nilFunc, .nilFunc, .nilFunc, .nilFunc, .nilFunc, .nilFunc, .nilFunc, .nilFunc, .nilFunc, .nilFunc]) = W9 at *; clear hW9)
  clear HG CA
  refine (CO.out _).mono ?_
  rintro e w2 ⟨rfl, rfl⟩
  go_wp2
  go_ret3
  exact ⟨rfl, HW.out.be⟩
end Go.Proofs.YtifpcfhfglkbcaaGreatDoor
