/-
  The tables of steps of impl/l06_flags.go for numbers of 16 bits, and what alu and one answer; conditions: those in each head.
-/
import Derived.Test.YtifpcfhfglkbcaaGreatDoorWalkFlB8
import Derived.Great.Walk
namespace Go.Proofs.YtifpcfhfglkbcaaGreatDoor
open Go.RowKit
set_option linter.unusedVariables false
set_option linter.unusedSimpArgs false
set_option maxHeartbeats 400000 in
theorem add_u16 (A B : Nat) (f : Int) (hA : A < 2 ^ 16) (hB : B < 2 ^ 16) (w : World) : Calls Tryz.prog 61 #[.int .u16 (A : Int), .int .u16 (B : Int), .int .i64 f] w fun e w' => e = .returned (.tuple #[.int .u16 ((sumN 16 A B 0 : Nat) : Int), .int .i64 (sumF 16 A B 0)]) ∧ w = w' := by
  have CP := Lib.hid (show ∀ w, Calls Tryz.prog 126 #[.int .u16 (A : Int), .int .u16 (B : Int), .int .u16 0] w fun e w' => e = .returned (.tuple #[.int .u16 ((sumN 16 A B 0 : Nat) : Int), .int .i64 (sumF 16 A B 0)]) ∧ w = w' from fun w => plus_u16 A B 0 hA hB (by decide) w)
  clear hA hB
  go_enter Tryz.func61, Tryz.ntmps61
  go_wp2_with fail
  refine (CP.out _).mono ?_
  rintro e w1 ⟨rfl, rfl⟩
  go_wp2
  go_ret2
  exact ⟨rfl, rfl⟩
set_option maxHeartbeats 400000 in
theorem addCarry0_u16 (A B : Nat) (f : Int) (hA : A < 2 ^ 16) (hB : B < 2 ^ 16) (hf : bits .and .i64 f 1 = 0) (w : World) : Calls Tryz.prog 62 #[.int .u16 (A : Int), .int .u16 (B : Int), .int .i64 f] w fun e w' => e = .returned (.tuple #[.int .u16 ((sumN 16 A B 0 : Nat) : Int), .int .i64 (sumF 16 A B 0)]) ∧ w = w' := by
  have CP := Lib.hid (show ∀ w, Calls Tryz.prog 126 #[.int .u16 (A : Int), .int .u16 (B : Int), .int .u16 0] w fun e w' => e = .returned (.tuple #[.int .u16 ((sumN 16 A B 0 : Nat) : Int), .int .i64 (sumF 16 A B 0)]) ∧ w = w' from fun w => plus_u16 A B 0 hA hB (by decide) w)
  clear hA hB
  go_enter Tryz.func62, Tryz.ntmps62
  go_wp2_with fail
  refine (CP.out _).mono ?_
  rintro e w1 ⟨rfl, rfl⟩
  go_wp2
  go_ret2
  exact ⟨rfl, rfl⟩
set_option maxHeartbeats 400000 in
theorem addCarry1_u16 (A B : Nat) (f : Int) (hA : A < 2 ^ 16) (hB : B < 2 ^ 16) (hf : bits .and .i64 f 1 = 1) (w : World) : Calls Tryz.prog 62 #[.int .u16 (A : Int), .int .u16 (B : Int), .int .i64 f] w fun e w' => e = .returned (.tuple #[.int .u16 ((sumN 16 A B 1 : Nat) : Int), .int .i64 (sumF 16 A B 1)]) ∧ w = w' := by
  have CP := Lib.hid (show ∀ w, Calls Tryz.prog 126 #[.int .u16 (A : Int), .int .u16 (B : Int), .int .u16 1] w fun e w' => e = .returned (.tuple #[.int .u16 ((sumN 16 A B 1 : Nat) : Int), .int .i64 (sumF 16 A B 1)]) ∧ w = w' from fun w => plus_u16 A B 1 hA hB (by decide) w)
  clear hA hB
  go_enter Tryz.func62, Tryz.ntmps62
  go_wp2_with fail
  refine (CP.out _).mono ?_
  rintro e w1 ⟨rfl, rfl⟩
  go_wp2
  go_ret2
  exact ⟨rfl, rfl⟩
set_option maxHeartbeats 400000 in
theorem subtract_u16 (A B : Nat) (f : Int) (hA : A < 2 ^ 16) (hB : B < 2 ^ 16) (w : World) : Calls Tryz.prog 63 #[.int .u16 (A : Int), .int .u16 (B : Int), .int .i64 f] w fun e w' => e = .returned (.tuple #[.int .u16 ((difN 16 A B 0 : Nat) : Int), .int .i64 (difF 16 A B 0)]) ∧ w = w' := by
  have CP := Lib.hid (show ∀ w, Calls Tryz.prog 127 #[.int .u16 (A : Int), .int .u16 (B : Int), .int .u16 0] w fun e w' => e = .returned (.tuple #[.int .u16 ((difN 16 A B 0 : Nat) : Int), .int .i64 (difF 16 A B 0)]) ∧ w = w' from fun w => minus_u16 A B 0 hA hB (by decide) w)
  clear hA hB
  go_enter Tryz.func63, Tryz.ntmps63
  go_wp2_with fail
  refine (CP.out _).mono ?_
  rintro e w1 ⟨rfl, rfl⟩
  go_wp2
  go_ret2
  exact ⟨rfl, rfl⟩
set_option maxHeartbeats 400000 in
theorem subtractCarry0_u16 (A B : Nat) (f : Int) (hA : A < 2 ^ 16) (hB : B < 2 ^ 16) (hf : bits .and .i64 f 1 = 0) (w : World) : Calls Tryz.prog 64 #[.int .u16 (A : Int), .int .u16 (B : Int), .int .i64 f] w fun e w' => e = .returned (.tuple #[.int .u16 ((difN 16 A B 0 : Nat) : Int), .int .i64 (difF 16 A B 0)]) ∧ w = w' := by
  have CP := Lib.hid (show ∀ w, Calls Tryz.prog 127 #[.int .u16 (A : Int), .int .u16 (B : Int), .int .u16 0] w fun e w' => e = .returned (.tuple #[.int .u16 ((difN 16 A B 0 : Nat) : Int), .int .i64 (difF 16 A B 0)]) ∧ w = w' from fun w => minus_u16 A B 0 hA hB (by decide) w)
  clear hA hB
  go_enter Tryz.func64, Tryz.ntmps64
  go_wp2_with fail
  refine (CP.out _).mono ?_
  rintro e w1 ⟨rfl, rfl⟩
  go_wp2
  go_ret2
  exact ⟨rfl, rfl⟩
set_option maxHeartbeats 400000 in
theorem subtractCarry1_u16 (A B : Nat) (f : Int) (hA : A < 2 ^ 16) (hB : B < 2 ^ 16) (hf : bits .and .i64 f 1 = 1) (w : World) : Calls Tryz.prog 64 #[.int .u16 (A : Int), .int .u16 (B : Int), .int .i64 f] w fun e w' => e = .returned (.tuple #[.int .u16 ((difN 16 A B 1 : Nat) : Int), .int .i64 (difF 16 A B 1)]) ∧ w = w' := by
  have CP := Lib.hid (show ∀ w, Calls Tryz.prog 127 #[.int .u16 (A : Int), .int .u16 (B : Int), .int .u16 1] w fun e w' => e = .returned (.tuple #[.int .u16 ((difN 16 A B 1 : Nat) : Int), .int .i64 (difF 16 A B 1)]) ∧ w = w' from fun w => minus_u16 A B 1 hA hB (by decide) w)
  clear hA hB
  go_enter Tryz.func64, Tryz.ntmps64
  go_wp2_with fail
  refine (CP.out _).mono ?_
  rintro e w1 ⟨rfl, rfl⟩
  go_wp2
  go_ret2
  exact ⟨rfl, rfl⟩
set_option maxHeartbeats 400000 in
theorem bitsOr_u16 (A B : Nat) (f : Int) (hA : A < 2 ^ 16) (hB : B < 2 ^ 16) (w : World) : Calls Tryz.prog 65 #[.int .u16 (A : Int), .int .u16 (B : Int), .int .i64 f] w fun e w' => e = .returned (.tuple #[.int .u16 ((A ||| B : Nat) : Int), .int .i64 (szp 16 (A ||| B))]) ∧ w = w' := by
  have HV := Lib.hid (bOr (k := .u16) rfl hA hB)
  have CF := Lib.hid (fun w => flagsOf_u16 (bits .or .u16 (A : Int) (B : Int)) (by rw [HV.out]; omega) (by have := Nat.or_lt_two_pow hA hB; rw [HV.out]; omega) w)
  clear hA hB
  go_enter Tryz.func65, Tryz.ntmps65
  go_wp2_with fail
  refine (CF.out _).mono ?_
  rintro e w1 ⟨rfl, rfl⟩
  go_wp2
  go_ret2
  exact ⟨ret_kt HV.out (szp_eq (w := 16) (by decide +kernel) HV.out), rfl⟩
set_option maxHeartbeats 400000 in
theorem bitsAnd_u16 (A B : Nat) (f : Int) (hA : A < 2 ^ 16) (hB : B < 2 ^ 16) (w : World) : Calls Tryz.prog 66 #[.int .u16 (A : Int), .int .u16 (B : Int), .int .i64 f] w fun e w' => e = .returned (.tuple #[.int .u16 ((A &&& B : Nat) : Int), .int .i64 (szp 16 (A &&& B))]) ∧ w = w' := by
  have HV := Lib.hid (bAnd (k := .u16) rfl hA hB)
  have CF := Lib.hid (fun w => flagsOf_u16 (bits .and .u16 (A : Int) (B : Int)) (by rw [HV.out]; omega) (by have := Nat.and_lt_two_pow A hB; rw [HV.out]; omega) w)
  clear hA hB
  go_enter Tryz.func66, Tryz.ntmps66
  go_wp2_with fail
  refine (CF.out _).mono ?_
  rintro e w1 ⟨rfl, rfl⟩
  go_wp2
  go_ret2
  exact ⟨ret_kt HV.out (szp_eq (w := 16) (by decide +kernel) HV.out), rfl⟩
set_option maxHeartbeats 400000 in
theorem bitsXor_u16 (A B : Nat) (f : Int) (hA : A < 2 ^ 16) (hB : B < 2 ^ 16) (w : World) : Calls Tryz.prog 67 #[.int .u16 (A : Int), .int .u16 (B : Int), .int .i64 f] w fun e w' => e = .returned (.tuple #[.int .u16 ((A ^^^ B : Nat) : Int), .int .i64 (szp 16 (A ^^^ B))]) ∧ w = w' := by
  have HV := Lib.hid (bXor (k := .u16) rfl hA hB)
  have CF := Lib.hid (fun w => flagsOf_u16 (bits .xor .u16 (A : Int) (B : Int)) (by rw [HV.out]; omega) (by have := Nat.xor_lt_two_pow hA hB; rw [HV.out]; omega) w)
  clear hA hB
  go_enter Tryz.func67, Tryz.ntmps67
  go_wp2_with fail
  refine (CF.out _).mono ?_
  rintro e w1 ⟨rfl, rfl⟩
  go_wp2
  go_ret2
  exact ⟨ret_kt HV.out (szp_eq (w := 16) (by decide +kernel) HV.out), rfl⟩
set_option maxHeartbeats 400000 in
theorem aloneC_u16 (g : FuncId) (w : World) : Calls Tryz.prog 68 #[.func (.func g) #[] #[]] w fun e w' => e = .returned (.func (.func 128) #[] #[.pointer (some ⟨w.heap.size, 0, none⟩)]) ∧ w' = w.alloc (.cells #[.func (.func g) #[] #[]] 65) := by
  go_enter Tryz.func68, Tryz.ntmps68
  go_wp2
  go_ret
  exact ⟨rfl, rfl⟩
set_option maxHeartbeats 400000 in
theorem alone_subtract_u16 (b : Nat) (x y f v f' : Int) (w : World) (h : w.cell? ⟨b, 0, none⟩ = some (.func (.func 63) #[] #[])) (CX : Hid (∀ w, Calls Tryz.prog 63 #[.int .u16 x, .int .u16 y, .int .i64 f] w fun e w' => e = .returned (.tuple #[.int .u16 v, .int .i64 f']) ∧ w = w')) : Calls Tryz.prog 128 #[.int .u16 x, .int .u16 y, .int .i64 f, .pointer (some ⟨b, 0, none⟩)] w fun e w' => e = .returned (.tuple #[.int .u16 x, .int .i64 f']) ∧ w = w' := by
  go_enter Tryz.func128, Tryz.ntmps128
  go_wp2_with fail
  refine (CX.out _).mono ?_
  rintro e w1 ⟨rfl, rfl⟩
  go_wp2
  go_ret2
  exact ⟨rfl, rfl⟩
set_option maxHeartbeats 400000 in
theorem alone_bitsAnd_u16 (b : Nat) (x y f v f' : Int) (w : World) (h : w.cell? ⟨b, 0, none⟩ = some (.func (.func 66) #[] #[])) (CX : Hid (∀ w, Calls Tryz.prog 66 #[.int .u16 x, .int .u16 y, .int .i64 f] w fun e w' => e = .returned (.tuple #[.int .u16 v, .int .i64 f']) ∧ w = w')) : Calls Tryz.prog 128 #[.int .u16 x, .int .u16 y, .int .i64 f, .pointer (some ⟨b, 0, none⟩)] w fun e w' => e = .returned (.tuple #[.int .u16 x, .int .i64 f']) ∧ w = w' := by
  go_enter Tryz.func128, Tryz.ntmps128
  go_wp2_with fail
  refine (CX.out _).mono ?_
  rintro e w1 ⟨rfl, rfl⟩
  go_wp2
  go_ret2
  exact ⟨rfl, rfl⟩
set_option maxRecDepth 100000 in
theorem eqNo2_u16 (g : Fn) (l c : Array Value) (w : World) : (binOp .eql 65 (.func g l c) .nilFunc).run Tryz.prog w = .ok (.bool false) w := by kernel_rfl
set_option maxRecDepth 100000 in
theorem eqYes2_u16 (w : World) : (binOp .eql 65 .nilFunc .nilFunc).run Tryz.prog w = .ok (.bool true) w := by kernel_rfl
set_option maxRecDepth 100000 in
theorem eqNo1_u16 (g : Fn) (l c : Array Value) (w : World) : (binOp .eql 90 (.func g l c) .nilFunc).run Tryz.prog w = .ok (.bool false) w := by kernel_rfl
set_option maxRecDepth 100000 in
theorem eqYes1_u16 (w : World) : (binOp .eql 90 .nilFunc .nilFunc).run Tryz.prog w = .ok (.bool true) w := by kernel_rfl
def aluRow_u16 (n : Nat) : Array Value := #[.nilFunc, .func (.func 61) #[] #[], .func (.func 65) #[] #[], .func (.func 62) #[] #[], .func (.func 64) #[] #[], .func (.func 66) #[] #[], .func (.func 63) #[] #[], .func (.func 67) #[] #[], .func (.func 128) #[] #[.pointer (some ⟨n, 0, none⟩)], .nilFunc, .func (.func 128) #[] #[.pointer (some ⟨n + 1, 0, none⟩)], .nilFunc, .nilFunc, .nilFunc, .nilFunc, .nilFunc, .nilFunc, .nilFunc, .nilFunc, .nilFunc, .nilFunc, .nilFunc, .nilFunc, .nilFunc, .nilFunc, .nilFunc, .nilFunc, .nilFunc, .nilFunc, .nilFunc, .nilFunc, .nilFunc, .nilFunc, .nilFunc, .nilFunc, .nilFunc, .nilFunc, .nilFunc, .nilFunc, .nilFunc, .nilFunc, .nilFunc, .nilFunc, .nilFunc, .nilFunc]
structure AluW_u16 (w W : World) : Prop where
  row : W.heap[w.heap.size + 1 + 1]? = some (.cells (aluRow_u16 w.heap.size) 67 (0, 0))
  b1 : W.cell? ⟨w.heap.size, 0, none⟩ = some (.func (.func 63) #[] #[])
  b2 : W.cell? ⟨w.heap.size + 1, 0, none⟩ = some (.func (.func 66) #[] #[])
  be : Below w.heap.size w W
theorem aluW_u16 (w : World) : AluW_u16 w ((((w.alloc (.cells #[.func (.func 63) #[] #[]] 65)).alloc (.cells #[.func (.func 66) #[] #[]] 65)).alloc (.cells #[.nilFunc, .nilFunc, .nilFunc, .nilFunc, .nilFunc, .nilFunc, .nilFunc, .nilFunc, .nilFunc, .nilFunc, .nilFunc, .nilFunc, .nilFunc, .nilFunc, .nilFunc, .nilFunc, .nilFunc, .nilFunc, .nilFunc, .nilFunc, .nilFunc, .nilFunc, .nilFunc, .nilFunc, .nilFunc, .nilFunc, .nilFunc, .nilFunc, .nilFunc, .nilFunc, .nilFunc, .nilFunc, .nilFunc, .nilFunc, .nilFunc, .nilFunc, .nilFunc, .nilFunc, .nilFunc, .nilFunc, .nilFunc, .nilFunc, .nilFunc, .nilFunc, .nilFunc] 67)).setRow (w.heap.size + 1 + 1) #[.nilFunc, .func (.func 61) #[] #[], .func (.func 65) #[] #[], .func (.func 62) #[] #[], .func (.func 64) #[] #[], .func (.func 66) #[] #[], .func (.func 63) #[] #[], .func (.func 67) #[] #[], .func (.func 128) #[] #[.pointer (some ⟨w.heap.size, 0, none⟩)], .nilFunc, .func (.func 128) #[] #[.pointer (some ⟨w.heap.size + 1, 0, none⟩)], .nilFunc, .nilFunc, .nilFunc, .nilFunc, .nilFunc, .nilFunc, .nilFunc, .nilFunc, .nilFunc, .nilFunc, .nilFunc, .nilFunc, .nilFunc, .nilFunc, .nilFunc, .nilFunc, .nilFunc, .nilFunc, .nilFunc, .nilFunc, .nilFunc, .nilFunc, .nilFunc, .nilFunc, .nilFunc, .nilFunc, .nilFunc, .nilFunc, .nilFunc, .nilFunc, .nilFunc, .nilFunc, .nilFunc, .nilFunc]) := by
  have e2 : ((w.alloc (.cells #[.func (.func 63) #[] #[]] 65)).alloc (.cells #[.func (.func 66) #[] #[]] 65)).heap.size = w.heap.size + 1 + 1 := by simp
  have HG : (((w.alloc (.cells #[.func (.func 63) #[] #[]] 65)).alloc (.cells #[.func (.func 66) #[] #[]] 65)).alloc (.cells #[.nilFunc, .nilFunc, .nilFunc, .nilFunc, .nilFunc, .nilFunc, .nilFunc, .nilFunc, .nilFunc, .nilFunc, .nilFunc, .nilFunc, .nilFunc, .nilFunc, .nilFunc, .nilFunc, .nilFunc, .nilFunc, .nilFunc, .nilFunc, .nilFunc, .nilFunc, .nilFunc, .nilFunc, .nilFunc, .nilFunc, .nilFunc, .nilFunc, .nilFunc, .nilFunc, .nilFunc, .nilFunc, .nilFunc, .nilFunc, .nilFunc, .nilFunc, .nilFunc, .nilFunc, .nilFunc, .nilFunc, .nilFunc, .nilFunc, .nilFunc, .nilFunc, .nilFunc] 67)).heap[w.heap.size + 1 + 1]? = some (.cells #[.nilFunc, .nilFunc, .nilFunc, .nilFunc, .nilFunc, .nilFunc, .nilFunc, .nilFunc, .nilFunc, .nilFunc, .nilFunc, .nilFunc, .nilFunc, .nilFunc, .nilFunc, .nilFunc, .nilFunc, .nilFunc, .nilFunc, .nilFunc, .nilFunc, .nilFunc, .nilFunc, .nilFunc, .nilFunc, .nilFunc, .nilFunc, .nilFunc, .nilFunc, .nilFunc, .nilFunc, .nilFunc, .nilFunc, .nilFunc, .nilFunc, .nilFunc, .nilFunc, .nilFunc, .nilFunc, .nilFunc, .nilFunc, .nilFunc, .nilFunc, .nilFunc, .nilFunc] 67 (0, 0)) := by rw [← e2]; exact heap_alloc_new _ _
  refine ⟨?_, ?_, ?_, ?_⟩
  · exact setRow_heap _ _ _ _ _ _ HG
  · exact (cell_setRow_other _ _ _ _ (by simp; omega)).trans (by go_simp)
  · exact (cell_setRow_other _ _ _ _ (by simp)).trans (by go_simp)
  · exact below_setRow ((((Below.refl _ _).alloc (Nat.le_refl _) _).alloc (by simp) _).alloc (by simp; omega) _) (by omega) _
set_option maxRecDepth 100000 in
set_option maxHeartbeats 1000000 in
theorem alu1_u16 (a b f : Int) (V F : Int) (CX : Hid (∀ w, Calls Tryz.prog 61 #[.int .u16 (IntKind.u16.wrap a), .int .u16 (IntKind.u16.wrap b), .int .i64 f] w fun e w' => e = .returned (.tuple #[.int .u16 V, .int .i64 F]) ∧ w = w')) (w : World) : Calls Tryz.prog 24 #[.int .i64 1, .int .i64 a, .int .i64 b, .int .i64 f] w fun e w' => e = .returned (.tuple #[.int .i64 (wrap64 V), .int .i64 F, .int .i64 0]) ∧ Below w.heap.size w w' := by
  have CO := Lib.hid (fun w => isOpYes 1 w (by decide) (by decide))
  have CA := Lib.hid aloneC_u16
  have HG := Lib.hid (show (((w.alloc (.cells #[.func (.func 63) #[] #[]] 65)).alloc (.cells #[.func (.func 66) #[] #[]] 65)).alloc (.cells #[.nilFunc, .nilFunc, .nilFunc, .nilFunc, .nilFunc, .nilFunc, .nilFunc, .nilFunc, .nilFunc, .nilFunc, .nilFunc, .nilFunc, .nilFunc, .nilFunc, .nilFunc, .nilFunc, .nilFunc, .nilFunc, .nilFunc, .nilFunc, .nilFunc, .nilFunc, .nilFunc, .nilFunc, .nilFunc, .nilFunc, .nilFunc, .nilFunc, .nilFunc, .nilFunc, .nilFunc, .nilFunc, .nilFunc, .nilFunc, .nilFunc, .nilFunc, .nilFunc, .nilFunc, .nilFunc, .nilFunc, .nilFunc, .nilFunc, .nilFunc, .nilFunc, .nilFunc] 67)).heap[w.heap.size + 1 + 1]? = some (.cells #[.nilFunc, .nilFunc, .nilFunc, .nilFunc, .nilFunc, .nilFunc, .nilFunc, .nilFunc, .nilFunc, .nilFunc, .nilFunc, .nilFunc, .nilFunc, .nilFunc, .nilFunc, .nilFunc, .nilFunc, .nilFunc, .nilFunc, .nilFunc, .nilFunc, .nilFunc, .nilFunc, .nilFunc, .nilFunc, .nilFunc, .nilFunc, .nilFunc, .nilFunc, .nilFunc, .nilFunc, .nilFunc, .nilFunc, .nilFunc, .nilFunc, .nilFunc, .nilFunc, .nilFunc, .nilFunc, .nilFunc, .nilFunc, .nilFunc, .nilFunc, .nilFunc, .nilFunc] 67 (0, 0)) from by simpa using heap_alloc_new ((w.alloc (.cells #[.func (.func 63) #[] #[]] 65)).alloc (.cells #[.func (.func 66) #[] #[]] 65)) (.cells #[.nilFunc, .nilFunc, .nilFunc, .nilFunc, .nilFunc, .nilFunc, .nilFunc, .nilFunc, .nilFunc, .nilFunc, .nilFunc, .nilFunc, .nilFunc, .nilFunc, .nilFunc, .nilFunc, .nilFunc, .nilFunc, .nilFunc, .nilFunc, .nilFunc, .nilFunc, .nilFunc, .nilFunc, .nilFunc, .nilFunc, .nilFunc, .nilFunc, .nilFunc, .nilFunc, .nilFunc, .nilFunc, .nilFunc, .nilFunc, .nilFunc, .nilFunc, .nilFunc, .nilFunc, .nilFunc, .nilFunc, .nilFunc, .nilFunc, .nilFunc, .nilFunc, .nilFunc] 67))
  have HW := Lib.hid (aluW_u16 w)
  go_enter Tryz.func24, Tryz.ntmps24
  go_wp2_with fail
  refine (CA.out _ _).mono ?_
  rintro e w2 ⟨rfl, rfl⟩
  go_wp2_with fail
  refine (CA.out _ _).mono ?_
  rintro e w2 ⟨rfl, rfl⟩
  go_wp2_with (refine wpList_store_row rfl 67 (.tmp 11) (.tmp 15) rfl (w.heap.size + 1 + 1) #[.nilFunc, .func (.func 61) #[] #[], .func (.func 65) #[] #[], .func (.func 62) #[] #[], .func (.func 64) #[] #[], .func (.func 66) #[] #[], .func (.func 63) #[] #[], .func (.func 67) #[] #[], .func (.func 128) #[] #[.pointer (some ⟨w.heap.size, 0, none⟩)], .nilFunc, .func (.func 128) #[] #[.pointer (some ⟨w.heap.size + 1, 0, none⟩)], .nilFunc, .nilFunc, .nilFunc, .nilFunc, .nilFunc, .nilFunc, .nilFunc, .nilFunc, .nilFunc, .nilFunc, .nilFunc, .nilFunc, .nilFunc, .nilFunc, .nilFunc, .nilFunc, .nilFunc, .nilFunc, .nilFunc, .nilFunc, .nilFunc, .nilFunc, .nilFunc, .nilFunc, .nilFunc, .nilFunc, .nilFunc, .nilFunc, .nilFunc, .nilFunc, .nilFunc, .nilFunc, .nilFunc, .nilFunc] rfl rfl 67 _ HG.out (by kernel_rfl) rfl (by simp [Value.oneCell']) ?_; generalize hW9 : ((((w.alloc (.cells #[.func (.func 63) #[] #[]] 65)).alloc (.cells #[.func (.func 66) #[] #[]] 65)).alloc (.cells #[.nilFunc, .nilFunc, .nilFunc, .nilFunc, .nilFunc, .nilFunc, .nilFunc, .nilFunc, .nilFunc, .nilFunc, .nilFunc, .nilFunc, .nilFunc, .nilFunc, .nilFunc, .nilFunc, .nilFunc, .nilFunc, .nilFunc, .nilFunc, .nilFunc, .nilFunc, .nilFunc, .nilFunc, .nilFunc, .nilFunc, .nilFunc, .nilFunc, .nilFunc, .nilFunc, .nilFunc, .nilFunc, .nilFunc, .nilFunc, .nilFunc, .nilFunc, .nilFunc, .nilFunc, .nilFunc, .nilFunc, .nilFunc, .nilFunc, .nilFunc, .nilFunc, .nilFunc] 67)).setRow (w.heap.size + 1 + 1) #[.nilFunc, .func (.func 61) #[] #[], .func (.func 65) #[] #[], .func (.func 62) #[] #[], .func (.func 64) #[] #[], .func (.func 66) #[] #[], .func (.func 63) #[] #[], .func (.func 67) #[] #[], .func (.func 128) #[] #[.pointer (some ⟨w.heap.size, 0, none⟩)], .nilFunc, .func (.func 128) #[] #[.pointer (some ⟨w.heap.size + 1, 0, none⟩)], .nilFunc, .nilFunc, .nilFunc, .nilFunc, .nilFunc, .nilFunc, .nilFunc, .nilFunc, .nilFunc, .nilFunc, .nilFunc, .nilFunc, .nilFunc, .nilFunc, .nilFunc, .nilFunc, .nilFunc, .nilFunc, .nilFunc, .nilFunc, .nilFunc, .nilFunc, .nilFunc, .nilFunc, .nilFunc, .nilFunc, .nilFunc, .nilFunc, .nilFunc, .nilFunc, .nilFunc, .nilFunc, .nilFunc, .nilFunc]) = W9 at *; clear hW9)
  clear HG CA
  have hc := (cell_of_row _ _ 1 _ _ _ HW.out.row).trans (show (aluRow_u16 w.heap.size)[1]? = some (.func (.func 61) #[] #[]) from rfl)
  have KE := fun W => eqNo2_u16 (.func 61) #[] #[] W
  refine (CO.out _).mono ?_
  rintro e w2 ⟨rfl, rfl⟩
  go_wp2_with fail
  refine (CX.out _).mono ?_
  rintro e w2 ⟨rfl, rfl⟩
  go_wp2
  go_ret3
  exact ⟨rfl, HW.out.be⟩
set_option maxRecDepth 100000 in
set_option maxHeartbeats 1000000 in
theorem alu2_u16 (a b f : Int) (V F : Int) (CX : Hid (∀ w, Calls Tryz.prog 65 #[.int .u16 (IntKind.u16.wrap a), .int .u16 (IntKind.u16.wrap b), .int .i64 f] w fun e w' => e = .returned (.tuple #[.int .u16 V, .int .i64 F]) ∧ w = w')) (w : World) : Calls Tryz.prog 24 #[.int .i64 2, .int .i64 a, .int .i64 b, .int .i64 f] w fun e w' => e = .returned (.tuple #[.int .i64 (wrap64 V), .int .i64 F, .int .i64 0]) ∧ Below w.heap.size w w' := by
  have CO := Lib.hid (fun w => isOpYes 2 w (by decide) (by decide))
  have CA := Lib.hid aloneC_u16
  have HG := Lib.hid (show (((w.alloc (.cells #[.func (.func 63) #[] #[]] 65)).alloc (.cells #[.func (.func 66) #[] #[]] 65)).alloc (.cells #[.nilFunc, .nilFunc, .nilFunc, .nilFunc, .nilFunc, .nilFunc, .nilFunc, .nilFunc, .nilFunc, .nilFunc, .nilFunc, .nilFunc, .nilFunc, .nilFunc, .nilFunc, .nilFunc, .nilFunc, .nilFunc, .nilFunc, .nilFunc, .nilFunc, .nilFunc, .nilFunc, .nilFunc, .nilFunc, .nilFunc, .nilFunc, .nilFunc, .nilFunc, .nilFunc, .nilFunc, .nilFunc, .nilFunc, .nilFunc, .nilFunc, .nilFunc, .nilFunc, .nilFunc, .nilFunc, .nilFunc, .nilFunc, .nilFunc, .nilFunc, .nilFunc, .nilFunc] 67)).heap[w.heap.size + 1 + 1]? = some (.cells #[.nilFunc, .nilFunc, .nilFunc, .nilFunc, .nilFunc, .nilFunc, .nilFunc, .nilFunc, .nilFunc, .nilFunc, .nilFunc, .nilFunc, .nilFunc, .nilFunc, .nilFunc, .nilFunc, .nilFunc, .nilFunc, .nilFunc, .nilFunc, .nilFunc, .nilFunc, .nilFunc, .nilFunc, .nilFunc, .nilFunc, .nilFunc, .nilFunc, .nilFunc, .nilFunc, .nilFunc, .nilFunc, .nilFunc, .nilFunc, .nilFunc, .nilFunc, .nilFunc, .nilFunc, .nilFunc, .nilFunc, .nilFunc, .nilFunc, .nilFunc, .nilFunc, .nilFunc] 67 (0, 0)) from by simpa using heap_alloc_new ((w.alloc (.cells #[.func (.func 63) #[] #[]] 65)).alloc (.cells #[.func (.func 66) #[] #[]] 65)) (.cells #[.nilFunc, .nilFunc, .nilFunc, .nilFunc, .nilFunc, .nilFunc, .nilFunc, .nilFunc, .nilFunc, .nilFunc, .nilFunc, .nilFunc, .nilFunc, .nilFunc, .nilFunc, .nilFunc, .nilFunc, .nilFunc, .nilFunc, .nilFunc, .nilFunc, .nilFunc, .nilFunc, .nilFunc, .nilFunc, .nilFunc, .nilFunc, .nilFunc, .nilFunc, .nilFunc, .nilFunc, .nilFunc, .nilFunc, .nilFunc, .nilFunc, .nilFunc, .nilFunc, .nilFunc, .nilFunc, .nilFunc, .nilFunc, .nilFunc, .nilFunc, .nilFunc, .nilFunc] 67))
  have HW := Lib.hid (aluW_u16 w)
  go_enter Tryz.func24, Tryz.ntmps24
  go_wp2_with fail
  refine (CA.out _ _).mono ?_
  rintro e w2 ⟨rfl, rfl⟩
  go_wp2_with fail
  refine (CA.out _ _).mono ?_
  rintro e w2 ⟨rfl, rfl⟩
  go_wp2_with (refine wpList_store_row rfl 67 (.tmp 11) (.tmp 15) rfl (w.heap.size + 1 + 1) #[.nilFunc, .func (.func 61) #[] #[], .func (.func 65) #[] #[], .func (.func 62) #[] #[], .func (.func 64) #[] #[], .func (.func 66) #[] #[], .func (.func 63) #[] #[], .func (.func 67) #[] #[], .func (.func 128) #[] #[.pointer (some ⟨w.heap.size, 0, none⟩)], .nilFunc, .func (.func 128) #[] #[.pointer (some ⟨w.heap.size + 1, 0, none⟩)], .nilFunc, .nilFunc, .nilFunc, .nilFunc, .nilFunc, .nilFunc, .nilFunc, .nilFunc, .nilFunc, .nilFunc, .nilFunc, .nilFunc, .nilFunc, .nilFunc, .nilFunc, .nilFunc, .nilFunc, .nilFunc, .nilFunc, .nilFunc, .nilFunc, .nilFunc, .nilFunc, .nilFunc, .nilFunc, .nilFunc, .nilFunc, .nilFunc, .nilFunc, .nilFunc, .nilFunc, .nilFunc, .nilFunc, .nilFunc] rfl rfl 67 _ HG.out (by kernel_rfl) rfl (by simp [Value.oneCell']) ?_; generalize hW9 : ((((w.alloc (.cells #[.func (.func 63) #[] #[]] 65)).alloc (.cells #[.func (.func 66) #[] #[]] 65)).alloc (.cells #[.nilFunc, .nilFunc, .nilFunc, .nilFunc, .nilFunc, .nilFunc, .nilFunc, .nilFunc, .nilFunc, .nilFunc, .nilFunc, .nilFunc, .nilFunc, .nilFunc, .nilFunc, .nilFunc, .nilFunc, .nilFunc, .nilFunc, .nilFunc, .nilFunc, .nilFunc, .nilFunc, .nilFunc, .nilFunc, .nilFunc, .nilFunc, .nilFunc, .nilFunc, .nilFunc, .nilFunc, .nilFunc, .nilFunc, .nilFunc, .nilFunc, .nilFunc, .nilFunc, .nilFunc, .nilFunc, .nilFunc, .nilFunc, .nilFunc, .nilFunc, .nilFunc, .nilFunc] 67)).setRow (w.heap.size + 1 + 1) #[.nilFunc, .func (.func 61) #[] #[], .func (.func 65) #[] #[], .func (.func 62) #[] #[], .func (.func 64) #[] #[], .func (.func 66) #[] #[], .func (.func 63) #[] #[], .func (.func 67) #[] #[], .func (.func 128) #[] #[.pointer (some ⟨w.heap.size, 0, none⟩)], .nilFunc, .func (.func 128) #[] #[.pointer (some ⟨w.heap.size + 1, 0, none⟩)], .nilFunc, .nilFunc, .nilFunc, .nilFunc, .nilFunc, .nilFunc, .nilFunc, .nilFunc, .nilFunc, .nilFunc, .nilFunc, .nilFunc, .nilFunc, .nilFunc, .nilFunc, .nilFunc, .nilFunc, .nilFunc, .nilFunc, .nilFunc, .nilFunc, .nilFunc, .nilFunc, .nilFunc, .nilFunc, .nilFunc, .nilFunc, .nilFunc, .nilFunc, .nilFunc, .nilFunc, .nilFunc, .nilFunc, .nilFunc]) = W9 at *; clear hW9)
  clear HG CA
  have hc := (cell_of_row _ _ 2 _ _ _ HW.out.row).trans (show (aluRow_u16 w.heap.size)[2]? = some (.func (.func 65) #[] #[]) from rfl)
  have KE := fun W => eqNo2_u16 (.func 65) #[] #[] W
  refine (CO.out _).mono ?_
  rintro e w2 ⟨rfl, rfl⟩
  go_wp2_with fail
  refine (CX.out _).mono ?_
  rintro e w2 ⟨rfl, rfl⟩
  go_wp2
  go_ret3
  exact ⟨rfl, HW.out.be⟩
set_option maxRecDepth 100000 in
set_option maxHeartbeats 1000000 in
theorem alu3_u16 (a b f : Int) (V F : Int) (CX : Hid (∀ w, Calls Tryz.prog 62 #[.int .u16 (IntKind.u16.wrap a), .int .u16 (IntKind.u16.wrap b), .int .i64 f] w fun e w' => e = .returned (.tuple #[.int .u16 V, .int .i64 F]) ∧ w = w')) (w : World) : Calls Tryz.prog 24 #[.int .i64 3, .int .i64 a, .int .i64 b, .int .i64 f] w fun e w' => e = .returned (.tuple #[.int .i64 (wrap64 V), .int .i64 F, .int .i64 0]) ∧ Below w.heap.size w w' := by
  have CO := Lib.hid (fun w => isOpYes 3 w (by decide) (by decide))
  have CA := Lib.hid aloneC_u16
  have HG := Lib.hid (show (((w.alloc (.cells #[.func (.func 63) #[] #[]] 65)).alloc (.cells #[.func (.func 66) #[] #[]] 65)).alloc (.cells #[.nilFunc, .nilFunc, .nilFunc, .nilFunc, .nilFunc, .nilFunc, .nilFunc, .nilFunc, .nilFunc, .nilFunc, .nilFunc, .nilFunc, .nilFunc, .nilFunc, .nilFunc, .nilFunc, .nilFunc, .nilFunc, .nilFunc, .nilFunc, .nilFunc, .nilFunc, .nilFunc, .nilFunc, .nilFunc, .nilFunc, .nilFunc, .nilFunc, .nilFunc, .nilFunc, .nilFunc, .nilFunc, .nilFunc, .nilFunc, .nilFunc, .nilFunc, .nilFunc, .nilFunc, .nilFunc, .nilFunc, .nilFunc, .nilFunc, .nilFunc, .nilFunc, .nilFunc] 67)).heap[w.heap.size + 1 + 1]? = some (.cells #[.nilFunc, .nilFunc, .nilFunc, .nilFunc, .nilFunc, .nilFunc, .nilFunc, .nilFunc, .nilFunc, .nilFunc, .nilFunc, .nilFunc, .nilFunc, .nilFunc, .nilFunc, .nilFunc, .nilFunc, .nilFunc, .nilFunc, .nilFunc, .nilFunc, .nilFunc, .nilFunc, .nilFunc, .nilFunc, .nilFunc, .nilFunc, .nilFunc, .nilFunc, .nilFunc, .nilFunc, .nilFunc, .nilFunc, .nilFunc, .nilFunc, .nilFunc, .nilFunc, .nilFunc, .nilFunc, .nilFunc, .nilFunc, .nilFunc, .nilFunc, .nilFunc, .nilFunc] 67 (0, 0)) from by simpa using heap_alloc_new ((w.alloc (.cells #[.func (.func 63) #[] #[]] 65)).alloc (.cells #[.func (.func 66) #[] #[]] 65)) (.cells #[.nilFunc, .nilFunc, .nilFunc, .nilFunc, .nilFunc, .nilFunc, .nilFunc, .nilFunc, .nilFunc, .nilFunc, .nilFunc, .nilFunc, .nilFunc, .nilFunc, .nilFunc, .nilFunc, .nilFunc, .nilFunc, .nilFunc, .nilFunc, .nilFunc, .nilFunc, .nilFunc, .nilFunc, .nilFunc, .nilFunc, .nilFunc, .nilFunc, .nilFunc, .nilFunc, .nilFunc, .nilFunc, .nilFunc, .nilFunc, .nilFunc, .nilFunc, .nilFunc, .nilFunc, .nilFunc, .nilFunc, .nilFunc, .nilFunc, .nilFunc, .nilFunc, .nilFunc] 67))
  have HW := Lib.hid (aluW_u16 w)
  go_enter Tryz.func24, Tryz.ntmps24
  go_wp2_with fail
  refine (CA.out _ _).mono ?_
  rintro e w2 ⟨rfl, rfl⟩
  go_wp2_with fail
  refine (CA.out _ _).mono ?_
  rintro e w2 ⟨rfl, rfl⟩
  go_wp2_with (refine wpList_store_row rfl 67 (.tmp 11) (.tmp 15) rfl (w.heap.size + 1 + 1) #[.nilFunc, .func (.func 61) #[] #[], .func (.func 65) #[] #[], .func (.func 62) #[] #[], .func (.func 64) #[] #[], .func (.func 66) #[] #[], .func (.func 63) #[] #[], .func (.func 67) #[] #[], .func (.func 128) #[] #[.pointer (some ⟨w.heap.size, 0, none⟩)], .nilFunc, .func (.func 128) #[] #[.pointer (some ⟨w.heap.size + 1, 0, none⟩)], .nilFunc, .nilFunc, .nilFunc, .nilFunc, .nilFunc, .nilFunc, .nilFunc, .nilFunc, .nilFunc, .nilFunc, .nilFunc, .nilFunc, .nilFunc, .nilFunc, .nilFunc, .nilFunc, .nilFunc, .nilFunc, .nilFunc, .nilFunc, .nilFunc, .nilFunc, .nilFunc, .nilFunc, .nilFunc, .nilFunc, .nilFunc, .nilFunc, .nilFunc, .nilFunc, .nilFunc, .nilFunc, .nilFunc, .nilFunc] rfl rfl 67 _ HG.out (by kernel_rfl) rfl (by simp [Value.oneCell']) ?_; generalize hW9 : ((((w.alloc (.cells #[.func (.func 63) #[] #[]] 65)).alloc (.cells #[.func (.func 66) #[] #[]] 65)).alloc (.cells #[.nilFunc, .nilFunc, .nilFunc, .nilFunc, .nilFunc, .nilFunc, .nilFunc, .nilFunc, .nilFunc, .nilFunc, .nilFunc, .nilFunc, .nilFunc, .nilFunc, .nilFunc, .nilFunc, .nilFunc, .nilFunc, .nilFunc, .nilFunc, .nilFunc, .nilFunc, .nilFunc, .nilFunc, .nilFunc, .nilFunc, .nilFunc, .nilFunc, .nilFunc, .nilFunc, .nilFunc, .nilFunc, .nilFunc, .nilFunc, .nilFunc, .nilFunc, .nilFunc, .nilFunc, .nilFunc, .nilFunc, .nilFunc, .nilFunc, .nilFunc, .nilFunc, .nilFunc] 67)).setRow (w.heap.size + 1 + 1) #[.nilFunc, .func (.func 61) #[] #[], .func (.func 65) #[] #[], .func (.func 62) #[] #[], .func (.func 64) #[] #[], .func (.func 66) #[] #[], .func (.func 63) #[] #[], .func (.func 67) #[] #[], .func (.func 128) #[] #[.pointer (some ⟨w.heap.size, 0, none⟩)], .nilFunc, .func (.func 128) #[] #[.pointer (some ⟨w.heap.size + 1, 0, none⟩)], .nilFunc, .nilFunc, .nilFunc, .nilFunc, .nilFunc, .nilFunc, .nilFunc, .nilFunc, .nilFunc, .nilFunc, .nilFunc, .nilFunc, .nilFunc, .nilFunc, .nilFunc, .nilFunc, .nilFunc, .nilFunc, .nilFunc, .nilFunc, .nilFunc, .nilFunc, .nilFunc, .nilFunc, .nilFunc, .nilFunc, .nilFunc, .nilFunc, .nilFunc, .nilFunc, .nilFunc, .nilFunc, .nilFunc, .nilFunc]) = W9 at *; clear hW9)
  clear HG CA
  have hc := (cell_of_row _ _ 3 _ _ _ HW.out.row).trans (show (aluRow_u16 w.heap.size)[3]? = some (.func (.func 62) #[] #[]) from rfl)
  have KE := fun W => eqNo2_u16 (.func 62) #[] #[] W
  refine (CO.out _).mono ?_
  rintro e w2 ⟨rfl, rfl⟩
  go_wp2_with fail
  refine (CX.out _).mono ?_
  rintro e w2 ⟨rfl, rfl⟩
  go_wp2
  go_ret3
  exact ⟨rfl, HW.out.be⟩
set_option maxRecDepth 100000 in
set_option maxHeartbeats 1000000 in
theorem alu4_u16 (a b f : Int) (V F : Int) (CX : Hid (∀ w, Calls Tryz.prog 64 #[.int .u16 (IntKind.u16.wrap a), .int .u16 (IntKind.u16.wrap b), .int .i64 f] w fun e w' => e = .returned (.tuple #[.int .u16 V, .int .i64 F]) ∧ w = w')) (w : World) : Calls Tryz.prog 24 #[.int .i64 4, .int .i64 a, .int .i64 b, .int .i64 f] w fun e w' => e = .returned (.tuple #[.int .i64 (wrap64 V), .int .i64 F, .int .i64 0]) ∧ Below w.heap.size w w' := by
  have CO := Lib.hid (fun w => isOpYes 4 w (by decide) (by decide))
  have CA := Lib.hid aloneC_u16
  have HG := Lib.hid (show (((w.alloc (.cells #[.func (.func 63) #[] #[]] 65)).alloc (.cells #[.func (.func 66) #[] #[]] 65)).alloc (.cells #[.nilFunc, .nilFunc, .nilFunc, .nilFunc, .nilFunc, .nilFunc, .nilFunc, .nilFunc, .nilFunc, .nilFunc, .nilFunc, .nilFunc, .nilFunc, .nilFunc, .nilFunc, .nilFunc, .nilFunc, .nilFunc, .nilFunc, .nilFunc, .nilFunc, .nilFunc, .nilFunc, .nilFunc, .nilFunc, .nilFunc, .nilFunc, .nilFunc, .nilFunc, .nilFunc, .nilFunc, .nilFunc, .nilFunc, .nilFunc, .nilFunc, .nilFunc, .nilFunc, .nilFunc, .nilFunc, .nilFunc, .nilFunc, .nilFunc, .nilFunc, .nilFunc, .nilFunc] 67)).heap[w.heap.size + 1 + 1]? = some (.cells #[.nilFunc, .nilFunc, .nilFunc, .nilFunc, .nilFunc, .nilFunc, .nilFunc, .nilFunc, .nilFunc, .nilFunc, .nilFunc, .nilFunc, .nilFunc, .nilFunc, .nilFunc, .nilFunc, .nilFunc, .nilFunc, .nilFunc, .nilFunc, .nilFunc, .nilFunc, .nilFunc, .nilFunc, .nilFunc, .nilFunc, .nilFunc, .nilFunc, .nilFunc, .nilFunc, .nilFunc, .nilFunc, .nilFunc, .nilFunc, .nilFunc, .nilFunc, .nilFunc, .nilFunc, .nilFunc, .nilFunc, .nilFunc, .nilFunc, .nilFunc, .nilFunc, .nilFunc] 67 (0, 0)) from by simpa using heap_alloc_new ((w.alloc (.cells #[.func (.func 63) #[] #[]] 65)).alloc (.cells #[.func (.func 66) #[] #[]] 65)) (.cells #[.nilFunc, .nilFunc, .nilFunc, .nilFunc, .nilFunc, .nilFunc, .nilFunc, .nilFunc, .nilFunc, .nilFunc, .nilFunc, .nilFunc, .nilFunc, .nilFunc, .nilFunc, .nilFunc, .nilFunc, .nilFunc, .nilFunc, .nilFunc, .nilFunc, .nilFunc, .nilFunc, .nilFunc, .nilFunc, .nilFunc, .nilFunc, .nilFunc, .nilFunc, .nilFunc, .nilFunc, .nilFunc, .nilFunc, .nilFunc, .nilFunc, .nilFunc, .nilFunc, .nilFunc, .nilFunc, .nilFunc, .nilFunc, .nilFunc, .nilFunc, .nilFunc, .nilFunc] 67))
  have HW := Lib.hid (aluW_u16 w)
  go_enter Tryz.func24, Tryz.ntmps24
  go_wp2_with fail
  refine (CA.out _ _).mono ?_
  rintro e w2 ⟨rfl, rfl⟩
  go_wp2_with fail
  refine (CA.out _ _).mono ?_
  rintro e w2 ⟨rfl, rfl⟩
  go_wp2_with (refine wpList_store_row rfl 67 (.tmp 11) (.tmp 15) rfl (w.heap.size + 1 + 1) #[.nilFunc, .func (.func 61) #[] #[], .func (.func 65) #[] #[], .func (.func 62) #[] #[], .func (.func 64) #[] #[], .func (.func 66) #[] #[], .func (.func 63) #[] #[], .func (.func 67) #[] #[], .func (.func 128) #[] #[.pointer (some ⟨w.heap.size, 0, none⟩)], .nilFunc, .func (.func 128) #[] #[.pointer (some ⟨w.heap.size + 1, 0, none⟩)], .nilFunc, .nilFunc, .nilFunc, .nilFunc, .nilFunc, .nilFunc, .nilFunc, .nilFunc, .nilFunc, .nilFunc, .nilFunc, .nilFunc, .nilFunc, .nilFunc, .nilFunc, .nilFunc, .nilFunc, .nilFunc, .nilFunc, .nilFunc, .nilFunc, .nilFunc, .nilFunc, .nilFunc, .nilFunc, .nilFunc, .nilFunc, .nilFunc, .nilFunc, .nilFunc, .nilFunc, .nilFunc, .nilFunc, .nilFunc] rfl rfl 67 _ HG.out (by kernel_rfl) rfl (by simp [Value.oneCell']) ?_; generalize hW9 : ((((w.alloc (.cells #[.func (.func 63) #[] #[]] 65)).alloc (.cells #[.func (.func 66) #[] #[]] 65)).alloc (.cells #[.nilFunc, .nilFunc, .nilFunc, .nilFunc, .nilFunc, .nilFunc, .nilFunc, .nilFunc, .nilFunc, .nilFunc, .nilFunc, .nilFunc, .nilFunc, .nilFunc, .nilFunc, .nilFunc, .nilFunc, .nilFunc, .nilFunc, .nilFunc, .nilFunc, .nilFunc, .nilFunc, .nilFunc, .nilFunc, .nilFunc, .nilFunc, .nilFunc, .nilFunc, .nilFunc, .nilFunc, .nilFunc, .nilFunc, .nilFunc, .nilFunc, .nilFunc, .nilFunc, .nilFunc, .nilFunc, .nilFunc, .nilFunc, .nilFunc, .nilFunc, .nilFunc, .nilFunc] 67)).setRow (w.heap.size + 1 + 1) #[.nilFunc, .func (.func 61) #[] #[], .func (.func 65) #[] #[], .func (.func 62) #[] #[], .func (.func 64) #[] #[], .func (.func 66) #[] #[], .func (.func 63) #[] #[], .func (.func 67) #[] #[], .func (.func 128) #[] #[.pointer (some ⟨w.heap.size, 0, none⟩)], .nilFunc, .func (.func 128) #[] #[.pointer (some ⟨w.heap.size + 1, 0, none⟩)], .nilFunc, .nilFunc, .nilFunc, .nilFunc, .nilFunc, .nilFunc, .nilFunc, .nilFunc, .nilFunc, .nilFunc, .nilFunc, .nilFunc, .nilFunc, .nilFunc, .nilFunc, .nilFunc, .nilFunc, .nilFunc, .nilFunc, .nilFunc, .nilFunc, .nilFunc, .nilFunc, .nilFunc, .nilFunc, .nilFunc, .nilFunc, .nilFunc, .nilFunc, .nilFunc, .nilFunc, .nilFunc, .nilFunc, .nilFunc]) = W9 at *; clear hW9)
  clear HG CA
  have hc := (cell_of_row _ _ 4 _ _ _ HW.out.row).trans (show (aluRow_u16 w.heap.size)[4]? = some (.func (.func 64) #[] #[]) from rfl)
  have KE := fun W => eqNo2_u16 (.func 64) #[] #[] W
  refine (CO.out _).mono ?_
  rintro e w2 ⟨rfl, rfl⟩
  go_wp2_with fail
  refine (CX.out _).mono ?_
  rintro e w2 ⟨rfl, rfl⟩
  go_wp2
  go_ret3
  exact ⟨rfl, HW.out.be⟩
set_option maxRecDepth 100000 in
set_option maxHeartbeats 1000000 in
theorem alu5_u16 (a b f : Int) (V F : Int) (CX : Hid (∀ w, Calls Tryz.prog 66 #[.int .u16 (IntKind.u16.wrap a), .int .u16 (IntKind.u16.wrap b), .int .i64 f] w fun e w' => e = .returned (.tuple #[.int .u16 V, .int .i64 F]) ∧ w = w')) (w : World) : Calls Tryz.prog 24 #[.int .i64 5, .int .i64 a, .int .i64 b, .int .i64 f] w fun e w' => e = .returned (.tuple #[.int .i64 (wrap64 V), .int .i64 F, .int .i64 0]) ∧ Below w.heap.size w w' := by
  have CO := Lib.hid (fun w => isOpYes 5 w (by decide) (by decide))
  have CA := Lib.hid aloneC_u16
  have HG := Lib.hid (show (((w.alloc (.cells #[.func (.func 63) #[] #[]] 65)).alloc (.cells #[.func (.func 66) #[] #[]] 65)).alloc (.cells #[.nilFunc, .nilFunc, .nilFunc, .nilFunc, .nilFunc, .nilFunc, .nilFunc, .nilFunc, .nilFunc, .nilFunc, .nilFunc, .nilFunc, .nilFunc, .nilFunc, .nilFunc, .nilFunc, .nilFunc, .nilFunc, .nilFunc, .nilFunc, .nilFunc, .nilFunc, .nilFunc, .nilFunc, .nilFunc, .nilFunc, .nilFunc, .nilFunc, .nilFunc, .nilFunc, .nilFunc, .nilFunc, .nilFunc, .nilFunc, .nilFunc, .nilFunc, .nilFunc, .nilFunc, .nilFunc, .nilFunc, .nilFunc, .nilFunc, .nilFunc, .nilFunc, .nilFunc] 67)).heap[w.heap.size + 1 + 1]? = some (.cells #[.nilFunc, .nilFunc, .nilFunc, .nilFunc, .nilFunc, .nilFunc, .nilFunc, .nilFunc, .nilFunc, .nilFunc, .nilFunc, .nilFunc, .nilFunc, .nilFunc, .nilFunc, .nilFunc, .nilFunc, .nilFunc, .nilFunc, .nilFunc, .nilFunc, .nilFunc, .nilFunc, .nilFunc, .nilFunc, .nilFunc, .nilFunc, .nilFunc, .nilFunc, .nilFunc, .nilFunc, .nilFunc, .nilFunc, .nilFunc, .nilFunc, .nilFunc, .nilFunc, .nilFunc, .nilFunc, .nilFunc, .nilFunc, .nilFunc, .nilFunc, .nilFunc, .nilFunc] 67 (0, 0)) from by simpa using heap_alloc_new ((w.alloc (.cells #[.func (.func 63) #[] #[]] 65)).alloc (.cells #[.func (.func 66) #[] #[]] 65)) (.cells #[.nilFunc, .nilFunc, .nilFunc, .nilFunc, .nilFunc, .nilFunc, .nilFunc, .nilFunc, .nilFunc, .nilFunc, .nilFunc, .nilFunc, .nilFunc, .nilFunc, .nilFunc, .nilFunc, .nilFunc, .nilFunc, .nilFunc, .nilFunc, .nilFunc, .nilFunc, .nilFunc, .nilFunc, .nilFunc, .nilFunc, .nilFunc, .nilFunc, .nilFunc, .nilFunc, .nilFunc, .nilFunc, .nilFunc, .nilFunc, .nilFunc, .nilFunc, .nilFunc, .nilFunc, .nilFunc, .nilFunc, .nilFunc, .nilFunc, .nilFunc, .nilFunc, .nilFunc] 67))
  have HW := Lib.hid (aluW_u16 w)
  go_enter Tryz.func24, Tryz.ntmps24
  go_wp2_with fail
  refine (CA.out _ _).mono ?_
  rintro e w2 ⟨rfl, rfl⟩
  go_wp2_with fail
  refine (CA.out _ _).mono ?_
  rintro e w2 ⟨rfl, rfl⟩
  go_wp2_with (refine wpList_store_row rfl 67 (.tmp 11) (.tmp 15) rfl (w.heap.size + 1 + 1) #[.nilFunc, .func (.func 61) #[] #[], .func (.func 65) #[] #[], .func (.func 62) #[] #[], .func (.func 64) #[] #[], .func (.func 66) #[] #[], .func (.func 63) #[] #[], .func (.func 67) #[] #[], .func (.func 128) #[] #[.pointer (some ⟨w.heap.size, 0, none⟩)], .nilFunc, .func (.func 128) #[] #[.pointer (some ⟨w.heap.size + 1, 0, none⟩)], .nilFunc, .nilFunc, .nilFunc, .nilFunc, .nilFunc, .nilFunc, .nilFunc, .nilFunc, .nilFunc, .nilFunc, .nilFunc, .nilFunc, .nilFunc, .nilFunc, .nilFunc, .nilFunc, .nilFunc, .nilFunc, .nilFunc, .nilFunc, .nilFunc, .nilFunc, .nilFunc, .nilFunc, .nilFunc, .nilFunc, .nilFunc, .nilFunc, .nilFunc, .nilFunc, .nilFunc, .nilFunc, .nilFunc, .nilFunc] rfl rfl 67 _ HG.out (by kernel_rfl) rfl (by simp [Value.oneCell']) ?_; generalize hW9 : ((((w.alloc (.cells #[.func (.func 63) #[] #[]] 65)).alloc (.cells #[.func (.func 66) #[] #[]] 65)).alloc (.cells #[.nilFunc, .nilFunc, .nilFunc, .nilFunc, .nilFunc, .nilFunc, .nilFunc, .nilFunc, .nilFunc, .nilFunc, .nilFunc, .nilFunc, .nilFunc, .nilFunc, .nilFunc, .nilFunc, .nilFunc, .nilFunc, .nilFunc, .nilFunc, .nilFunc, .nilFunc, .nilFunc, .nilFunc, .nilFunc, .nilFunc, .nilFunc, .nilFunc, .nilFunc, .nilFunc, .nilFunc, .nilFunc, .nilFunc, .nilFunc, .nilFunc, .nilFunc, .nilFunc, .nilFunc, .nilFunc, .nilFunc, .nilFunc, .nilFunc, .nilFunc, .nilFunc, .nilFunc] 67)).setRow (w.heap.size + 1 + 1) #[.nilFunc, .func (.func 61) #[] #[], .func (.func 65) #[] #[], .func (.func 62) #[] #[], .func (.func 64) #[] #[], .func (.func 66) #[] #[], .func (.func 63) #[] #[], .func (.func 67) #[] #[], .func (.func 128) #[] #[.pointer (some ⟨w.heap.size, 0, none⟩)], .nilFunc, .func (.func 128) #[] #[.pointer (some ⟨w.heap.size + 1, 0, none⟩)], .nilFunc, .nilFunc, .nilFunc, .nilFunc, .nilFunc, .nilFunc, .nilFunc, .nilFunc, .nilFunc, .nilFunc, .nilFunc, .nilFunc, .nilFunc, .nilFunc, .nilFunc, .nilFunc, .nilFunc, .nilFunc, .nilFunc, .nilFunc, .nilFunc, .nilFunc, .nilFunc, .nilFunc, .nilFunc, .nilFunc, .nilFunc, .nilFunc, .nilFunc, .nilFunc, .nilFunc, .nilFunc, .nilFunc, .nilFunc]) = W9 at *; clear hW9)
  clear HG CA
  have hc := (cell_of_row _ _ 5 _ _ _ HW.out.row).trans (show (aluRow_u16 w.heap.size)[5]? = some (.func (.func 66) #[] #[]) from rfl)
  have KE := fun W => eqNo2_u16 (.func 66) #[] #[] W
  refine (CO.out _).mono ?_
  rintro e w2 ⟨rfl, rfl⟩
  go_wp2_with fail
  refine (CX.out _).mono ?_
  rintro e w2 ⟨rfl, rfl⟩
  go_wp2
  go_ret3
  exact ⟨rfl, HW.out.be⟩
set_option maxRecDepth 100000 in
set_option maxHeartbeats 1000000 in
theorem alu6_u16 (a b f : Int) (V F : Int) (CX : Hid (∀ w, Calls Tryz.prog 63 #[.int .u16 (IntKind.u16.wrap a), .int .u16 (IntKind.u16.wrap b), .int .i64 f] w fun e w' => e = .returned (.tuple #[.int .u16 V, .int .i64 F]) ∧ w = w')) (w : World) : Calls Tryz.prog 24 #[.int .i64 6, .int .i64 a, .int .i64 b, .int .i64 f] w fun e w' => e = .returned (.tuple #[.int .i64 (wrap64 V), .int .i64 F, .int .i64 0]) ∧ Below w.heap.size w w' := by
  have CO := Lib.hid (fun w => isOpYes 6 w (by decide) (by decide))
  have CA := Lib.hid aloneC_u16
  have HG := Lib.hid (show (((w.alloc (.cells #[.func (.func 63) #[] #[]] 65)).alloc (.cells #[.func (.func 66) #[] #[]] 65)).alloc (.cells #[.nilFunc, .nilFunc, .nilFunc, .nilFunc, .nilFunc, .nilFunc, .nilFunc, .nilFunc, .nilFunc, .nilFunc, .nilFunc, .nilFunc, .nilFunc, .nilFunc, .nilFunc, .nilFunc, .nilFunc, .nilFunc, .nilFunc, .nilFunc, .nilFunc, .nilFunc, .nilFunc, .nilFunc, .nilFunc, .nilFunc, .nilFunc, .nilFunc, .nilFunc, .nilFunc, .nilFunc, .nilFunc, .nilFunc, .nilFunc, .nilFunc, .nilFunc, .nilFunc, .nilFunc, .nilFunc, .nilFunc, .nilFunc, .nilFunc, .nilFunc, .nilFunc, .nilFunc] 67)).heap[w.heap.size + 1 + 1]? = some (.cells #[.nilFunc, .nilFunc, .nilFunc, .nilFunc, .nilFunc, .nilFunc, .nilFunc, .nilFunc, .nilFunc, .nilFunc, .nilFunc, .nilFunc, .nilFunc, .nilFunc, .nilFunc, .nilFunc, .nilFunc, .nilFunc, .nilFunc, .nilFunc, .nilFunc, .nilFunc, .nilFunc, .nilFunc, .nilFunc, .nilFunc, .nilFunc, .nilFunc, .nilFunc, .nilFunc, .nilFunc, .nilFunc, .nilFunc, .nilFunc, .nilFunc, .nilFunc, .nilFunc, .nilFunc, .nilFunc, .nilFunc, .nilFunc, .nilFunc, .nilFunc, .nilFunc, .nilFunc] 67 (0, 0)) from by simpa using heap_alloc_new ((w.alloc (.cells #[.func (.func 63) #[] #[]] 65)).alloc (.cells #[.func (.func 66) #[] #[]] 65)) (.cells #[.nilFunc, .nilFunc, .nilFunc, .nilFunc, .nilFunc, .nilFunc, .nilFunc, .nilFunc, .nilFunc, .nilFunc, .nilFunc, .nilFunc, .nilFunc, .nilFunc, .nilFunc, .nilFunc, .nilFunc, .nilFunc, .nilFunc, .nilFunc, .nilFunc, .nilFunc, .nilFunc, .nilFunc, .nilFunc, .nilFunc, .nilFunc, .nilFunc, .nilFunc, .nilFunc, .nilFunc, .nilFunc, .nilFunc, .nilFunc, .nilFunc, .nilFunc, .nilFunc, .nilFunc, .nilFunc, .nilFunc, .nilFunc, .nilFunc, .nilFunc, .nilFunc, .nilFunc] 67))
  have HW := Lib.hid (aluW_u16 w)
  go_enter Tryz.func24, Tryz.ntmps24
  go_wp2_with fail
  refine (CA.out _ _).mono ?_
  rintro e w2 ⟨rfl, rfl⟩
  go_wp2_with fail
  refine (CA.out _ _).mono ?_
  rintro e w2 ⟨rfl, rfl⟩
  go_wp2_with (refine wpList_store_row rfl 67 (.tmp 11) (.tmp 15) rfl (w.heap.size + 1 + 1) #[.nilFunc, .func (.func 61) #[] #[], .func (.func 65) #[] #[], .func (.func 62) #[] #[], .func (.func 64) #[] #[], .func (.func 66) #[] #[], .func (.func 63) #[] #[], .func (.func 67) #[] #[], .func (.func 128) #[] #[.pointer (some ⟨w.heap.size, 0, none⟩)], .nilFunc, .func (.func 128) #[] #[.pointer (some ⟨w.heap.size + 1, 0, none⟩)], .nilFunc, .nilFunc, .nilFunc, .nilFunc, .nilFunc, .nilFunc, .nilFunc, .nilFunc, .nilFunc, .nilFunc, .nilFunc, .nilFunc, .nilFunc, .nilFunc, .nilFunc, .nilFunc, .nilFunc, .nilFunc, .nilFunc, .nilFunc, .nilFunc, .nilFunc, .nilFunc, .nilFunc, .nilFunc, .nilFunc, .nilFunc, .nilFunc, .nilFunc, .nilFunc, .nilFunc, .nilFunc, .nilFunc, .nilFunc] rfl rfl 67 _ HG.out (by kernel_rfl) rfl (by simp [Value.oneCell']) ?_; generalize hW9 : ((((w.alloc (.cells #[.func (.func 63) #[] #[]] 65)).alloc (.cells #[.func (.func 66) #[] #[]] 65)).alloc (.cells #[.nilFunc, .nilFunc, .nilFunc, .nilFunc, .nilFunc, .nilFunc, .nilFunc, .nilFunc, .nilFunc, .nilFunc, .nilFunc, .nilFunc, .nilFunc, .nilFunc, .nilFunc, .nilFunc, .nilFunc, .nilFunc, .nilFunc, .nilFunc, .nilFunc, .nilFunc, .nilFunc, .nilFunc, .nilFunc, .nilFunc, .nilFunc, .nilFunc, .nilFunc, .nilFunc, .nilFunc, .nilFunc, .nilFunc, .nilFunc, .nilFunc, .nilFunc, .nilFunc, .nilFunc, .nilFunc, .nilFunc, .nilFunc, .nilFunc, .nilFunc, .nilFunc, .nilFunc] 67)).setRow (w.heap.size + 1 + 1) #[.nilFunc, .func (.func 61) #[] #[], .func (.func 65) #[] #[], .func (.func 62) #[] #[], .func (.func 64) #[] #[], .func (.func 66) #[] #[], .func (.func 63) #[] #[], .func (.func 67) #[] #[], .func (.func 128) #[] #[.pointer (some ⟨w.heap.size, 0, none⟩)], .nilFunc, .func (.func 128) #[] #[.pointer (some ⟨w.heap.size + 1, 0, none⟩)], .nilFunc, .nilFunc, .nilFunc, .nilFunc, .nilFunc, .nilFunc, .nilFunc, .nilFunc, .nilFunc, .nilFunc, .nilFunc, .nilFunc, .nilFunc, .nilFunc, .nilFunc, .nilFunc, .nilFunc, .nilFunc, .nilFunc, .nilFunc, .nilFunc, .nilFunc, .nilFunc, .nilFunc, .nilFunc, .nilFunc, .nilFunc, .nilFunc, .nilFunc, .nilFunc, .nilFunc, .nilFunc, .nilFunc, .nilFunc]) = W9 at *; clear hW9)
  clear HG CA
  have hc := (cell_of_row _ _ 6 _ _ _ HW.out.row).trans (show (aluRow_u16 w.heap.size)[6]? = some (.func (.func 63) #[] #[]) from rfl)
  have KE := fun W => eqNo2_u16 (.func 63) #[] #[] W
  refine (CO.out _).mono ?_
  rintro e w2 ⟨rfl, rfl⟩
  go_wp2_with fail
  refine (CX.out _).mono ?_
  rintro e w2 ⟨rfl, rfl⟩
  go_wp2
  go_ret3
  exact ⟨rfl, HW.out.be⟩
set_option maxRecDepth 100000 in
set_option maxHeartbeats 1000000 in
theorem alu7_u16 (a b f : Int) (V F : Int) (CX : Hid (∀ w, Calls Tryz.prog 67 #[.int .u16 (IntKind.u16.wrap a), .int .u16 (IntKind.u16.wrap b), .int .i64 f] w fun e w' => e = .returned (.tuple #[.int .u16 V, .int .i64 F]) ∧ w = w')) (w : World) : Calls Tryz.prog 24 #[.int .i64 7, .int .i64 a, .int .i64 b, .int .i64 f] w fun e w' => e = .returned (.tuple #[.int .i64 (wrap64 V), .int .i64 F, .int .i64 0]) ∧ Below w.heap.size w w' := by
  have CO := Lib.hid (fun w => isOpYes 7 w (by decide) (by decide))
  have CA := Lib.hid aloneC_u16
  have HG := Lib.hid (show (((w.alloc (.cells #[.func (.func 63) #[] #[]] 65)).alloc (.cells #[.func (.func 66) #[] #[]] 65)).alloc (.cells #[.nilFunc, .nilFunc, .nilFunc, .nilFunc, .nilFunc, .nilFunc, .nilFunc, .nilFunc, .nilFunc, .nilFunc, .nilFunc, .nilFunc, .nilFunc, .nilFunc, .nilFunc, .nilFunc, .nilFunc, .nilFunc, .nilFunc, .nilFunc, .nilFunc, .nilFunc, .nilFunc, .nilFunc, .nilFunc, .nilFunc, .nilFunc, .nilFunc, .nilFunc, .nilFunc, .nilFunc, .nilFunc, .nilFunc, .nilFunc, .nilFunc, .nilFunc, .nilFunc, .nilFunc, .nilFunc, .nilFunc, .nilFunc, .nilFunc, .nilFunc, .nilFunc, .nilFunc] 67)).heap[w.heap.size + 1 + 1]? = some (.cells #[.nilFunc, .nilFunc, .nilFunc, .nilFunc, .nilFunc, .nilFunc, .nilFunc, .nilFunc, .nilFunc, .nilFunc, .nilFunc, .nilFunc, .nilFunc, .nilFunc, .nilFunc, .nilFunc, .nilFunc, .nilFunc, .nilFunc, .nilFunc, .nilFunc, .nilFunc, .nilFunc, .nilFunc, .nilFunc, .nilFunc, .nilFunc, .nilFunc, .nilFunc, .nilFunc, .nilFunc, .nilFunc, .nilFunc, .nilFunc, .nilFunc, .nilFunc, .nilFunc, .nilFunc, .nilFunc, .nilFunc, .nilFunc, .nilFunc, .nilFunc, .nilFunc, .nilFunc] 67 (0, 0)) from by simpa using heap_alloc_new ((w.alloc (.cells #[.func (.func 63) #[] #[]] 65)).alloc (.cells #[.func (.func 66) #[] #[]] 65)) (.cells #[.nilFunc, .nilFunc, .nilFunc, .nilFunc, .nilFunc, .nilFunc, .nilFunc, .nilFunc, .nilFunc, .nilFunc, .nilFunc, .nilFunc, .nilFunc, .nilFunc, .nilFunc, .nilFunc, .nilFunc, .nilFunc, .nilFunc, .nilFunc, .nilFunc, .nilFunc, .nilFunc, .nilFunc, .nilFunc, .nilFunc, .nilFunc, .nilFunc, .nilFunc, .nilFunc, .nilFunc, .nilFunc, .nilFunc, .nilFunc, .nilFunc, .nilFunc, .nilFunc, .nilFunc, .nilFunc, .nilFunc, .nilFunc, .nilFunc, .nilFunc, .nilFunc, .nilFunc] 67))
  have HW := Lib.hid (aluW_u16 w)
  go_enter Tryz.func24, Tryz.ntmps24
  go_wp2_with fail
  refine (CA.out _ _).mono ?_
  rintro e w2 ⟨rfl, rfl⟩
  go_wp2_with fail
  refine (CA.out _ _).mono ?_
  rintro e w2 ⟨rfl, rfl⟩
  go_wp2_with (refine wpList_store_row rfl 67 (.tmp 11) (.tmp 15) rfl (w.heap.size + 1 + 1) #[.nilFunc, .func (.func 61) #[] #[], .func (.func 65) #[] #[], .func (.func 62) #[] #[], .func (.func 64) #[] #[], .func (.func 66) #[] #[], .func (.func 63) #[] #[], .func (.func 67) #[] #[], .func (.func 128) #[] #[.pointer (some ⟨w.heap.size, 0, none⟩)], .nilFunc, .func (.func 128) #[] #[.pointer (some ⟨w.heap.size + 1, 0, none⟩)], .nilFunc, .nilFunc, .nilFunc, .nilFunc, .nilFunc, .nilFunc, .nilFunc, .nilFunc, .nilFunc, .nilFunc, .nilFunc, .nilFunc, .nilFunc, .nilFunc, .nilFunc, .nilFunc, .nilFunc, .nilFunc, .nilFunc, .nilFunc, .nilFunc, .nilFunc, .nilFunc, .nilFunc, .nilFunc, .nilFunc, .nilFunc, .nilFunc, .nilFunc, .nilFunc, .nilFunc, .nilFunc, .nilFunc, .nilFunc] rfl rfl 67 _ HG.out (by kernel_rfl) rfl (by simp [Value.oneCell']) ?_; generalize hW9 : ((((w.alloc (.cells #[.func (.func 63) #[] #[]] 65)).alloc (.cells #[.func (.func 66) #[] #[]] 65)).alloc (.cells #[.nilFunc, .nilFunc, .nilFunc, .nilFunc, .nilFunc, .nilFunc, .nilFunc, .nilFunc, .nilFunc, .nilFunc, .nilFunc, .nilFunc, .nilFunc, .nilFunc, .nilFunc, .nilFunc, .nilFunc, .nilFunc, .nilFunc, .nilFunc, .nilFunc, .nilFunc, .nilFunc, .nilFunc, .nilFunc, .nilFunc, .nilFunc, .nilFunc, .nilFunc, .nilFunc, .nilFunc, .nilFunc, .nilFunc, .nilFunc, .nilFunc, .nilFunc, .nilFunc, .nilFunc, .nilFunc, .nilFunc, .nilFunc, .nilFunc, .nilFunc, .nilFunc, .nilFunc] 67)).setRow (w.heap.size + 1 + 1) #[.nilFunc, .func (.func 61) #[] #[], .func (.func 65) #[] #[], .func (.func 62) #[] #[], .func (.func 64) #[] #[], .func (.func 66) #[] #[], .func (.func 63) #[] #[], .func (.func 67) #[] #[], .func (.func 128) #[] #[.pointer (some ⟨w.heap.size, 0, none⟩)], .nilFunc, .func (.func 128) #[] #[.pointer (some ⟨w.heap.size + 1, 0, none⟩)], .nilFunc, .nilFunc, .nilFunc, .nilFunc, .nilFunc, .nilFunc, .nilFunc, .nilFunc, .nilFunc, .nilFunc, .nilFunc, .nilFunc, .nilFunc, .nilFunc, .nilFunc, .nilFunc, .nilFunc, .nilFunc, .nilFunc, .nilFunc, .nilFunc, .nilFunc, .nilFunc, .nilFunc, .nilFunc, .nilFunc, .nilFunc, .nilFunc, .nilFunc, .nilFunc, .nilFunc, .nilFunc, .nilFunc, .nilFunc]) = W9 at *; clear hW9)
  clear HG CA
  have hc := (cell_of_row _ _ 7 _ _ _ HW.out.row).trans (show (aluRow_u16 w.heap.size)[7]? = some (.func (.func 67) #[] #[]) from rfl)
  have KE := fun W => eqNo2_u16 (.func 67) #[] #[] W
  refine (CO.out _).mono ?_
  rintro e w2 ⟨rfl, rfl⟩
  go_wp2_with fail
  refine (CX.out _).mono ?_
  rintro e w2 ⟨rfl, rfl⟩
  go_wp2
  go_ret3
  exact ⟨rfl, HW.out.be⟩
set_option maxRecDepth 100000 in
set_option maxHeartbeats 1000000 in
theorem alu8_u16 (a b f : Int) (V F : Int) (CX : Hid (∀ w, Calls Tryz.prog 63 #[.int .u16 (IntKind.u16.wrap a), .int .u16 (IntKind.u16.wrap b), .int .i64 f] w fun e w' => e = .returned (.tuple #[.int .u16 V, .int .i64 F]) ∧ w = w')) (w : World) : Calls Tryz.prog 24 #[.int .i64 8, .int .i64 a, .int .i64 b, .int .i64 f] w fun e w' => e = .returned (.tuple #[.int .i64 (wrap64 (IntKind.u16.wrap a)), .int .i64 F, .int .i64 0]) ∧ Below w.heap.size w w' := by
  have CO := Lib.hid (fun w => isOpYes 8 w (by decide) (by decide))
  have CA := Lib.hid aloneC_u16
  have HG := Lib.hid (show (((w.alloc (.cells #[.func (.func 63) #[] #[]] 65)).alloc (.cells #[.func (.func 66) #[] #[]] 65)).alloc (.cells #[.nilFunc, .nilFunc, .nilFunc, .nilFunc, .nilFunc, .nilFunc, .nilFunc, .nilFunc, .nilFunc, .nilFunc, .nilFunc, .nilFunc, .nilFunc, .nilFunc, .nilFunc, .nilFunc, .nilFunc, .nilFunc, .nilFunc, .nilFunc, .nilFunc, .nilFunc, .nilFunc, .nilFunc, .nilFunc, .nilFunc, .nilFunc, .nilFunc, .nilFunc, .nilFunc, .nilFunc, .nilFunc, .nilFunc, .nilFunc, .nilFunc, .nilFunc, .nilFunc, .nilFunc, .nilFunc, .nilFunc, .nilFunc, .nilFunc, .nilFunc, .nilFunc, .nilFunc] 67)).heap[w.heap.size + 1 + 1]? = some (.cells #[.nilFunc, .nilFunc, .nilFunc, .nilFunc, .nilFunc, .nilFunc, .nilFunc, .nilFunc, .nilFunc, .nilFunc, .nilFunc, .nilFunc, .nilFunc, .nilFunc, .nilFunc, .nilFunc, .nilFunc, .nilFunc, .nilFunc, .nilFunc, .nilFunc, .nilFunc, .nilFunc, .nilFunc, .nilFunc, .nilFunc, .nilFunc, .nilFunc, .nilFunc, .nilFunc, .nilFunc, .nilFunc, .nilFunc, .nilFunc, .nilFunc, .nilFunc, .nilFunc, .nilFunc, .nilFunc, .nilFunc, .nilFunc, .nilFunc, .nilFunc, .nilFunc, .nilFunc] 67 (0, 0)) from by simpa using heap_alloc_new ((w.alloc (.cells #[.func (.func 63) #[] #[]] 65)).alloc (.cells #[.func (.func 66) #[] #[]] 65)) (.cells #[.nilFunc, .nilFunc, .nilFunc, .nilFunc, .nilFunc, .nilFunc, .nilFunc, .nilFunc, .nilFunc, .nilFunc, .nilFunc, .nilFunc, .nilFunc, .nilFunc, .nilFunc, .nilFunc, .nilFunc, .nilFunc, .nilFunc, .nilFunc, .nilFunc, .nilFunc, .nilFunc, .nilFunc, .nilFunc, .nilFunc, .nilFunc, .nilFunc, .nilFunc, .nilFunc, .nilFunc, .nilFunc, .nilFunc, .nilFunc, .nilFunc, .nilFunc, .nilFunc, .nilFunc, .nilFunc, .nilFunc, .nilFunc, .nilFunc, .nilFunc, .nilFunc, .nilFunc] 67))
  have HW := Lib.hid (aluW_u16 w)
  go_enter Tryz.func24, Tryz.ntmps24
  go_wp2_with fail
  refine (CA.out _ _).mono ?_
  rintro e w2 ⟨rfl, rfl⟩
  go_wp2_with fail
  refine (CA.out _ _).mono ?_
  rintro e w2 ⟨rfl, rfl⟩
  go_wp2_with (refine wpList_store_row rfl 67 (.tmp 11) (.tmp 15) rfl (w.heap.size + 1 + 1) #[.nilFunc, .func (.func 61) #[] #[], .func (.func 65) #[] #[], .func (.func 62) #[] #[], .func (.func 64) #[] #[], .func (.func 66) #[] #[], .func (.func 63) #[] #[], .func (.func 67) #[] #[], .func (.func 128) #[] #[.pointer (some ⟨w.heap.size, 0, none⟩)], .nilFunc, .func (.func 128) #[] #[.pointer (some ⟨w.heap.size + 1, 0, none⟩)], .nilFunc, .nilFunc, .nilFunc, .nilFunc, .nilFunc, .nilFunc, .nilFunc, .nilFunc, .nilFunc, .nilFunc, .nilFunc, .nilFunc, .nilFunc, .nilFunc, .nilFunc, .nilFunc, .nilFunc, .nilFunc, .nilFunc, .nilFunc, .nilFunc, .nilFunc, .nilFunc, .nilFunc, .nilFunc, .nilFunc, .nilFunc, .nilFunc, .nilFunc, .nilFunc, .nilFunc, .nilFunc, .nilFunc, .nilFunc] rfl rfl 67 _ HG.out (by kernel_rfl) rfl (by simp [Value.oneCell']) ?_; generalize hW9 : ((((w.alloc (.cells #[.func (.func 63) #[] #[]] 65)).alloc (.cells #[.func (.func 66) #[] #[]] 65)).alloc (.cells #[.nilFunc, .nilFunc, .nilFunc, .nilFunc, .nilFunc, .nilFunc, .nilFunc, .nilFunc, .nilFunc, .nilFunc, .nilFunc, .nilFunc, .nilFunc, .nilFunc, .nilFunc, .nilFunc, .nilFunc, .nilFunc, .nilFunc, .nilFunc, .nilFunc, .nilFunc, .nilFunc, .nilFunc, .nilFunc, .nilFunc, .nilFunc, .nilFunc, .nilFunc, .nilFunc, .nilFunc, .nilFunc, .nilFunc, .nilFunc, .nilFunc, .nilFunc, .nilFunc, .nilFunc, .nilFunc, .nilFunc, .nilFunc, .nilFunc, .nilFunc, .nilFunc, .nilFunc] 67)).setRow (w.heap.size + 1 + 1) #[.nilFunc, .func (.func 61) #[] #[], .func (.func 65) #[] #[], .func (.func 62) #[] #[], .func (.func 64) #[] #[], .func (.func 66) #[] #[], .func (.func 63) #[] #[], .func (.func 67) #[] #[], .func (.func 128) #[] #[.pointer (some ⟨w.heap.size, 0, none⟩)], .nilFunc, .func (.func 128) #[] #[.pointer (some ⟨w.heap.size + 1, 0, none⟩)], .nilFunc, .nilFunc, .nilFunc, .nilFunc, .nilFunc, .nilFunc, .nilFunc, .nilFunc, .nilFunc, .nilFunc, .nilFunc, .nilFunc, .nilFunc, .nilFunc, .nilFunc, .nilFunc, .nilFunc, .nilFunc, .nilFunc, .nilFunc, .nilFunc, .nilFunc, .nilFunc, .nilFunc, .nilFunc, .nilFunc, .nilFunc, .nilFunc, .nilFunc, .nilFunc, .nilFunc, .nilFunc, .nilFunc, .nilFunc]) = W9 at *; clear hW9)
  clear HG CA
  have hc := (cell_of_row _ _ 8 _ _ _ HW.out.row).trans (show (aluRow_u16 w.heap.size)[8]? = some (.func (.func 128) #[] #[.pointer (some ⟨w.heap.size, 0, none⟩)]) from rfl)
  have KE := fun W => eqNo2_u16 (.func 128) #[] #[.pointer (some ⟨w.heap.size, 0, none⟩)] W
  refine (CO.out _).mono ?_
  rintro e w2 ⟨rfl, rfl⟩
  go_wp2_with fail
  refine (alone_subtract_u16 _ _ _ _ V F _ HW.out.b1 CX).mono ?_
  rintro e w2 ⟨rfl, rfl⟩
  go_wp2
  go_ret3
  refine ⟨ret_3 ?_, HW.out.be⟩
  first | rfl | (unfold wrap64; omega)
set_option maxRecDepth 100000 in
set_option maxHeartbeats 1000000 in
theorem alu10_u16 (a b f : Int) (V F : Int) (CX : Hid (∀ w, Calls Tryz.prog 66 #[.int .u16 (IntKind.u16.wrap a), .int .u16 (IntKind.u16.wrap b), .int .i64 f] w fun e w' => e = .returned (.tuple #[.int .u16 V, .int .i64 F]) ∧ w = w')) (w : World) : Calls Tryz.prog 24 #[.int .i64 10, .int .i64 a, .int .i64 b, .int .i64 f] w fun e w' => e = .returned (.tuple #[.int .i64 (wrap64 (IntKind.u16.wrap a)), .int .i64 F, .int .i64 0]) ∧ Below w.heap.size w w' := by
  have CO := Lib.hid (fun w => isOpYes 10 w (by decide) (by decide))
  have CA := Lib.hid aloneC_u16
  have HG := Lib.hid (show (((w.alloc (.cells #[.func (.func 63) #[] #[]] 65)).alloc (.cells #[.func (.func 66) #[] #[]] 65)).alloc (.cells #[.nilFunc, .nilFunc, .nilFunc, .nilFunc, .nilFunc, .nilFunc, .nilFunc, .nilFunc, .nilFunc, .nilFunc, .nilFunc, .nilFunc, .nilFunc, .nilFunc, .nilFunc, .nilFunc, .nilFunc, .nilFunc, .nilFunc, .nilFunc, .nilFunc, .nilFunc, .nilFunc, .nilFunc, .nilFunc, .nilFunc, .nilFunc, .nilFunc, .nilFunc, .nilFunc, .nilFunc, .nilFunc, .nilFunc, .nilFunc, .nilFunc, .nilFunc, .nilFunc, .nilFunc, .nilFunc, .nilFunc, .nilFunc, .nilFunc, .nilFunc, .nilFunc, .nilFunc] 67)).heap[w.heap.size + 1 + 1]? = some (.cells #[.nilFunc, .nilFunc, .nilFunc, .nilFunc, .nilFunc, .nilFunc, .nilFunc, .nilFunc, .nilFunc, .nilFunc, .nilFunc, .nilFunc, .nilFunc, .nilFunc, .nilFunc, .nilFunc, .nilFunc, .nilFunc, .nilFunc, .nilFunc, .nilFunc, .nilFunc, .nilFunc, .nilFunc, .nilFunc, .nilFunc, .nilFunc, .nilFunc, .nilFunc, .nilFunc, .nilFunc, .nilFunc, .nilFunc, .nilFunc, .nilFunc, .nilFunc, .nilFunc, .nilFunc, .nilFunc, .nilFunc, .nilFunc, .nilFunc, .nilFunc, .nilFunc, .nilFunc] 67 (0, 0)) from by simpa using heap_alloc_new ((w.alloc (.cells #[.func (.func 63) #[] #[]] 65)).alloc (.cells #[.func (.func 66) #[] #[]] 65)) (.cells #[.nilFunc, .nilFunc, .nilFunc, .nilFunc, .nilFunc, .nilFunc, .nilFunc, .nilFunc, .nilFunc, .nilFunc, .nilFunc, .nilFunc, .nilFunc, .nilFunc, .nilFunc, .nilFunc, .nilFunc, .nilFunc, .nilFunc, .nilFunc, .nilFunc, .nilFunc, .nilFunc, .nilFunc, .nilFunc, .nilFunc, .nilFunc, .nilFunc, .nilFunc, .nilFunc, .nilFunc, .nilFunc, .nilFunc, .nilFunc, .nilFunc, .nilFunc, .nilFunc, .nilFunc, .nilFunc, .nilFunc, .nilFunc, .nilFunc, .nilFunc, .nilFunc, .nilFunc] 67))
  have HW := Lib.hid (aluW_u16 w)
  go_enter Tryz.func24, Tryz.ntmps24
  go_wp2_with fail
  refine (CA.out _ _).mono ?_
  rintro e w2 ⟨rfl, rfl⟩
  go_wp2_with fail
  refine (CA.out _ _).mono ?_
  rintro e w2 ⟨rfl, rfl⟩
  go_wp2_with (refine wpList_store_row rfl 67 (.tmp 11) (.tmp 15) rfl (w.heap.size + 1 + 1) #[.nilFunc, .func (.func 61) #[] #[], .func (.func 65) #[] #[], .func (.func 62) #[] #[], .func (.func 64) #[] #[], .func (.func 66) #[] #[], .func (.func 63) #[] #[], .func (.func 67) #[] #[], .func (.func 128) #[] #[.pointer (some ⟨w.heap.size, 0, none⟩)], .nilFunc, .func (.func 128) #[] #[.pointer (some ⟨w.heap.size + 1, 0, none⟩)], .nilFunc, .nilFunc, .nilFunc, .nilFunc, .nilFunc, .nilFunc, .nilFunc, .nilFunc, .nilFunc, .nilFunc, .nilFunc, .nilFunc, .nilFunc, .nilFunc, .nilFunc, .nilFunc, .nilFunc, .nilFunc, .nilFunc, .nilFunc, .nilFunc, .nilFunc, .nilFunc, .nilFunc, .nilFunc, .nilFunc, .nilFunc, .nilFunc, .nilFunc, .nilFunc, .nilFunc, .nilFunc, .nilFunc, .nilFunc] rfl rfl 67 _ HG.out (by kernel_rfl) rfl (by simp [Value.oneCell']) ?_; generalize hW9 : ((((w.alloc (.cells #[.func (.func 63) #[] #[]] 65)).alloc (.cells #[.func (.func 66) #[] #[]] 65)).alloc (.cells #[.nilFunc, .nilFunc, .nilFunc, .nilFunc, .nilFunc, .nilFunc, .nilFunc, .nilFunc, .nilFunc, .nilFunc, .nilFunc, .nilFunc, .nilFunc, .nilFunc, .nilFunc, .nilFunc, .nilFunc, .nilFunc, .nilFunc, .nilFunc, .nilFunc, .nilFunc, .nilFunc, .nilFunc, .nilFunc, .nilFunc, .nilFunc, .nilFunc, .nilFunc, .nilFunc, .nilFunc, .nilFunc, .nilFunc, .nilFunc, .nilFunc, .nilFunc, .nilFunc, .nilFunc, .nilFunc, .nilFunc, .nilFunc, .nilFunc, .nilFunc, .nilFunc, .nilFunc] 67)).setRow (w.heap.size + 1 + 1) #[.nilFunc, .func (.func 61) #[] #[], .func (.func 65) #[] #[], .func (.func 62) #[] #[], .func (.func 64) #[] #[], .func (.func 66) #[] #[], .func (.func 63) #[] #[], .func (.func 67) #[] #[], .func (.func 128) #[] #[.pointer (some ⟨w.heap.size, 0, none⟩)], .nilFunc, .func (.func 128) #[] #[.pointer (some ⟨w.heap.size + 1, 0, none⟩)], .nilFunc, .nilFunc, .nilFunc, .nilFunc, .nilFunc, .nilFunc, .nilFunc, .nilFunc, .nilFunc, .nilFunc, .nilFunc, .nilFunc, .nilFunc, .nilFunc, .nilFunc, .nilFunc, .nilFunc, .nilFunc, .nilFunc, .nilFunc, .nilFunc, .nilFunc, .nilFunc, .nilFunc, .nilFunc, .nilFunc, .nilFunc, .nilFunc, .nilFunc, .nilFunc, .nilFunc, .nilFunc, .nilFunc, .nilFunc]) = W9 at *; clear hW9)
  clear HG CA
  have hc := (cell_of_row _ _ 10 _ _ _ HW.out.row).trans (show (aluRow_u16 w.heap.size)[10]? = some (.func (.func 128) #[] #[.pointer (some ⟨w.heap.size + 1, 0, none⟩)]) from rfl)
  have KE := fun W => eqNo2_u16 (.func 128) #[] #[.pointer (some ⟨w.heap.size + 1, 0, none⟩)] W
  refine (CO.out _).mono ?_
  rintro e w2 ⟨rfl, rfl⟩
  go_wp2_with fail
  refine (alone_bitsAnd_u16 _ _ _ _ V F _ HW.out.b2 CX).mono ?_
  rintro e w2 ⟨rfl, rfl⟩
  go_wp2
  go_ret3
  refine ⟨ret_3 ?_, HW.out.be⟩
  first | rfl | (unfold wrap64; omega)
theorem alu_nil_u16 (n i : Nat) (h : i < 45) (hn : i ≠ 1 ∧ i ≠ 2 ∧ i ≠ 3 ∧ i ≠ 4 ∧ i ≠ 5 ∧ i ≠ 6 ∧ i ≠ 7 ∧ i ≠ 8 ∧ i ≠ 10) : (aluRow_u16 n)[i]? = some .nilFunc := by
  have K : ∀ i, i < 45 → (i ≠ 1 ∧ i ≠ 2 ∧ i ≠ 3 ∧ i ≠ 4 ∧ i ≠ 5 ∧ i ≠ 6 ∧ i ≠ 7 ∧ i ≠ 8 ∧ i ≠ 10) → (aluRow_u16 n)[i]? = some .nilFunc := by
    intro i h hn
    rcases (by omega : i = 0 ∨ i = 9 ∨ i = 11 ∨ i = 12 ∨ i = 13 ∨ i = 14 ∨ i = 15 ∨ i = 16 ∨ i = 17 ∨ i = 18 ∨ i = 19 ∨ i = 20 ∨ i = 21 ∨ i = 22 ∨ i = 23 ∨ i = 24 ∨ i = 25 ∨ i = 26 ∨ i = 27 ∨ i = 28 ∨ i = 29 ∨ i = 30 ∨ i = 31 ∨ i = 32 ∨ i = 33 ∨ i = 34 ∨ i = 35 ∨ i = 36 ∨ i = 37 ∨ i = 38 ∨ i = 39 ∨ i = 40 ∨ i = 41 ∨ i = 42 ∨ i = 43 ∨ i = 44) with rfl | rfl | rfl | rfl | rfl | rfl | rfl | rfl | rfl | rfl | rfl | rfl | rfl | rfl | rfl | rfl | rfl | rfl | rfl | rfl | rfl | rfl | rfl | rfl | rfl | rfl | rfl | rfl | rfl | rfl | rfl | rfl | rfl | rfl | rfl | rfl
    all_goals rfl
  exact K i h hn
set_option maxRecDepth 100000 in
set_option maxHeartbeats 1000000 in
theorem aluNil_u16 (op a b f : Int) (h1 : 1 ≤ op) (h2 : op ≤ 44) (h3 : ¬ (op ≤ 8 ∨ op = 10)) (w : World) : Calls Tryz.prog 24 #[.int .i64 op, .int .i64 a, .int .i64 b, .int .i64 f] w fun e w' => e = .returned (.tuple #[.int .i64 0, .int .i64 0, .int .i64 11]) ∧ Below w.heap.size w w' := by
  have CO := Lib.hid (fun w => isOpYes op w h1 h2)
  have CA := Lib.hid aloneC_u16
  have HG := Lib.hid (show (((w.alloc (.cells #[.func (.func 63) #[] #[]] 65)).alloc (.cells #[.func (.func 66) #[] #[]] 65)).alloc (.cells #[.nilFunc, .nilFunc, .nilFunc, .nilFunc, .nilFunc, .nilFunc, .nilFunc, .nilFunc, .nilFunc, .nilFunc, .nilFunc, .nilFunc, .nilFunc, .nilFunc, .nilFunc, .nilFunc, .nilFunc, .nilFunc, .nilFunc, .nilFunc, .nilFunc, .nilFunc, .nilFunc, .nilFunc, .nilFunc, .nilFunc, .nilFunc, .nilFunc, .nilFunc, .nilFunc, .nilFunc, .nilFunc, .nilFunc, .nilFunc, .nilFunc, .nilFunc, .nilFunc, .nilFunc, .nilFunc, .nilFunc, .nilFunc, .nilFunc, .nilFunc, .nilFunc, .nilFunc] 67)).heap[w.heap.size + 1 + 1]? = some (.cells #[.nilFunc, .nilFunc, .nilFunc, .nilFunc, .nilFunc, .nilFunc, .nilFunc, .nilFunc, .nilFunc, .nilFunc, .nilFunc, .nilFunc, .nilFunc, .nilFunc, .nilFunc, .nilFunc, .nilFunc, .nilFunc, .nilFunc, .nilFunc, .nilFunc, .nilFunc, .nilFunc, .nilFunc, .nilFunc, .nilFunc, .nilFunc, .nilFunc, .nilFunc, .nilFunc, .nilFunc, .nilFunc, .nilFunc, .nilFunc, .nilFunc, .nilFunc, .nilFunc, .nilFunc, .nilFunc, .nilFunc, .nilFunc, .nilFunc, .nilFunc, .nilFunc, .nilFunc] 67 (0, 0)) from by simpa using heap_alloc_new ((w.alloc (.cells #[.func (.func 63) #[] #[]] 65)).alloc (.cells #[.func (.func 66) #[] #[]] 65)) (.cells #[.nilFunc, .nilFunc, .nilFunc, .nilFunc, .nilFunc, .nilFunc, .nilFunc, .nilFunc, .nilFunc, .nilFunc, .nilFunc, .nilFunc, .nilFunc, .nilFunc, .nilFunc, .nilFunc, .nilFunc, .nilFunc, .nilFunc, .nilFunc, .nilFunc, .nilFunc, .nilFunc, .nilFunc, .nilFunc, .nilFunc, .nilFunc, .nilFunc, .nilFunc, .nilFunc, .nilFunc, .nilFunc, .nilFunc, .nilFunc, .nilFunc, .nilFunc, .nilFunc, .nilFunc, .nilFunc, .nilFunc, .nilFunc, .nilFunc, .nilFunc, .nilFunc, .nilFunc] 67))
  have HW := Lib.hid (aluW_u16 w)
  go_enter Tryz.func24, Tryz.ntmps24
  go_wp2_with fail
  refine (CA.out _ _).mono ?_
  rintro e w2 ⟨rfl, rfl⟩
  go_wp2_with fail
  refine (CA.out _ _).mono ?_
  rintro e w2 ⟨rfl, rfl⟩
  go_wp2_with (refine wpList_store_row rfl 67 (.tmp 11) (.tmp 15) rfl (w.heap.size + 1 + 1) #[.nilFunc, .func (.func 61) #[] #[], .func (.func 65) #[] #[], .func (.func 62) #[] #[], .func (.func 64) #[] #[], .func (.func 66) #[] #[], .func (.func 63) #[] #[], .func (.func 67) #[] #[], .func (.func 128) #[] #[.pointer (some ⟨w.heap.size, 0, none⟩)], .nilFunc, .func (.func 128) #[] #[.pointer (some ⟨w.heap.size + 1, 0, none⟩)], .nilFunc, .nilFunc, .nilFunc, .nilFunc, .nilFunc, .nilFunc, .nilFunc, .nilFunc, .nilFunc, .nilFunc, .nilFunc, .nilFunc, .nilFunc, .nilFunc, .nilFunc, .nilFunc, .nilFunc, .nilFunc, .nilFunc, .nilFunc, .nilFunc, .nilFunc, .nilFunc, .nilFunc, .nilFunc, .nilFunc, .nilFunc, .nilFunc, .nilFunc, .nilFunc, .nilFunc, .nilFunc, .nilFunc, .nilFunc] rfl rfl 67 _ HG.out (by kernel_rfl) rfl (by simp [Value.oneCell']) ?_; generalize hW9 : ((((w.alloc (.cells #[.func (.func 63) #[] #[]] 65)).alloc (.cells #[.func (.func 66) #[] #[]] 65)).alloc (.cells #[.nilFunc, .nilFunc, .nilFunc, .nilFunc, .nilFunc, .nilFunc, .nilFunc, .nilFunc, .nilFunc, .nilFunc, .nilFunc, .nilFunc, .nilFunc, .nilFunc, .nilFunc, .nilFunc, .nilFunc, .nilFunc, .nilFunc, .nilFunc, .nilFunc, .nilFunc, .nilFunc, .nilFunc, .nilFunc, .nilFunc, .nilFunc, .nilFunc, .nilFunc, .nilFunc, .nilFunc, .nilFunc, .nilFunc, .nilFunc, .nilFunc, .nilFunc, .nilFunc, .nilFunc, .nilFunc, .nilFunc, .nilFunc, .nilFunc, .nilFunc, .nilFunc, .nilFunc] 67)).setRow (w.heap.size + 1 + 1) #[.nilFunc, .func (.func 61) #[] #[], .func (.func 65) #[] #[], .func (.func 62) #[] #[], .func (.func 64) #[] #[], .func (.func 66) #[] #[], .func (.func 63) #[] #[], .func (.func 67) #[] #[], .func (.func 128) #[] #[.pointer (some ⟨w.heap.size, 0, none⟩)], .nilFunc, .func (.func 128) #[] #[.pointer (some ⟨w.heap.size + 1, 0, none⟩)], .nilFunc, .nilFunc, .nilFunc, .nilFunc, .nilFunc, .nilFunc, .nilFunc, .nilFunc, .nilFunc, .nilFunc, .nilFunc, .nilFunc, .nilFunc, .nilFunc, .nilFunc, .nilFunc, .nilFunc, .nilFunc, .nilFunc, .nilFunc, .nilFunc, .nilFunc, .nilFunc, .nilFunc, .nilFunc, .nilFunc, .nilFunc, .nilFunc, .nilFunc, .nilFunc, .nilFunc, .nilFunc, .nilFunc, .nilFunc]) = W9 at *; clear hW9)
  clear HG CA
  have hc := (cell_of_row _ _ op.toNat _ _ _ HW.out.row).trans (alu_nil_u16 w.heap.size op.toNat (by omega) (by omega))
  have KE := eqYes2_u16
  refine (CO.out _).mono ?_
  rintro e w2 ⟨rfl, rfl⟩
  go_wp2
  go_ret3
  exact ⟨rfl, HW.out.be⟩
set_option maxRecDepth 100000 in
set_option maxHeartbeats 1000000 in
theorem aluNo_u16 (op a b f : Int) (h : ¬ (1 ≤ op ∧ op ≤ 44)) (w : World) : Calls Tryz.prog 24 #[.int .i64 op, .int .i64 a, .int .i64 b, .int .i64 f] w fun e w' => e = .returned (.tuple #[.int .i64 0, .int .i64 0, .int .i64 11]) ∧ Below w.heap.size w w' := by
  have CO := Lib.hid (fun w => isOpNo op w h)
  clear h
  have CA := Lib.hid aloneC_u16
  have HG := Lib.hid (show (((w.alloc (.cells #[.func (.func 63) #[] #[]] 65)).alloc (.cells #[.func (.func 66) #[] #[]] 65)).alloc (.cells #[.nilFunc, .nilFunc, .nilFunc, .nilFunc, .nilFunc, .nilFunc, .nilFunc, .nilFunc, .nilFunc, .nilFunc, .nilFunc, .nilFunc, .nilFunc, .nilFunc, .nilFunc, .nilFunc, .nilFunc, .nilFunc, .nilFunc, .nilFunc, .nilFunc, .nilFunc, .nilFunc, .nilFunc, .nilFunc, .nilFunc, .nilFunc, .nilFunc, .nilFunc, .nilFunc, .nilFunc, .nilFunc, .nilFunc, .nilFunc, .nilFunc, .nilFunc, .nilFunc, .nilFunc, .nilFunc, .nilFunc, .nilFunc, .nilFunc, .nilFunc, .nilFunc, .nilFunc] 67)).heap[w.heap.size + 1 + 1]? = some (.cells #[.nilFunc, .nilFunc, .nilFunc, .nilFunc, .nilFunc, .nilFunc, .nilFunc, .nilFunc, .nilFunc, .nilFunc, .nilFunc, .nilFunc, .nilFunc, .nilFunc, .nilFunc, .nilFunc, .nilFunc, .nilFunc, .nilFunc, .nilFunc, .nilFunc, .nilFunc, .nilFunc, .nilFunc, .nilFunc, .nilFunc, .nilFunc, .nilFunc, .nilFunc, .nilFunc, .nilFunc, .nilFunc, .nilFunc, .nilFunc, .nilFunc, .nilFunc, .nilFunc, .nilFunc, .nilFunc, .nilFunc, .nilFunc, .nilFunc, .nilFunc, .nilFunc, .nilFunc] 67 (0, 0)) from by simpa using heap_alloc_new ((w.alloc (.cells #[.func (.func 63) #[] #[]] 65)).alloc (.cells #[.func (.func 66) #[] #[]] 65)) (.cells #[.nilFunc, .nilFunc, .nilFunc, .nilFunc, .nilFunc, .nilFunc, .nilFunc, .nilFunc, .nilFunc, .nilFunc, .nilFunc, .nilFunc, .nilFunc, .nilFunc, .nilFunc, .nilFunc, .nilFunc, .nilFunc, .nilFunc, .nilFunc, .nilFunc, .nilFunc, .nilFunc, .nilFunc, .nilFunc, .nilFunc, .nilFunc, .nilFunc, .nilFunc, .nilFunc, .nilFunc, .nilFunc, .nilFunc, .nilFunc, .nilFunc, .nilFunc, .nilFunc, .nilFunc, .nilFunc, .nilFunc, .nilFunc, .nilFunc, .nilFunc, .nilFunc, .nilFunc] 67))
  have HW := Lib.hid (aluW_u16 w)
  go_enter Tryz.func24, Tryz.ntmps24
  go_wp2_with fail
  refine (CA.out _ _).mono ?_
  rintro e w2 ⟨rfl, rfl⟩
  go_wp2_with fail
  refine (CA.out _ _).mono ?_
  rintro e w2 ⟨rfl, rfl⟩
  go_wp2_with (refine wpList_store_row rfl 67 (.tmp 11) (.tmp 15) rfl (w.heap.size + 1 + 1) #[.nilFunc, .func (.func 61) #[] #[], .func (.func 65) #[] #[], .func (.func 62) #[] #[], .func (.func 64) #[] #[], .func (.func 66) #[] #[], .func (.func 63) #[] #[], .func (.func 67) #[] #[], .func (.func 128) #[] #[.pointer (some ⟨w.heap.size, 0, none⟩)], .nilFunc, .func (.func 128) #[] #[.pointer (some ⟨w.heap.size + 1, 0, none⟩)], .nilFunc, .nilFunc, .nilFunc, .nilFunc, .nilFunc, .nilFunc, .nilFunc, .nilFunc, .nilFunc, .nilFunc, .nilFunc, .nilFunc, .nilFunc, .nilFunc, .nilFunc, .nilFunc, .nilFunc, .nilFunc, .nilFunc, .nilFunc, .nilFunc, .nilFunc, .nilFunc, .nilFunc, .nilFunc, .nilFunc, .nilFunc, .nilFunc, .nilFunc, .nilFunc, .nilFunc, .nilFunc, .nilFunc, .nilFunc] rfl rfl 67 _ HG.out (by kernel_rfl) rfl (by simp [Value.oneCell']) ?_; generalize hW9 : ((((w.alloc (.cells #[.func (.func 63) #[] #[]] 65)).alloc (.cells #[.func (.func 66) #[] #[]] 65)).alloc (.cells #[.nilFunc, .nilFunc, .nilFunc, .nilFunc, .nilFunc, .nilFunc, .nilFunc, .nilFunc, .nilFunc, .nilFunc, .nilFunc, .nilFunc, .nilFunc, .nilFunc, .nilFunc, .nilFunc, .nilFunc, .nilFunc, .nilFunc, .nilFunc, .nilFunc, .nilFunc, .nilFunc, .nilFunc, .nilFunc, .nilFunc, .nilFunc, .nilFunc, .nilFunc, .nilFunc, .nilFunc, .nilFunc, .nilFunc, .nilFunc, .nilFunc, .nilFunc, .nilFunc, .nilFunc, .nilFunc, .nilFunc, .nilFunc, .nilFunc, .nilFunc, .nilFunc, .nilFunc] 67)).setRow (w.heap.size + 1 + 1) #[.nilFunc, .func (.func 61) #[] #[], .func (.func 65) #[] #[], .func (.func 62) #[] #[], .func (.func 64) #[] #[], .func (.func 66) #[] #[], .func (.func 63) #[] #[], .func (.func 67) #[] #[], .func (.func 128) #[] #[.pointer (some ⟨w.heap.size, 0, none⟩)], .nilFunc, .func (.func 128) #[] #[.pointer (some ⟨w.heap.size + 1, 0, none⟩)], .nilFunc, .nilFunc, .nilFunc, .nilFunc, .nilFunc, .nilFunc, .nilFunc, .nilFunc, .nilFunc, .nilFunc, .nilFunc, .nilFunc, .nilFunc, .nilFunc, .nilFunc, .nilFunc, .nilFunc, .nilFunc, .nilFunc, .nilFunc, .nilFunc, .nilFunc, .nilFunc, .nilFunc, .nilFunc, .nilFunc, .nilFunc, .nilFunc, .nilFunc, .nilFunc, .nilFunc, .nilFunc, .nilFunc, .nilFunc]) = W9 at *; clear hW9)
  clear HG CA
  refine (CO.out _).mono ?_
  rintro e w2 ⟨rfl, rfl⟩
  go_wp2
  go_ret3
  exact ⟨rfl, HW.out.be⟩
end Go.Proofs.YtifpcfhfglkbcaaGreatDoor
