/-
  What l06Alu, l06One, Alu, One and FlagsOf of spec answer; conditions: those in each head.
-/
import Derived.Test.YtifpcfhfglkbcaaGreatDoorWalkFlS
namespace Go.Proofs.YtifpcfhfglkbcaaGreatDoor
open Go.RowKit
set_option linter.unusedVariables false
set_option linter.unusedSimpArgs false
theorem xN {a : Int} {X : Nat} (h : IntKind.u64.wrap a = (X : Int)) : (BitVec.ofInt 64 a).toNat = X := by
  have := toNat_ofInt64 a
  rw [wrapU] at h; omega
theorem u64_i64 {Y : Nat} (h : Y < 18446744073709551616) : IntKind.u64.wrap (IntKind.i64.wrap (Y : Int)) = (Y : Int) := by
  have e : IntKind.i64.wrap (Y : Int) = if (Y : Int) % 18446744073709551616 ≥ 9223372036854775808 then (Y : Int) % 18446744073709551616 - 18446744073709551616 else (Y : Int) % 18446744073709551616 := by simp [IntKind.wrap, IntKind.bits, IntKind.signed]
  rw [e, wrapU]; split <;> omega
theorem andX {a b : Int} {Xa Xb : Nat} (ha : IntKind.u64.wrap a = (Xa : Int)) (hb : IntKind.u64.wrap b = (Xb : Int)) : IntKind.u64.wrap (bits .and .i64 a b) = ((Xa &&& Xb : Nat) : Int) := by
  show IntKind.u64.wrap (IntKind.i64.wrap ((BitVec.ofInt 64 a &&& BitVec.ofInt 64 b).toNat : Int)) = _
  rw [u64_i64 (BitVec.isLt _), BitVec.toNat_and, xN ha, xN hb]
theorem orX {a b : Int} {Xa Xb : Nat} (ha : IntKind.u64.wrap a = (Xa : Int)) (hb : IntKind.u64.wrap b = (Xb : Int)) : IntKind.u64.wrap (bits .or .i64 a b) = ((Xa ||| Xb : Nat) : Int) := by
  show IntKind.u64.wrap (IntKind.i64.wrap ((BitVec.ofInt 64 a ||| BitVec.ofInt 64 b).toNat : Int)) = _
  rw [u64_i64 (BitVec.isLt _), BitVec.toNat_or, xN ha, xN hb]
theorem xorX {a b : Int} {Xa Xb : Nat} (ha : IntKind.u64.wrap a = (Xa : Int)) (hb : IntKind.u64.wrap b = (Xb : Int)) : IntKind.u64.wrap (bits .xor .i64 a b) = ((Xa ^^^ Xb : Nat) : Int) := by
  show IntKind.u64.wrap (IntKind.i64.wrap ((BitVec.ofInt 64 a ^^^ BitVec.ofInt 64 b).toNat : Int)) = _
  rw [u64_i64 (BitVec.isLt _), BitVec.toNat_xor, xN ha, xN hb]
/-- the carry that goes in -/
def CarN (f : Int) (c : Nat) : Prop := c ≤ 1 ∧ bits .and .i64 f 1 = (c : Int)
theorem carN_of (c p z s o : Bool) : CarN (flV c p z s o) (bif c then 1 else 0) := ⟨by cases c <;> decide, by revert c p z s o; decide +kernel⟩
/-- what an operation of two numbers makes of them -/
def aluN (w : Nat) (op : Int) (A B c : Nat) : Nat :=
  if op = 1 then sumN w A B 0 else if op = 2 then A ||| B else if op = 3 then sumN w A B c else if op = 4 then difN w A B c else if op = 5 then A &&& B else if op = 6 then difN w A B 0 else if op = 7 then A ^^^ B else A
def aluF (w : Nat) (op : Int) (A B c : Nat) : Int :=
  if op = 1 then sumF w A B 0 else if op = 2 then szp w (A ||| B) else if op = 3 then sumF w A B c else if op = 4 then difF w A B c else if op = 5 then szp w (A &&& B) else if op = 6 then difF w A B 0 else if op = 7 then szp w (A ^^^ B) else if op = 8 then difF w A B 0 else szp w (A &&& B)
theorem low_and (Xa Xb w : Nat) : (Xa &&& Xb) % 2 ^ w = (Xa % 2 ^ w) &&& (Xb % 2 ^ w) := Nat.and_mod_two_pow
theorem low_or (Xa Xb w : Nat) : (Xa ||| Xb) % 2 ^ w = (Xa % 2 ^ w) ||| (Xb % 2 ^ w) := Nat.or_mod_two_pow
theorem low_xor (Xa Xb w : Nat) : (Xa ^^^ Xb) % 2 ^ w = (Xa % 2 ^ w) ^^^ (Xb % 2 ^ w) := Nat.xor_mod_two_pow
set_option maxHeartbeats 400000 in
theorem aluS1 (a b f : Int) (Xa Xb size c A B : Nat) (w : World) (ha : IntKind.u64.wrap a = (Xa : Int)) (hb : IntKind.u64.wrap b = (Xb : Int)) (hs : 1 ≤ size) (hs8 : size ≤ 8) (hc : CarN f c) (hA : A = Xa % 2 ^ (8 * size)) (hB : B = Xb % 2 ^ (8 * size)) : Calls Tryz.prog 31 #[.int .i64 1, .int .i64 (size : Int), .int .i64 a, .int .i64 b, .int .i64 f] w fun e w' => e = .returned (.tuple #[.int .i64 (wrap64 ((aluN (8 * size) 1 A B c : Nat) : Int)), .int .i64 (aluF (8 * size) 1 A B c)]) ∧ w = w' := by
  obtain ⟨hc1, hc2⟩ := hc
  have C := Lib.hid (show ∀ w, Calls Tryz.prog 87 #[.int .i64 (size : Int), .int .i64 a, .int .i64 b, .int .i64 0, .bool false] w fun e w' => e = .returned (.tuple #[.int .i64 (wrap64 ((sumN (8 * size) A B 0 : Nat) : Int)), .int .i64 (sumF (8 * size) A B 0)]) ∧ w = w' from fun w => addS a b Xa Xb size 0 A B w ha hb hs hs8 (by decide) hA hB)
  clear ha hb hA hB
  go_enter Tryz.func31, Tryz.ntmps31
  go_wp2_with fail
  refine (C.out _).mono ?_
  rintro e w1 ⟨rfl, rfl⟩
  go_wp2
  go_ret2
  exact ⟨rfl, rfl⟩
set_option maxHeartbeats 400000 in
theorem aluS3 (a b f : Int) (Xa Xb size c A B : Nat) (w : World) (ha : IntKind.u64.wrap a = (Xa : Int)) (hb : IntKind.u64.wrap b = (Xb : Int)) (hs : 1 ≤ size) (hs8 : size ≤ 8) (hc : CarN f c) (hA : A = Xa % 2 ^ (8 * size)) (hB : B = Xb % 2 ^ (8 * size)) : Calls Tryz.prog 31 #[.int .i64 3, .int .i64 (size : Int), .int .i64 a, .int .i64 b, .int .i64 f] w fun e w' => e = .returned (.tuple #[.int .i64 (wrap64 ((aluN (8 * size) 3 A B c : Nat) : Int)), .int .i64 (aluF (8 * size) 3 A B c)]) ∧ w = w' := by
  obtain ⟨hc1, hc2⟩ := hc
  have C := Lib.hid (show ∀ w, Calls Tryz.prog 87 #[.int .i64 (size : Int), .int .i64 a, .int .i64 b, .int .i64 ((c : Nat) : Int), .bool false] w fun e w' => e = .returned (.tuple #[.int .i64 (wrap64 ((sumN (8 * size) A B c : Nat) : Int)), .int .i64 (sumF (8 * size) A B c)]) ∧ w = w' from fun w => addS a b Xa Xb size c A B w ha hb hs hs8 hc1 hA hB)
  clear ha hb hA hB
  go_enter Tryz.func31, Tryz.ntmps31
  go_wp2_with fail
  refine (C.out _).mono ?_
  rintro e w1 ⟨rfl, rfl⟩
  go_wp2
  go_ret2
  exact ⟨rfl, rfl⟩
set_option maxHeartbeats 400000 in
theorem aluS4 (a b f : Int) (Xa Xb size c A B : Nat) (w : World) (ha : IntKind.u64.wrap a = (Xa : Int)) (hb : IntKind.u64.wrap b = (Xb : Int)) (hs : 1 ≤ size) (hs8 : size ≤ 8) (hc : CarN f c) (hA : A = Xa % 2 ^ (8 * size)) (hB : B = Xb % 2 ^ (8 * size)) : Calls Tryz.prog 31 #[.int .i64 4, .int .i64 (size : Int), .int .i64 a, .int .i64 b, .int .i64 f] w fun e w' => e = .returned (.tuple #[.int .i64 (wrap64 ((aluN (8 * size) 4 A B c : Nat) : Int)), .int .i64 (aluF (8 * size) 4 A B c)]) ∧ w = w' := by
  obtain ⟨hc1, hc2⟩ := hc
  have C := Lib.hid (show ∀ w, Calls Tryz.prog 87 #[.int .i64 (size : Int), .int .i64 a, .int .i64 b, .int .i64 ((c : Nat) : Int), .bool true] w fun e w' => e = .returned (.tuple #[.int .i64 (wrap64 ((difN (8 * size) A B c : Nat) : Int)), .int .i64 (difF (8 * size) A B c)]) ∧ w = w' from fun w => subS a b Xa Xb size c A B w ha hb hs hs8 hc1 hA hB)
  clear ha hb hA hB
  go_enter Tryz.func31, Tryz.ntmps31
  go_wp2_with fail
  refine (C.out _).mono ?_
  rintro e w1 ⟨rfl, rfl⟩
  go_wp2
  go_ret2
  exact ⟨rfl, rfl⟩
set_option maxHeartbeats 400000 in
theorem aluS6 (a b f : Int) (Xa Xb size c A B : Nat) (w : World) (ha : IntKind.u64.wrap a = (Xa : Int)) (hb : IntKind.u64.wrap b = (Xb : Int)) (hs : 1 ≤ size) (hs8 : size ≤ 8) (hc : CarN f c) (hA : A = Xa % 2 ^ (8 * size)) (hB : B = Xb % 2 ^ (8 * size)) : Calls Tryz.prog 31 #[.int .i64 6, .int .i64 (size : Int), .int .i64 a, .int .i64 b, .int .i64 f] w fun e w' => e = .returned (.tuple #[.int .i64 (wrap64 ((aluN (8 * size) 6 A B c : Nat) : Int)), .int .i64 (aluF (8 * size) 6 A B c)]) ∧ w = w' := by
  obtain ⟨hc1, hc2⟩ := hc
  have C := Lib.hid (show ∀ w, Calls Tryz.prog 87 #[.int .i64 (size : Int), .int .i64 a, .int .i64 b, .int .i64 0, .bool true] w fun e w' => e = .returned (.tuple #[.int .i64 (wrap64 ((difN (8 * size) A B 0 : Nat) : Int)), .int .i64 (difF (8 * size) A B 0)]) ∧ w = w' from fun w => subS a b Xa Xb size 0 A B w ha hb hs hs8 (by decide) hA hB)
  clear ha hb hA hB
  go_enter Tryz.func31, Tryz.ntmps31
  go_wp2_with fail
  refine (C.out _).mono ?_
  rintro e w1 ⟨rfl, rfl⟩
  go_wp2
  go_ret2
  exact ⟨rfl, rfl⟩
set_option maxHeartbeats 400000 in
theorem wiseS2 (a b : Int) (w : World) : Calls Tryz.prog 89 #[.int .i64 2, .int .i64 a, .int .i64 b] w fun e w' => e = .returned (.int .i64 (bits .or .i64 a b)) ∧ w = w' := by
  go_enter Tryz.func89, Tryz.ntmps89
  go_wp2
  go_ret
  exact ⟨rfl, rfl⟩
set_option maxHeartbeats 400000 in
theorem aluS2 (a b f : Int) (Xa Xb size c A B : Nat) (w : World) (ha : IntKind.u64.wrap a = (Xa : Int)) (hb : IntKind.u64.wrap b = (Xb : Int)) (hs : 1 ≤ size) (hs8 : size ≤ 8) (hc : CarN f c) (hA : A = Xa % 2 ^ (8 * size)) (hB : B = Xb % 2 ^ (8 * size)) : Calls Tryz.prog 31 #[.int .i64 2, .int .i64 (size : Int), .int .i64 a, .int .i64 b, .int .i64 f] w fun e w' => e = .returned (.tuple #[.int .i64 (wrap64 ((aluN (8 * size) 2 A B c : Nat) : Int)), .int .i64 (aluF (8 * size) 2 A B c)]) ∧ w = w' := by
  have hX := orX ha hb
  have e := low_or Xa Xb (8 * size)
  rw [← hA, ← hB] at e
  have C1 := Lib.hid (wiseS2 a b)
  have C2 := Lib.hid (fun w => specZeroL (bits .or .i64 a b) (Xa ||| Xb) size w hX hs hs8)
  have C3 := Lib.hid (fun w => szpS (bits .or .i64 a b) (Xa ||| Xb) size w hX hs hs8)
  rw [e] at C2 C3
  clear ha hb hA hB hX e hc
  go_enter Tryz.func31, Tryz.ntmps31
  go_wp2_with fail
  refine (C1.out _).mono ?_
  rintro e w1 ⟨rfl, rfl⟩
  go_wp2_with fail
  refine (C2.out _).mono ?_
  rintro e w1 ⟨rfl, rfl⟩
  go_wp2_with fail
  refine (C3.out _).mono ?_
  rintro e w1 ⟨rfl, rfl⟩
  go_wp2
  go_ret2
  exact ⟨rfl, rfl⟩
set_option maxHeartbeats 400000 in
theorem wiseS5 (a b : Int) (w : World) : Calls Tryz.prog 89 #[.int .i64 5, .int .i64 a, .int .i64 b] w fun e w' => e = .returned (.int .i64 (bits .and .i64 a b)) ∧ w = w' := by
  go_enter Tryz.func89, Tryz.ntmps89
  go_wp2
  go_ret
  exact ⟨rfl, rfl⟩
set_option maxHeartbeats 400000 in
theorem aluS5 (a b f : Int) (Xa Xb size c A B : Nat) (w : World) (ha : IntKind.u64.wrap a = (Xa : Int)) (hb : IntKind.u64.wrap b = (Xb : Int)) (hs : 1 ≤ size) (hs8 : size ≤ 8) (hc : CarN f c) (hA : A = Xa % 2 ^ (8 * size)) (hB : B = Xb % 2 ^ (8 * size)) : Calls Tryz.prog 31 #[.int .i64 5, .int .i64 (size : Int), .int .i64 a, .int .i64 b, .int .i64 f] w fun e w' => e = .returned (.tuple #[.int .i64 (wrap64 ((aluN (8 * size) 5 A B c : Nat) : Int)), .int .i64 (aluF (8 * size) 5 A B c)]) ∧ w = w' := by
  have hX := andX ha hb
  have e := low_and Xa Xb (8 * size)
  rw [← hA, ← hB] at e
  have C1 := Lib.hid (wiseS5 a b)
  have C2 := Lib.hid (fun w => specZeroL (bits .and .i64 a b) (Xa &&& Xb) size w hX hs hs8)
  have C3 := Lib.hid (fun w => szpS (bits .and .i64 a b) (Xa &&& Xb) size w hX hs hs8)
  rw [e] at C2 C3
  clear ha hb hA hB hX e hc
  go_enter Tryz.func31, Tryz.ntmps31
  go_wp2_with fail
  refine (C1.out _).mono ?_
  rintro e w1 ⟨rfl, rfl⟩
  go_wp2_with fail
  refine (C2.out _).mono ?_
  rintro e w1 ⟨rfl, rfl⟩
  go_wp2_with fail
  refine (C3.out _).mono ?_
  rintro e w1 ⟨rfl, rfl⟩
  go_wp2
  go_ret2
  exact ⟨rfl, rfl⟩
set_option maxHeartbeats 400000 in
theorem wiseS7 (a b : Int) (w : World) : Calls Tryz.prog 89 #[.int .i64 7, .int .i64 a, .int .i64 b] w fun e w' => e = .returned (.int .i64 (bits .xor .i64 a b)) ∧ w = w' := by
  go_enter Tryz.func89, Tryz.ntmps89
  go_wp2
  go_ret
  exact ⟨rfl, rfl⟩
set_option maxHeartbeats 400000 in
theorem aluS7 (a b f : Int) (Xa Xb size c A B : Nat) (w : World) (ha : IntKind.u64.wrap a = (Xa : Int)) (hb : IntKind.u64.wrap b = (Xb : Int)) (hs : 1 ≤ size) (hs8 : size ≤ 8) (hc : CarN f c) (hA : A = Xa % 2 ^ (8 * size)) (hB : B = Xb % 2 ^ (8 * size)) : Calls Tryz.prog 31 #[.int .i64 7, .int .i64 (size : Int), .int .i64 a, .int .i64 b, .int .i64 f] w fun e w' => e = .returned (.tuple #[.int .i64 (wrap64 ((aluN (8 * size) 7 A B c : Nat) : Int)), .int .i64 (aluF (8 * size) 7 A B c)]) ∧ w = w' := by
  have hX := xorX ha hb
  have e := low_xor Xa Xb (8 * size)
  rw [← hA, ← hB] at e
  have C1 := Lib.hid (wiseS7 a b)
  have C2 := Lib.hid (fun w => specZeroL (bits .xor .i64 a b) (Xa ^^^ Xb) size w hX hs hs8)
  have C3 := Lib.hid (fun w => szpS (bits .xor .i64 a b) (Xa ^^^ Xb) size w hX hs hs8)
  rw [e] at C2 C3
  clear ha hb hA hB hX e hc
  go_enter Tryz.func31, Tryz.ntmps31
  go_wp2_with fail
  refine (C1.out _).mono ?_
  rintro e w1 ⟨rfl, rfl⟩
  go_wp2_with fail
  refine (C2.out _).mono ?_
  rintro e w1 ⟨rfl, rfl⟩
  go_wp2_with fail
  refine (C3.out _).mono ?_
  rintro e w1 ⟨rfl, rfl⟩
  go_wp2
  go_ret2
  exact ⟨rfl, rfl⟩
set_option maxHeartbeats 400000 in
theorem aluS8 (a b f : Int) (Xa Xb size c A B : Nat) (w : World) (ha : IntKind.u64.wrap a = (Xa : Int)) (hb : IntKind.u64.wrap b = (Xb : Int)) (hs : 1 ≤ size) (hs8 : size ≤ 8) (hc : CarN f c) (hA : A = Xa % 2 ^ (8 * size)) (hB : B = Xb % 2 ^ (8 * size)) : Calls Tryz.prog 31 #[.int .i64 8, .int .i64 (size : Int), .int .i64 a, .int .i64 b, .int .i64 f] w fun e w' => e = .returned (.tuple #[.int .i64 (wrap64 ((aluN (8 * size) 8 A B c : Nat) : Int)), .int .i64 (aluF (8 * size) 8 A B c)]) ∧ w = w' := by
  have C := Lib.hid (show ∀ w, Calls Tryz.prog 87 #[.int .i64 (size : Int), .int .i64 a, .int .i64 b, .int .i64 0, .bool true] w fun e w' => e = .returned (.tuple #[.int .i64 (wrap64 ((difN (8 * size) A B 0 : Nat) : Int)), .int .i64 (difF (8 * size) A B 0)]) ∧ w = w' from fun w => subS a b Xa Xb size 0 A B w ha hb hs hs8 (by decide) hA hB)
  have C2 := Lib.hid (fun w => specZeroL a Xa size w ha hs hs8)
  rw [← hA] at C2
  clear ha hb hA hB hc
  go_enter Tryz.func31, Tryz.ntmps31
  go_wp2_with fail
  refine (C.out _).mono ?_
  rintro e w1 ⟨rfl, rfl⟩
  go_wp2_with fail
  refine (C2.out _).mono ?_
  rintro e w1 ⟨rfl, rfl⟩
  go_wp2
  go_ret2
  exact ⟨rfl, rfl⟩
set_option maxHeartbeats 400000 in
theorem aluS10 (a b f : Int) (Xa Xb size c A B : Nat) (w : World) (ha : IntKind.u64.wrap a = (Xa : Int)) (hb : IntKind.u64.wrap b = (Xb : Int)) (hs : 1 ≤ size) (hs8 : size ≤ 8) (hc : CarN f c) (hA : A = Xa % 2 ^ (8 * size)) (hB : B = Xb % 2 ^ (8 * size)) : Calls Tryz.prog 31 #[.int .i64 10, .int .i64 (size : Int), .int .i64 a, .int .i64 b, .int .i64 f] w fun e w' => e = .returned (.tuple #[.int .i64 (wrap64 ((aluN (8 * size) 10 A B c : Nat) : Int)), .int .i64 (aluF (8 * size) 10 A B c)]) ∧ w = w' := by
  have hX := andX ha hb
  have e := low_and Xa Xb (8 * size)
  rw [← hA, ← hB] at e
  have C2 := Lib.hid (fun w => specZeroL a Xa size w ha hs hs8)
  rw [← hA] at C2
  have C3 := Lib.hid (fun w => szpS (bits .and .i64 a b) (Xa &&& Xb) size w hX hs hs8)
  rw [e] at C3
  clear ha hb hA hB hX e hc
  go_enter Tryz.func31, Tryz.ntmps31
  go_wp2_with fail
  refine (C2.out _).mono ?_
  rintro e w1 ⟨rfl, rfl⟩
  go_wp2_with fail
  refine (C3.out _).mono ?_
  rintro e w1 ⟨rfl, rfl⟩
  go_wp2
  go_ret2
  exact ⟨rfl, rfl⟩
theorem aluSAll (op a b f : Int) (Xa Xb size c A B : Nat) (w : World) (hop : 1 ≤ op ∧ (op ≤ 8 ∨ op = 10)) (ha : IntKind.u64.wrap a = (Xa : Int)) (hb : IntKind.u64.wrap b = (Xb : Int)) (hs : 1 ≤ size) (hs8 : size ≤ 8) (hc : CarN f c) (hA : A = Xa % 2 ^ (8 * size)) (hB : B = Xb % 2 ^ (8 * size)) : Calls Tryz.prog 31 #[.int .i64 op, .int .i64 (size : Int), .int .i64 a, .int .i64 b, .int .i64 f] w fun e w' => e = .returned (.tuple #[.int .i64 (wrap64 ((aluN (8 * size) op A B c : Nat) : Int)), .int .i64 (aluF (8 * size) op A B c)]) ∧ w = w' := by
  rcases (show op = 1 ∨ op = 2 ∨ op = 3 ∨ op = 4 ∨ op = 5 ∨ op = 6 ∨ op = 7 ∨ op = 8 ∨ op = 10 by omega) with rfl | rfl | rfl | rfl | rfl | rfl | rfl | rfl | rfl
  · exact aluS1 a b f Xa Xb size c A B w ha hb hs hs8 hc hA hB
  · exact aluS2 a b f Xa Xb size c A B w ha hb hs hs8 hc hA hB
  · exact aluS3 a b f Xa Xb size c A B w ha hb hs hs8 hc hA hB
  · exact aluS4 a b f Xa Xb size c A B w ha hb hs hs8 hc hA hB
  · exact aluS5 a b f Xa Xb size c A B w ha hb hs hs8 hc hA hB
  · exact aluS6 a b f Xa Xb size c A B w ha hb hs hs8 hc hA hB
  · exact aluS7 a b f Xa Xb size c A B w ha hb hs hs8 hc hA hB
  · exact aluS8 a b f Xa Xb size c A B w ha hb hs hs8 hc hA hB
  · exact aluS10 a b f Xa Xb size c A B w ha hb hs hs8 hc hA hB
theorem sizeN {n : Int} (h : okSize n) : ∃ s : Nat, n = (s : Int) ∧ 1 ≤ s ∧ s ≤ 8 := by
  rcases h with rfl | rfl | rfl | rfl
  · exact ⟨1, rfl, by decide, by decide⟩
  · exact ⟨2, rfl, by decide, by decide⟩
  · exact ⟨4, rfl, by decide, by decide⟩
  · exact ⟨8, rfl, by decide, by decide⟩
set_option maxHeartbeats 1000000 in
theorem AluSYes (op n a b v g : Int) (c p z s o : Bool) (w : World) (hop : 1 ≤ op ∧ (op ≤ 8 ∨ op = 10)) (hn : okSize n) (H : Hid (∀ w, Calls Tryz.prog 31 #[.int .i64 op, .int .i64 n, .int .i64 a, .int .i64 b, .int .i64 (flV c p z s o)] w fun e w' => e = .returned (.tuple #[.int .i64 v, .int .i64 g]) ∧ w = w')) :
    Calls Tryz.prog 9 #[.int .i64 op, .int .i64 n, .int .i64 a, .int .i64 b, .int .i64 (flV c p z s o)] w fun e w' => e = .returned (.tuple #[.int .i64 v, .int .i64 g, .int .i64 0]) ∧ w = w' := by
  have CZ := Lib.hid (fun w => sizeYes n w hn)
  have CF := Lib.hid (flagsYesS c p z s o)
  generalize flV c p z s o = f at *
  by_cases h8 : op ≤ 8
  · have CI := Lib.hid (fun w => inYes op 1 8 w hop.1 h8)
    clear hop hn h8
    go_enter Tryz.func9, Tryz.ntmps9
    go_wp2_with fail
    refine (CZ.out _).mono ?_
    rintro e w1 ⟨rfl, rfl⟩
    go_wp2_with fail
    refine (CF.out _).mono ?_
    rintro e w1 ⟨rfl, e1⟩
    obtain rfl := e1
    go_wp2_with fail
    refine (CI.out _).mono ?_
    rintro e w1 ⟨rfl, e1⟩
    obtain rfl := e1
    go_wp2_with fail
    refine (H.out _).mono ?_
    rintro e w1 ⟨rfl, rfl⟩
    go_wp2
    go_ret3
    exact ⟨rfl, rfl⟩
  · obtain rfl : op = 10 := by omega
    have CI := Lib.hid (fun w => inNo 10 1 8 w (by decide))
    clear hop hn h8
    go_enter Tryz.func9, Tryz.ntmps9
    go_wp2_with fail
    refine (CZ.out _).mono ?_
    rintro e w1 ⟨rfl, rfl⟩
    go_wp2_with fail
    refine (CF.out _).mono ?_
    rintro e w1 ⟨rfl, e1⟩
    obtain rfl := e1
    go_wp2_with fail
    refine (CI.out _).mono ?_
    rintro e w1 ⟨rfl, e1⟩
    obtain rfl := e1
    go_wp2_with fail
    refine (H.out _).mono ?_
    rintro e w1 ⟨rfl, rfl⟩
    go_wp2
    go_ret3
    exact ⟨rfl, rfl⟩
set_option maxHeartbeats 1000000 in
theorem AluSNo (op n a b : Int) (c p z s o : Bool) (w : World) (hop : ¬ (1 ≤ op ∧ (op ≤ 8 ∨ op = 10))) (hn : okSize n) :
    Calls Tryz.prog 9 #[.int .i64 op, .int .i64 n, .int .i64 a, .int .i64 b, .int .i64 (flV c p z s o)] w fun e w' => e = .returned (.tuple #[.int .i64 0, .int .i64 0, .int .i64 11]) ∧ w = w' := by
  have CZ := Lib.hid (fun w => sizeYes n w hn)
  have CF := Lib.hid (flagsYesS c p z s o)
  generalize flV c p z s o = f at *
  have CI := Lib.hid (fun w => inNo op 1 8 w (by omega))
  have h10 : (op != 10) = true := bne_iff_ne.mpr (by omega)
  clear hop hn
  go_enter Tryz.func9, Tryz.ntmps9
  go_wp2_with fail
  refine (CZ.out _).mono ?_
  rintro e w1 ⟨rfl, rfl⟩
  go_wp2_with fail
  refine (CF.out _).mono ?_
  rintro e w1 ⟨rfl, e1⟩
  obtain rfl := e1
  go_wp2_with fail
  refine (CI.out _).mono ?_
  rintro e w1 ⟨rfl, e1⟩
  obtain rfl := e1
  go_wp2
  go_ret3
  exact ⟨rfl, rfl⟩
set_option maxHeartbeats 1000000 in
theorem AluSBad (op n a b f : Int) (w : World) (hw : (Lit.int .i64 f).wf = true) (h : ¬ okSize n ∨ ¬ FlOK f) :
    Calls Tryz.prog 9 #[.int .i64 op, .int .i64 n, .int .i64 a, .int .i64 b, .int .i64 f] w fun e w' => e = .returned (.tuple #[.int .i64 0, .int .i64 0, .int .i64 4]) ∧ w = w' := by
  by_cases hn : okSize n
  · have CZ := Lib.hid (fun w => sizeYes n w hn)
    have CF := Lib.hid (fun w => flagsNoS f w hw (h.resolve_left (fun e => e hn)))
    clear h hn hw
    go_enter Tryz.func9, Tryz.ntmps9
    go_wp2_with fail
    refine (CZ.out _).mono ?_
    rintro e w1 ⟨rfl, rfl⟩
    go_wp2_with fail
    refine (CF.out _).mono ?_
    rintro e w1 ⟨rfl, e1⟩
    obtain rfl := e1
    go_wp2
    go_ret3
    exact ⟨rfl, rfl⟩
  · have CZ := Lib.hid (fun w => sizeNo n w hn)
    clear h hn hw
    go_enter Tryz.func9, Tryz.ntmps9
    go_wp2_with fail
    refine (CZ.out _).mono ?_
    rintro e w1 ⟨rfl, rfl⟩
    go_wp2
    go_ret3
    exact ⟨rfl, rfl⟩
end Go.Proofs.YtifpcfhfglkbcaaGreatDoor
