/-
  What impl.Alu answers; conditions: those in each head.
-/
import Derived.Test.YtifpcfhfglkbcaaGreatDoorWalkFlB16
import Derived.Test.YtifpcfhfglkbcaaGreatDoorWalkFlB32
import Derived.Test.YtifpcfhfglkbcaaGreatDoorWalkFlB64
import Derived.Test.YtifpcfhfglkbcaaGreatDoorWalkFlT
import Derived.Test.YtifpcfhfglkbcaaGreatDoorWalkFlW
namespace Go.Proofs.YtifpcfhfglkbcaaGreatDoor
open Go.RowKit
set_option linter.unusedVariables false
set_option linter.unusedSimpArgs false
theorem low_u8 {a : Int} {X A : Nat} (h : IntKind.u64.wrap a = (X : Int)) (hA : A = X % 2 ^ 8) : (A : Int) = (a % 256) := by
  rw [wU64] at h; subst hA; omega
theorem aluAll_u8 (op a b f : Int) (Xa Xb c A B : Nat) (w : World) (hop : 1 ≤ op ∧ (op ≤ 8 ∨ op = 10)) (ha : IntKind.u64.wrap a = (Xa : Int)) (hb : IntKind.u64.wrap b = (Xb : Int)) (hc : CarN f c) (hA : A = Xa % 2 ^ 8) (hB : B = Xb % 2 ^ 8) : Calls Tryz.prog 23 #[.int .i64 op, .int .i64 a, .int .i64 b, .int .i64 f] w fun e w' => e = .returned (.tuple #[.int .i64 (wrap64 ((aluN 8 op A B c : Nat) : Int)), .int .i64 (aluF 8 op A B c), .int .i64 0]) ∧ Below w.heap.size w w' := by
  have eA := low_u8 ha hA
  have eB := low_u8 hb hB
  have lA : A < 2 ^ 8 := by rw [hA]; exact Nat.mod_lt _ (by decide)
  have lB : B < 2 ^ 8 := by rw [hB]; exact Nat.mod_lt _ (by decide)
  obtain ⟨hc1, hc2⟩ := hc
  rcases (show op = 1 ∨ op = 2 ∨ op = 3 ∨ op = 4 ∨ op = 5 ∨ op = 6 ∨ op = 7 ∨ op = 8 ∨ op = 10 by omega) with rfl | rfl | rfl | rfl | rfl | rfl | rfl | rfl | rfl
  · rw [show aluN 8 1 A B c = sumN 8 A B 0 from rfl, show aluF 8 1 A B c = sumF 8 A B 0 from rfl]
    exact alu1_u8 a b f _ _ (Lib.hid (fun w => by have h := add_u8 A B f lA lB w; rw [eA, eB] at h; exact h)) w
  · rw [show aluN 8 2 A B c = A ||| B from rfl, show aluF 8 2 A B c = szp 8 (A ||| B) from rfl]
    exact alu2_u8 a b f _ _ (Lib.hid (fun w => by have h := bitsOr_u8 A B f lA lB w; rw [eA, eB] at h; exact h)) w
  · rcases (by omega : c = 0 ∨ c = 1) with rfl | rfl
    · rw [show aluN 8 3 A B 0 = sumN 8 A B 0 from rfl, show aluF 8 3 A B 0 = sumF 8 A B 0 from rfl]
      exact alu3_u8 a b f _ _ (Lib.hid (fun w => by have h := addCarry0_u8 A B f lA lB hc2 w; rw [eA, eB] at h; exact h)) w
    · rw [show aluN 8 3 A B 1 = sumN 8 A B 1 from rfl, show aluF 8 3 A B 1 = sumF 8 A B 1 from rfl]
      exact alu3_u8 a b f _ _ (Lib.hid (fun w => by have h := addCarry1_u8 A B f lA lB hc2 w; rw [eA, eB] at h; exact h)) w
  · rcases (by omega : c = 0 ∨ c = 1) with rfl | rfl
    · rw [show aluN 8 4 A B 0 = difN 8 A B 0 from rfl, show aluF 8 4 A B 0 = difF 8 A B 0 from rfl]
      exact alu4_u8 a b f _ _ (Lib.hid (fun w => by have h := subtractCarry0_u8 A B f lA lB hc2 w; rw [eA, eB] at h; exact h)) w
    · rw [show aluN 8 4 A B 1 = difN 8 A B 1 from rfl, show aluF 8 4 A B 1 = difF 8 A B 1 from rfl]
      exact alu4_u8 a b f _ _ (Lib.hid (fun w => by have h := subtractCarry1_u8 A B f lA lB hc2 w; rw [eA, eB] at h; exact h)) w
  · rw [show aluN 8 5 A B c = A &&& B from rfl, show aluF 8 5 A B c = szp 8 (A &&& B) from rfl]
    exact alu5_u8 a b f _ _ (Lib.hid (fun w => by have h := bitsAnd_u8 A B f lA lB w; rw [eA, eB] at h; exact h)) w
  · rw [show aluN 8 6 A B c = difN 8 A B 0 from rfl, show aluF 8 6 A B c = difF 8 A B 0 from rfl]
    exact alu6_u8 a b f _ _ (Lib.hid (fun w => by have h := subtract_u8 A B f lA lB w; rw [eA, eB] at h; exact h)) w
  · rw [show aluN 8 7 A B c = A ^^^ B from rfl, show aluF 8 7 A B c = szp 8 (A ^^^ B) from rfl]
    exact alu7_u8 a b f _ _ (Lib.hid (fun w => by have h := bitsXor_u8 A B f lA lB w; rw [eA, eB] at h; exact h)) w
  · rw [show aluN 8 8 A B c = A from rfl, show aluF 8 8 A B c = difF 8 A B 0 from rfl]
    have e := alu8_u8 a b f _ _ (Lib.hid (fun w => by have h := subtract_u8 A B f lA lB w; rw [eA, eB] at h; exact h)) w
    rw [← eA] at e; exact e
  · rw [show aluN 8 10 A B c = A from rfl, show aluF 8 10 A B c = szp 8 (A &&& B) from rfl]
    have e := alu10_u8 a b f _ _ (Lib.hid (fun w => by have h := bitsAnd_u8 A B f lA lB w; rw [eA, eB] at h; exact h)) w
    rw [← eA] at e; exact e
theorem low_u16 {a : Int} {X A : Nat} (h : IntKind.u64.wrap a = (X : Int)) (hA : A = X % 2 ^ 16) : (A : Int) = (IntKind.u16.wrap a) := by
  rw [wU64] at h; subst hA; rw [wU16]; omega
theorem aluAll_u16 (op a b f : Int) (Xa Xb c A B : Nat) (w : World) (hop : 1 ≤ op ∧ (op ≤ 8 ∨ op = 10)) (ha : IntKind.u64.wrap a = (Xa : Int)) (hb : IntKind.u64.wrap b = (Xb : Int)) (hc : CarN f c) (hA : A = Xa % 2 ^ 16) (hB : B = Xb % 2 ^ 16) : Calls Tryz.prog 24 #[.int .i64 op, .int .i64 a, .int .i64 b, .int .i64 f] w fun e w' => e = .returned (.tuple #[.int .i64 (wrap64 ((aluN 16 op A B c : Nat) : Int)), .int .i64 (aluF 16 op A B c), .int .i64 0]) ∧ Below w.heap.size w w' := by
  have eA := low_u16 ha hA
  have eB := low_u16 hb hB
  have lA : A < 2 ^ 16 := by rw [hA]; exact Nat.mod_lt _ (by decide)
  have lB : B < 2 ^ 16 := by rw [hB]; exact Nat.mod_lt _ (by decide)
  obtain ⟨hc1, hc2⟩ := hc
  rcases (show op = 1 ∨ op = 2 ∨ op = 3 ∨ op = 4 ∨ op = 5 ∨ op = 6 ∨ op = 7 ∨ op = 8 ∨ op = 10 by omega) with rfl | rfl | rfl | rfl | rfl | rfl | rfl | rfl | rfl
  · rw [show aluN 16 1 A B c = sumN 16 A B 0 from rfl, show aluF 16 1 A B c = sumF 16 A B 0 from rfl]
    exact alu1_u16 a b f _ _ (Lib.hid (fun w => by have h := add_u16 A B f lA lB w; rw [eA, eB] at h; exact h)) w
  · rw [show aluN 16 2 A B c = A ||| B from rfl, show aluF 16 2 A B c = szp 16 (A ||| B) from rfl]
    exact alu2_u16 a b f _ _ (Lib.hid (fun w => by have h := bitsOr_u16 A B f lA lB w; rw [eA, eB] at h; exact h)) w
  · rcases (by omega : c = 0 ∨ c = 1) with rfl | rfl
    · rw [show aluN 16 3 A B 0 = sumN 16 A B 0 from rfl, show aluF 16 3 A B 0 = sumF 16 A B 0 from rfl]
      exact alu3_u16 a b f _ _ (Lib.hid (fun w => by have h := addCarry0_u16 A B f lA lB hc2 w; rw [eA, eB] at h; exact h)) w
    · rw [show aluN 16 3 A B 1 = sumN 16 A B 1 from rfl, show aluF 16 3 A B 1 = sumF 16 A B 1 from rfl]
      exact alu3_u16 a b f _ _ (Lib.hid (fun w => by have h := addCarry1_u16 A B f lA lB hc2 w; rw [eA, eB] at h; exact h)) w
  · rcases (by omega : c = 0 ∨ c = 1) with rfl | rfl
    · rw [show aluN 16 4 A B 0 = difN 16 A B 0 from rfl, show aluF 16 4 A B 0 = difF 16 A B 0 from rfl]
      exact alu4_u16 a b f _ _ (Lib.hid (fun w => by have h := subtractCarry0_u16 A B f lA lB hc2 w; rw [eA, eB] at h; exact h)) w
    · rw [show aluN 16 4 A B 1 = difN 16 A B 1 from rfl, show aluF 16 4 A B 1 = difF 16 A B 1 from rfl]
      exact alu4_u16 a b f _ _ (Lib.hid (fun w => by have h := subtractCarry1_u16 A B f lA lB hc2 w; rw [eA, eB] at h; exact h)) w
  · rw [show aluN 16 5 A B c = A &&& B from rfl, show aluF 16 5 A B c = szp 16 (A &&& B) from rfl]
    exact alu5_u16 a b f _ _ (Lib.hid (fun w => by have h := bitsAnd_u16 A B f lA lB w; rw [eA, eB] at h; exact h)) w
  · rw [show aluN 16 6 A B c = difN 16 A B 0 from rfl, show aluF 16 6 A B c = difF 16 A B 0 from rfl]
    exact alu6_u16 a b f _ _ (Lib.hid (fun w => by have h := subtract_u16 A B f lA lB w; rw [eA, eB] at h; exact h)) w
  · rw [show aluN 16 7 A B c = A ^^^ B from rfl, show aluF 16 7 A B c = szp 16 (A ^^^ B) from rfl]
    exact alu7_u16 a b f _ _ (Lib.hid (fun w => by have h := bitsXor_u16 A B f lA lB w; rw [eA, eB] at h; exact h)) w
  · rw [show aluN 16 8 A B c = A from rfl, show aluF 16 8 A B c = difF 16 A B 0 from rfl]
    have e := alu8_u16 a b f _ _ (Lib.hid (fun w => by have h := subtract_u16 A B f lA lB w; rw [eA, eB] at h; exact h)) w
    rw [← eA] at e; exact e
  · rw [show aluN 16 10 A B c = A from rfl, show aluF 16 10 A B c = szp 16 (A &&& B) from rfl]
    have e := alu10_u16 a b f _ _ (Lib.hid (fun w => by have h := bitsAnd_u16 A B f lA lB w; rw [eA, eB] at h; exact h)) w
    rw [← eA] at e; exact e
theorem low_u32 {a : Int} {X A : Nat} (h : IntKind.u64.wrap a = (X : Int)) (hA : A = X % 2 ^ 32) : (A : Int) = (a % 4294967296) := by
  rw [wU64] at h; subst hA; omega
theorem aluAll_u32 (op a b f : Int) (Xa Xb c A B : Nat) (w : World) (hop : 1 ≤ op ∧ (op ≤ 8 ∨ op = 10)) (ha : IntKind.u64.wrap a = (Xa : Int)) (hb : IntKind.u64.wrap b = (Xb : Int)) (hc : CarN f c) (hA : A = Xa % 2 ^ 32) (hB : B = Xb % 2 ^ 32) : Calls Tryz.prog 25 #[.int .i64 op, .int .i64 a, .int .i64 b, .int .i64 f] w fun e w' => e = .returned (.tuple #[.int .i64 (wrap64 ((aluN 32 op A B c : Nat) : Int)), .int .i64 (aluF 32 op A B c), .int .i64 0]) ∧ Below w.heap.size w w' := by
  have eA := low_u32 ha hA
  have eB := low_u32 hb hB
  have lA : A < 2 ^ 32 := by rw [hA]; exact Nat.mod_lt _ (by decide)
  have lB : B < 2 ^ 32 := by rw [hB]; exact Nat.mod_lt _ (by decide)
  obtain ⟨hc1, hc2⟩ := hc
  rcases (show op = 1 ∨ op = 2 ∨ op = 3 ∨ op = 4 ∨ op = 5 ∨ op = 6 ∨ op = 7 ∨ op = 8 ∨ op = 10 by omega) with rfl | rfl | rfl | rfl | rfl | rfl | rfl | rfl | rfl
  · rw [show aluN 32 1 A B c = sumN 32 A B 0 from rfl, show aluF 32 1 A B c = sumF 32 A B 0 from rfl]
    exact alu1_u32 a b f _ _ (Lib.hid (fun w => by have h := add_u32 A B f lA lB w; rw [eA, eB] at h; exact h)) w
  · rw [show aluN 32 2 A B c = A ||| B from rfl, show aluF 32 2 A B c = szp 32 (A ||| B) from rfl]
    exact alu2_u32 a b f _ _ (Lib.hid (fun w => by have h := bitsOr_u32 A B f lA lB w; rw [eA, eB] at h; exact h)) w
  · rcases (by omega : c = 0 ∨ c = 1) with rfl | rfl
    · rw [show aluN 32 3 A B 0 = sumN 32 A B 0 from rfl, show aluF 32 3 A B 0 = sumF 32 A B 0 from rfl]
      exact alu3_u32 a b f _ _ (Lib.hid (fun w => by have h := addCarry0_u32 A B f lA lB hc2 w; rw [eA, eB] at h; exact h)) w
    · rw [show aluN 32 3 A B 1 = sumN 32 A B 1 from rfl, show aluF 32 3 A B 1 = sumF 32 A B 1 from rfl]
      exact alu3_u32 a b f _ _ (Lib.hid (fun w => by have h := addCarry1_u32 A B f lA lB hc2 w; rw [eA, eB] at h; exact h)) w
  · rcases (by omega : c = 0 ∨ c = 1) with rfl | rfl
    · rw [show aluN 32 4 A B 0 = difN 32 A B 0 from rfl, show aluF 32 4 A B 0 = difF 32 A B 0 from rfl]
      exact alu4_u32 a b f _ _ (Lib.hid (fun w => by have h := subtractCarry0_u32 A B f lA lB hc2 w; rw [eA, eB] at h; exact h)) w
    · rw [show aluN 32 4 A B 1 = difN 32 A B 1 from rfl, show aluF 32 4 A B 1 = difF 32 A B 1 from rfl]
      exact alu4_u32 a b f _ _ (Lib.hid (fun w => by have h := subtractCarry1_u32 A B f lA lB hc2 w; rw [eA, eB] at h; exact h)) w
  · rw [show aluN 32 5 A B c = A &&& B from rfl, show aluF 32 5 A B c = szp 32 (A &&& B) from rfl]
    exact alu5_u32 a b f _ _ (Lib.hid (fun w => by have h := bitsAnd_u32 A B f lA lB w; rw [eA, eB] at h; exact h)) w
  · rw [show aluN 32 6 A B c = difN 32 A B 0 from rfl, show aluF 32 6 A B c = difF 32 A B 0 from rfl]
    exact alu6_u32 a b f _ _ (Lib.hid (fun w => by have h := subtract_u32 A B f lA lB w; rw [eA, eB] at h; exact h)) w
  · rw [show aluN 32 7 A B c = A ^^^ B from rfl, show aluF 32 7 A B c = szp 32 (A ^^^ B) from rfl]
    exact alu7_u32 a b f _ _ (Lib.hid (fun w => by have h := bitsXor_u32 A B f lA lB w; rw [eA, eB] at h; exact h)) w
  · rw [show aluN 32 8 A B c = A from rfl, show aluF 32 8 A B c = difF 32 A B 0 from rfl]
    have e := alu8_u32 a b f _ _ (Lib.hid (fun w => by have h := subtract_u32 A B f lA lB w; rw [eA, eB] at h; exact h)) w
    rw [← eA] at e; exact e
  · rw [show aluN 32 10 A B c = A from rfl, show aluF 32 10 A B c = szp 32 (A &&& B) from rfl]
    have e := alu10_u32 a b f _ _ (Lib.hid (fun w => by have h := bitsAnd_u32 A B f lA lB w; rw [eA, eB] at h; exact h)) w
    rw [← eA] at e; exact e
theorem low_u64 {a : Int} {X A : Nat} (h : IntKind.u64.wrap a = (X : Int)) (hA : A = X % 2 ^ 64) : (A : Int) = (IntKind.u64.wrap a) := by
  rw [wU64] at h; subst hA; rw [wU64]; omega
theorem aluAll_u64 (op a b f : Int) (Xa Xb c A B : Nat) (w : World) (hop : 1 ≤ op ∧ (op ≤ 8 ∨ op = 10)) (ha : IntKind.u64.wrap a = (Xa : Int)) (hb : IntKind.u64.wrap b = (Xb : Int)) (hc : CarN f c) (hA : A = Xa % 2 ^ 64) (hB : B = Xb % 2 ^ 64) : Calls Tryz.prog 26 #[.int .i64 op, .int .i64 a, .int .i64 b, .int .i64 f] w fun e w' => e = .returned (.tuple #[.int .i64 (wrap64 ((aluN 64 op A B c : Nat) : Int)), .int .i64 (aluF 64 op A B c), .int .i64 0]) ∧ Below w.heap.size w w' := by
  have eA := low_u64 ha hA
  have eB := low_u64 hb hB
  have lA : A < 2 ^ 64 := by rw [hA]; exact Nat.mod_lt _ (by decide)
  have lB : B < 2 ^ 64 := by rw [hB]; exact Nat.mod_lt _ (by decide)
  obtain ⟨hc1, hc2⟩ := hc
  rcases (show op = 1 ∨ op = 2 ∨ op = 3 ∨ op = 4 ∨ op = 5 ∨ op = 6 ∨ op = 7 ∨ op = 8 ∨ op = 10 by omega) with rfl | rfl | rfl | rfl | rfl | rfl | rfl | rfl | rfl
  · rw [show aluN 64 1 A B c = sumN 64 A B 0 from rfl, show aluF 64 1 A B c = sumF 64 A B 0 from rfl]
    exact alu1_u64 a b f _ _ (Lib.hid (fun w => by have h := add_u64 A B f lA lB w; rw [eA, eB] at h; exact h)) w
  · rw [show aluN 64 2 A B c = A ||| B from rfl, show aluF 64 2 A B c = szp 64 (A ||| B) from rfl]
    exact alu2_u64 a b f _ _ (Lib.hid (fun w => by have h := bitsOr_u64 A B f lA lB w; rw [eA, eB] at h; exact h)) w
  · rcases (by omega : c = 0 ∨ c = 1) with rfl | rfl
    · rw [show aluN 64 3 A B 0 = sumN 64 A B 0 from rfl, show aluF 64 3 A B 0 = sumF 64 A B 0 from rfl]
      exact alu3_u64 a b f _ _ (Lib.hid (fun w => by have h := addCarry0_u64 A B f lA lB hc2 w; rw [eA, eB] at h; exact h)) w
    · rw [show aluN 64 3 A B 1 = sumN 64 A B 1 from rfl, show aluF 64 3 A B 1 = sumF 64 A B 1 from rfl]
      exact alu3_u64 a b f _ _ (Lib.hid (fun w => by have h := addCarry1_u64 A B f lA lB hc2 w; rw [eA, eB] at h; exact h)) w
  · rcases (by omega : c = 0 ∨ c = 1) with rfl | rfl
    · rw [show aluN 64 4 A B 0 = difN 64 A B 0 from rfl, show aluF 64 4 A B 0 = difF 64 A B 0 from rfl]
      exact alu4_u64 a b f _ _ (Lib.hid (fun w => by have h := subtractCarry0_u64 A B f lA lB hc2 w; rw [eA, eB] at h; exact h)) w
    · rw [show aluN 64 4 A B 1 = difN 64 A B 1 from rfl, show aluF 64 4 A B 1 = difF 64 A B 1 from rfl]
      exact alu4_u64 a b f _ _ (Lib.hid (fun w => by have h := subtractCarry1_u64 A B f lA lB hc2 w; rw [eA, eB] at h; exact h)) w
  · rw [show aluN 64 5 A B c = A &&& B from rfl, show aluF 64 5 A B c = szp 64 (A &&& B) from rfl]
    exact alu5_u64 a b f _ _ (Lib.hid (fun w => by have h := bitsAnd_u64 A B f lA lB w; rw [eA, eB] at h; exact h)) w
  · rw [show aluN 64 6 A B c = difN 64 A B 0 from rfl, show aluF 64 6 A B c = difF 64 A B 0 from rfl]
    exact alu6_u64 a b f _ _ (Lib.hid (fun w => by have h := subtract_u64 A B f lA lB w; rw [eA, eB] at h; exact h)) w
  · rw [show aluN 64 7 A B c = A ^^^ B from rfl, show aluF 64 7 A B c = szp 64 (A ^^^ B) from rfl]
    exact alu7_u64 a b f _ _ (Lib.hid (fun w => by have h := bitsXor_u64 A B f lA lB w; rw [eA, eB] at h; exact h)) w
  · rw [show aluN 64 8 A B c = A from rfl, show aluF 64 8 A B c = difF 64 A B 0 from rfl]
    have e := alu8_u64 a b f _ _ (Lib.hid (fun w => by have h := subtract_u64 A B f lA lB w; rw [eA, eB] at h; exact h)) w
    rw [← eA] at e; exact e
  · rw [show aluN 64 10 A B c = A from rfl, show aluF 64 10 A B c = szp 64 (A &&& B) from rfl]
    have e := alu10_u64 a b f _ _ (Lib.hid (fun w => by have h := bitsAnd_u64 A B f lA lB w; rw [eA, eB] at h; exact h)) w
    rw [← eA] at e; exact e
set_option maxHeartbeats 1000000 in
theorem AluI_u8 (op a b r0 r1 r2 : Int) (c p z s o : Bool) (w : World) (H : Hid (∀ W, Calls Tryz.prog 23 #[.int .i64 op, .int .i64 a, .int .i64 b, .int .i64 (flV c p z s o)] W fun e w' => e = .returned (.tuple #[.int .i64 r0, .int .i64 r1, .int .i64 r2]) ∧ Below W.heap.size W w')) :
    Calls Tryz.prog 8 #[.int .i64 op, .int .i64 1, .int .i64 a, .int .i64 b, .int .i64 (flV c p z s o)] w fun e w' => e = .returned (.tuple #[.int .i64 r0, .int .i64 r1, .int .i64 r2]) ∧ Below w.heap.size w w' := by
  have CC := Lib.hid (fun w => call1 23 24 25 26 op a b r0 r1 r2 c p z s o w (by intro args w; kernel_rfl) H)
  generalize flV c p z s o = f at *
  clear H
  go_enter Tryz.func8, Tryz.ntmps8
  go_wp2_with fail
  refine (CC.out _).mono ?_
  rintro e w1 ⟨rfl, hb⟩
  have B1 := Lib.hid hb
  clear hb
  go_wp2
  go_ret3
  exact ⟨rfl, B1.out⟩
set_option maxHeartbeats 1000000 in
theorem AluI_u16 (op a b r0 r1 r2 : Int) (c p z s o : Bool) (w : World) (H : Hid (∀ W, Calls Tryz.prog 24 #[.int .i64 op, .int .i64 a, .int .i64 b, .int .i64 (flV c p z s o)] W fun e w' => e = .returned (.tuple #[.int .i64 r0, .int .i64 r1, .int .i64 r2]) ∧ Below W.heap.size W w')) :
    Calls Tryz.prog 8 #[.int .i64 op, .int .i64 2, .int .i64 a, .int .i64 b, .int .i64 (flV c p z s o)] w fun e w' => e = .returned (.tuple #[.int .i64 r0, .int .i64 r1, .int .i64 r2]) ∧ Below w.heap.size w w' := by
  have CC := Lib.hid (fun w => call2 23 24 25 26 op a b r0 r1 r2 c p z s o w (by intro args w; kernel_rfl) H)
  generalize flV c p z s o = f at *
  clear H
  go_enter Tryz.func8, Tryz.ntmps8
  go_wp2_with fail
  refine (CC.out _).mono ?_
  rintro e w1 ⟨rfl, hb⟩
  have B1 := Lib.hid hb
  clear hb
  go_wp2
  go_ret3
  exact ⟨rfl, B1.out⟩
set_option maxHeartbeats 1000000 in
theorem AluI_u32 (op a b r0 r1 r2 : Int) (c p z s o : Bool) (w : World) (H : Hid (∀ W, Calls Tryz.prog 25 #[.int .i64 op, .int .i64 a, .int .i64 b, .int .i64 (flV c p z s o)] W fun e w' => e = .returned (.tuple #[.int .i64 r0, .int .i64 r1, .int .i64 r2]) ∧ Below W.heap.size W w')) :
    Calls Tryz.prog 8 #[.int .i64 op, .int .i64 4, .int .i64 a, .int .i64 b, .int .i64 (flV c p z s o)] w fun e w' => e = .returned (.tuple #[.int .i64 r0, .int .i64 r1, .int .i64 r2]) ∧ Below w.heap.size w w' := by
  have CC := Lib.hid (fun w => call4 23 24 25 26 op a b r0 r1 r2 c p z s o w (by intro args w; kernel_rfl) H)
  generalize flV c p z s o = f at *
  clear H
  go_enter Tryz.func8, Tryz.ntmps8
  go_wp2_with fail
  refine (CC.out _).mono ?_
  rintro e w1 ⟨rfl, hb⟩
  have B1 := Lib.hid hb
  clear hb
  go_wp2
  go_ret3
  exact ⟨rfl, B1.out⟩
set_option maxHeartbeats 1000000 in
theorem AluI_u64 (op a b r0 r1 r2 : Int) (c p z s o : Bool) (w : World) (H : Hid (∀ W, Calls Tryz.prog 26 #[.int .i64 op, .int .i64 a, .int .i64 b, .int .i64 (flV c p z s o)] W fun e w' => e = .returned (.tuple #[.int .i64 r0, .int .i64 r1, .int .i64 r2]) ∧ Below W.heap.size W w')) :
    Calls Tryz.prog 8 #[.int .i64 op, .int .i64 8, .int .i64 a, .int .i64 b, .int .i64 (flV c p z s o)] w fun e w' => e = .returned (.tuple #[.int .i64 r0, .int .i64 r1, .int .i64 r2]) ∧ Below w.heap.size w w' := by
  have CC := Lib.hid (fun w => call8 23 24 25 26 op a b r0 r1 r2 c p z s o w (by intro args w; kernel_rfl) H)
  generalize flV c p z s o = f at *
  clear H
  go_enter Tryz.func8, Tryz.ntmps8
  go_wp2_with fail
  refine (CC.out _).mono ?_
  rintro e w1 ⟨rfl, hb⟩
  have B1 := Lib.hid hb
  clear hb
  go_wp2
  go_ret3
  exact ⟨rfl, B1.out⟩
set_option maxHeartbeats 1000000 in
theorem AluIBad (op n a b f : Int) (w : World) (aR : Addr) (hs : SentF w aR) (hw : (Lit.int .i64 f).wf = true) (h : ¬ okSize n ∨ ¬ FlOK f) :
    Calls Tryz.prog 8 #[.int .i64 op, .int .i64 n, .int .i64 a, .int .i64 b, .int .i64 f] w fun e w' => e = .returned (.tuple #[.int .i64 0, .int .i64 0, .int .i64 4]) ∧ Below w.heap.size w w' := by
  have CC := Lib.hid (callBad 23 24 25 26 op n a b f w aR hs hw h)
  clear h hw hs
  go_enter Tryz.func8, Tryz.ntmps8
  go_wp2_with fail
  refine (CC.out).mono ?_
  rintro e w1 ⟨rfl, hb⟩
  have B1 := Lib.hid hb
  clear hb
  go_wp2
  go_ret3
  exact ⟨rfl, B1.out⟩
/-- what Alu answers of right arguments -/
def AluOut (op n a b : Int) (c : Bool) (v g k : Int) : Prop :=
  ∃ (size Xa Xb : Nat), n = (size : Int) ∧ IntKind.u64.wrap a = (Xa : Int) ∧ IntKind.u64.wrap b = (Xb : Int) ∧
    ((1 ≤ op ∧ (op ≤ 8 ∨ op = 10) ∧ v = wrap64 ((aluN (8 * size) op (Xa % 2 ^ (8 * size)) (Xb % 2 ^ (8 * size)) (bif c then 1 else 0) : Nat) : Int) ∧ g = aluF (8 * size) op (Xa % 2 ^ (8 * size)) (Xb % 2 ^ (8 * size)) (bif c then 1 else 0) ∧ k = 0) ∨
     (¬ (1 ≤ op ∧ (op ≤ 8 ∨ op = 10)) ∧ v = 0 ∧ g = 0 ∧ k = 11))
theorem AluOut.one {op n a b : Int} {c : Bool} {v g k v' g' k' : Int} (h : AluOut op n a b c v g k) (h' : AluOut op n a b c v' g' k') : v = v' ∧ g = g' ∧ k = k' := by
  obtain ⟨s, Xa, Xb, e1, e2, e3, h⟩ := h
  obtain ⟨s', Xa', Xb', e1', e2', e3', h'⟩ := h'
  obtain rfl : s = s' := by omega
  obtain rfl : Xa = Xa' := by omega
  obtain rfl : Xb = Xb' := by omega
  rcases h with ⟨h1, h2, rfl, rfl, rfl⟩ | ⟨h1, rfl, rfl, rfl⟩ <;> rcases h' with ⟨h1', h2', rfl, rfl, rfl⟩ | ⟨h1', rfl, rfl, rfl⟩
  · exact ⟨rfl, rfl, rfl⟩
  · exact absurd ⟨h1, h2⟩ h1'
  · exact absurd ⟨h1', h2'⟩ h1
  · exact ⟨rfl, rfl, rfl⟩
theorem AluI (op n a b : Int) (c p z s o : Bool) (w : World) (hn : okSize n) : ∃ v g k, AluOut op n a b c v g k ∧ Calls Tryz.prog 8 #[.int .i64 op, .int .i64 n, .int .i64 a, .int .i64 b, .int .i64 (flV c p z s o)] w fun e w' => e = .returned (.tuple #[.int .i64 v, .int .i64 g, .int .i64 k]) ∧ Below w.heap.size w w' := by
  obtain ⟨Xa, ha⟩ := natU a
  obtain ⟨Xb, hb⟩ := natU b
  have hc := carN_of c p z s o
  by_cases hop : 1 ≤ op ∧ (op ≤ 8 ∨ op = 10)
  · rcases hn with rfl | rfl | rfl | rfl
    · exact ⟨_, _, _, ⟨1, Xa, Xb, rfl, ha, hb, .inl ⟨hop.1, hop.2, rfl, rfl, rfl⟩⟩, AluI_u8 op a b _ _ _ c p z s o w (Lib.hid fun W => aluAll_u8 op a b _ Xa Xb _ _ _ W hop ha hb hc rfl rfl)⟩
    · exact ⟨_, _, _, ⟨2, Xa, Xb, rfl, ha, hb, .inl ⟨hop.1, hop.2, rfl, rfl, rfl⟩⟩, AluI_u16 op a b _ _ _ c p z s o w (Lib.hid fun W => aluAll_u16 op a b _ Xa Xb _ _ _ W hop ha hb hc rfl rfl)⟩
    · exact ⟨_, _, _, ⟨4, Xa, Xb, rfl, ha, hb, .inl ⟨hop.1, hop.2, rfl, rfl, rfl⟩⟩, AluI_u32 op a b _ _ _ c p z s o w (Lib.hid fun W => aluAll_u32 op a b _ Xa Xb _ _ _ W hop ha hb hc rfl rfl)⟩
    · exact ⟨_, _, _, ⟨8, Xa, Xb, rfl, ha, hb, .inl ⟨hop.1, hop.2, rfl, rfl, rfl⟩⟩, AluI_u64 op a b _ _ _ c p z s o w (Lib.hid fun W => aluAll_u64 op a b _ Xa Xb _ _ _ W hop ha hb hc rfl rfl)⟩
  · have hno : ∀ k : Prop, True := fun _ => trivial
    by_cases hr : 1 ≤ op ∧ op ≤ 44
    · rcases hn with rfl | rfl | rfl | rfl
      · exact ⟨_, _, _, ⟨1, Xa, Xb, rfl, ha, hb, .inr ⟨hop, rfl, rfl, rfl⟩⟩, AluI_u8 op a b _ _ _ c p z s o w (Lib.hid fun W => aluNil_u8 op a b _ hr.1 hr.2 (by omega) W)⟩
      · exact ⟨_, _, _, ⟨2, Xa, Xb, rfl, ha, hb, .inr ⟨hop, rfl, rfl, rfl⟩⟩, AluI_u16 op a b _ _ _ c p z s o w (Lib.hid fun W => aluNil_u16 op a b _ hr.1 hr.2 (by omega) W)⟩
      · exact ⟨_, _, _, ⟨4, Xa, Xb, rfl, ha, hb, .inr ⟨hop, rfl, rfl, rfl⟩⟩, AluI_u32 op a b _ _ _ c p z s o w (Lib.hid fun W => aluNil_u32 op a b _ hr.1 hr.2 (by omega) W)⟩
      · exact ⟨_, _, _, ⟨8, Xa, Xb, rfl, ha, hb, .inr ⟨hop, rfl, rfl, rfl⟩⟩, AluI_u64 op a b _ _ _ c p z s o w (Lib.hid fun W => aluNil_u64 op a b _ hr.1 hr.2 (by omega) W)⟩
    · rcases hn with rfl | rfl | rfl | rfl
      · exact ⟨_, _, _, ⟨1, Xa, Xb, rfl, ha, hb, .inr ⟨hop, rfl, rfl, rfl⟩⟩, AluI_u8 op a b _ _ _ c p z s o w (Lib.hid fun W => aluNo_u8 op a b _ hr W)⟩
      · exact ⟨_, _, _, ⟨2, Xa, Xb, rfl, ha, hb, .inr ⟨hop, rfl, rfl, rfl⟩⟩, AluI_u16 op a b _ _ _ c p z s o w (Lib.hid fun W => aluNo_u16 op a b _ hr W)⟩
      · exact ⟨_, _, _, ⟨4, Xa, Xb, rfl, ha, hb, .inr ⟨hop, rfl, rfl, rfl⟩⟩, AluI_u32 op a b _ _ _ c p z s o w (Lib.hid fun W => aluNo_u32 op a b _ hr W)⟩
      · exact ⟨_, _, _, ⟨8, Xa, Xb, rfl, ha, hb, .inr ⟨hop, rfl, rfl, rfl⟩⟩, AluI_u64 op a b _ _ _ c p z s o w (Lib.hid fun W => aluNo_u64 op a b _ hr W)⟩
theorem AluS (op n a b : Int) (c p z s o : Bool) (w : World) (hn : okSize n) : ∃ v g k, AluOut op n a b c v g k ∧ Calls Tryz.prog 9 #[.int .i64 op, .int .i64 n, .int .i64 a, .int .i64 b, .int .i64 (flV c p z s o)] w fun e w' => e = .returned (.tuple #[.int .i64 v, .int .i64 g, .int .i64 k]) ∧ w = w' := by
  obtain ⟨Xa, ha⟩ := natU a
  obtain ⟨Xb, hb⟩ := natU b
  have hc := carN_of c p z s o
  obtain ⟨size, rfl, h1, h8⟩ := sizeN hn
  by_cases hop : 1 ≤ op ∧ (op ≤ 8 ∨ op = 10)
  · exact ⟨_, _, _, ⟨size, Xa, Xb, rfl, ha, hb, .inl ⟨hop.1, hop.2, rfl, rfl, rfl⟩⟩, AluSYes op _ a b _ _ c p z s o w hop hn (Lib.hid fun W => aluSAll op a b _ Xa Xb size _ _ _ W hop ha hb h1 h8 hc rfl rfl)⟩
  · exact ⟨_, _, _, ⟨size, Xa, Xb, rfl, ha, hb, .inr ⟨hop, rfl, rfl, rfl⟩⟩, AluSNo op _ a b c p z s o w hop hn⟩
/-- both answer alike -/
theorem aluBoth (op n a b : Int) (c p z s o : Bool) (hn : okSize n) : ∃ v g k, (∀ w, Calls Tryz.prog 8 #[.int .i64 op, .int .i64 n, .int .i64 a, .int .i64 b, .int .i64 (flV c p z s o)] w fun e w' => e = .returned (.tuple #[.int .i64 v, .int .i64 g, .int .i64 k]) ∧ Below w.heap.size w w') ∧
    (∀ w, Calls Tryz.prog 9 #[.int .i64 op, .int .i64 n, .int .i64 a, .int .i64 b, .int .i64 (flV c p z s o)] w fun e w' => e = .returned (.tuple #[.int .i64 v, .int .i64 g, .int .i64 k]) ∧ w = w') := by
  obtain ⟨v, g, k, h, _⟩ := AluS op n a b c p z s o default hn
  refine ⟨v, g, k, fun w => ?_, fun w => ?_⟩
  · obtain ⟨v', g', k', h', hc⟩ := AluI op n a b c p z s o w hn
    obtain ⟨rfl, rfl, rfl⟩ := h.one h'
    exact hc
  · obtain ⟨v', g', k', h', hc⟩ := AluS op n a b c p z s o w hn
    obtain ⟨rfl, rfl, rfl⟩ := h.one h'
    exact hc
end Go.Proofs.YtifpcfhfglkbcaaGreatDoor
