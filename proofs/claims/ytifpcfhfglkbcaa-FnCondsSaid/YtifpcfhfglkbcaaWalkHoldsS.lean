/-
  What spec.l06Holds does for each condition; conditions: which flags are on.
-/
import Derived.Test.YtifpcfhfglkbcaaWalkHolds
import Derived.Laws.Tables
import Derived.Laws.CopyOwn
import Derived.Laws.NewBlocks
namespace Go.Proofs.Ytifpcfhfglkbcaa
open Go.RowKit
set_option linter.unusedVariables false
set_option maxHeartbeats 1000000 in
theorem hS_0tt (f : Int) (p s o : Bool) (w : World) (h1 : (bits .and .i64 f 1 != 0) = true) (h2 : (bits .and .i64 f 64 != 0) = true) (h3 : (bits .and .i64 f 128 != 0) = s) (h4 : (bits .and .i64 f 2048 != 0) = o) (h5 : (bits .and .i64 f 4 != 0) = p) : Calls Try.prog 10 #[.int .i64 0, .int .i64 f] w fun e w' => e = .returned (.bool (hvB 0 true p true s o == true)) ∧ Below w.heap.size w w' := by
  go_enter Try.func10, Try.ntmps10
  go_wp2
  go_ret
  exact ⟨by cases p <;> cases s <;> cases o <;> rfl, (Below.refl _ _).alloc (Nat.le_refl _) _⟩
set_option maxHeartbeats 1000000 in
theorem hS_0tf (f : Int) (p s o : Bool) (w : World) (h1 : (bits .and .i64 f 1 != 0) = true) (h2 : (bits .and .i64 f 64 != 0) = false) (h3 : (bits .and .i64 f 128 != 0) = s) (h4 : (bits .and .i64 f 2048 != 0) = o) (h5 : (bits .and .i64 f 4 != 0) = p) : Calls Try.prog 10 #[.int .i64 0, .int .i64 f] w fun e w' => e = .returned (.bool (hvB 0 true p false s o == true)) ∧ Below w.heap.size w w' := by
  go_enter Try.func10, Try.ntmps10
  go_wp2
  go_ret
  exact ⟨by cases p <;> cases s <;> cases o <;> rfl, (Below.refl _ _).alloc (Nat.le_refl _) _⟩
set_option maxHeartbeats 1000000 in
theorem hS_0ft (f : Int) (p s o : Bool) (w : World) (h1 : (bits .and .i64 f 1 != 0) = false) (h2 : (bits .and .i64 f 64 != 0) = true) (h3 : (bits .and .i64 f 128 != 0) = s) (h4 : (bits .and .i64 f 2048 != 0) = o) (h5 : (bits .and .i64 f 4 != 0) = p) : Calls Try.prog 10 #[.int .i64 0, .int .i64 f] w fun e w' => e = .returned (.bool (hvB 0 false p true s o == true)) ∧ Below w.heap.size w w' := by
  go_enter Try.func10, Try.ntmps10
  go_wp2
  go_ret
  exact ⟨by cases p <;> cases s <;> cases o <;> rfl, (Below.refl _ _).alloc (Nat.le_refl _) _⟩
set_option maxHeartbeats 1000000 in
theorem hS_0ff (f : Int) (p s o : Bool) (w : World) (h1 : (bits .and .i64 f 1 != 0) = false) (h2 : (bits .and .i64 f 64 != 0) = false) (h3 : (bits .and .i64 f 128 != 0) = s) (h4 : (bits .and .i64 f 2048 != 0) = o) (h5 : (bits .and .i64 f 4 != 0) = p) : Calls Try.prog 10 #[.int .i64 0, .int .i64 f] w fun e w' => e = .returned (.bool (hvB 0 false p false s o == true)) ∧ Below w.heap.size w w' := by
  go_enter Try.func10, Try.ntmps10
  go_wp2
  go_ret
  exact ⟨by cases p <;> cases s <;> cases o <;> rfl, (Below.refl _ _).alloc (Nat.le_refl _) _⟩
set_option maxHeartbeats 1000000 in
theorem hS_1tt (f : Int) (p s o : Bool) (w : World) (h1 : (bits .and .i64 f 1 != 0) = true) (h2 : (bits .and .i64 f 64 != 0) = true) (h3 : (bits .and .i64 f 128 != 0) = s) (h4 : (bits .and .i64 f 2048 != 0) = o) (h5 : (bits .and .i64 f 4 != 0) = p) : Calls Try.prog 10 #[.int .i64 1, .int .i64 f] w fun e w' => e = .returned (.bool (hvB 0 true p true s o == false)) ∧ Below w.heap.size w w' := by
  go_enter Try.func10, Try.ntmps10
  go_wp2
  go_ret
  exact ⟨by cases p <;> cases s <;> cases o <;> rfl, (Below.refl _ _).alloc (Nat.le_refl _) _⟩
set_option maxHeartbeats 1000000 in
theorem hS_1tf (f : Int) (p s o : Bool) (w : World) (h1 : (bits .and .i64 f 1 != 0) = true) (h2 : (bits .and .i64 f 64 != 0) = false) (h3 : (bits .and .i64 f 128 != 0) = s) (h4 : (bits .and .i64 f 2048 != 0) = o) (h5 : (bits .and .i64 f 4 != 0) = p) : Calls Try.prog 10 #[.int .i64 1, .int .i64 f] w fun e w' => e = .returned (.bool (hvB 0 true p false s o == false)) ∧ Below w.heap.size w w' := by
  go_enter Try.func10, Try.ntmps10
  go_wp2
  go_ret
  exact ⟨by cases p <;> cases s <;> cases o <;> rfl, (Below.refl _ _).alloc (Nat.le_refl _) _⟩
set_option maxHeartbeats 1000000 in
theorem hS_1ft (f : Int) (p s o : Bool) (w : World) (h1 : (bits .and .i64 f 1 != 0) = false) (h2 : (bits .and .i64 f 64 != 0) = true) (h3 : (bits .and .i64 f 128 != 0) = s) (h4 : (bits .and .i64 f 2048 != 0) = o) (h5 : (bits .and .i64 f 4 != 0) = p) : Calls Try.prog 10 #[.int .i64 1, .int .i64 f] w fun e w' => e = .returned (.bool (hvB 0 false p true s o == false)) ∧ Below w.heap.size w w' := by
  go_enter Try.func10, Try.ntmps10
  go_wp2
  go_ret
  exact ⟨by cases p <;> cases s <;> cases o <;> rfl, (Below.refl _ _).alloc (Nat.le_refl _) _⟩
set_option maxHeartbeats 1000000 in
theorem hS_1ff (f : Int) (p s o : Bool) (w : World) (h1 : (bits .and .i64 f 1 != 0) = false) (h2 : (bits .and .i64 f 64 != 0) = false) (h3 : (bits .and .i64 f 128 != 0) = s) (h4 : (bits .and .i64 f 2048 != 0) = o) (h5 : (bits .and .i64 f 4 != 0) = p) : Calls Try.prog 10 #[.int .i64 1, .int .i64 f] w fun e w' => e = .returned (.bool (hvB 0 false p false s o == false)) ∧ Below w.heap.size w w' := by
  go_enter Try.func10, Try.ntmps10
  go_wp2
  go_ret
  exact ⟨by cases p <;> cases s <;> cases o <;> rfl, (Below.refl _ _).alloc (Nat.le_refl _) _⟩
set_option maxHeartbeats 1000000 in
theorem hS_2tt (f : Int) (p s o : Bool) (w : World) (h1 : (bits .and .i64 f 1 != 0) = true) (h2 : (bits .and .i64 f 64 != 0) = true) (h3 : (bits .and .i64 f 128 != 0) = s) (h4 : (bits .and .i64 f 2048 != 0) = o) (h5 : (bits .and .i64 f 4 != 0) = p) : Calls Try.prog 10 #[.int .i64 2, .int .i64 f] w fun e w' => e = .returned (.bool (hvB 1 true p true s o == true)) ∧ Below w.heap.size w w' := by
  go_enter Try.func10, Try.ntmps10
  go_wp2
  go_ret
  exact ⟨by cases p <;> cases s <;> cases o <;> rfl, (Below.refl _ _).alloc (Nat.le_refl _) _⟩
set_option maxHeartbeats 1000000 in
theorem hS_2tf (f : Int) (p s o : Bool) (w : World) (h1 : (bits .and .i64 f 1 != 0) = true) (h2 : (bits .and .i64 f 64 != 0) = false) (h3 : (bits .and .i64 f 128 != 0) = s) (h4 : (bits .and .i64 f 2048 != 0) = o) (h5 : (bits .and .i64 f 4 != 0) = p) : Calls Try.prog 10 #[.int .i64 2, .int .i64 f] w fun e w' => e = .returned (.bool (hvB 1 true p false s o == true)) ∧ Below w.heap.size w w' := by
  go_enter Try.func10, Try.ntmps10
  go_wp2
  go_ret
  exact ⟨by cases p <;> cases s <;> cases o <;> rfl, (Below.refl _ _).alloc (Nat.le_refl _) _⟩
set_option maxHeartbeats 1000000 in
theorem hS_2ft (f : Int) (p s o : Bool) (w : World) (h1 : (bits .and .i64 f 1 != 0) = false) (h2 : (bits .and .i64 f 64 != 0) = true) (h3 : (bits .and .i64 f 128 != 0) = s) (h4 : (bits .and .i64 f 2048 != 0) = o) (h5 : (bits .and .i64 f 4 != 0) = p) : Calls Try.prog 10 #[.int .i64 2, .int .i64 f] w fun e w' => e = .returned (.bool (hvB 1 false p true s o == true)) ∧ Below w.heap.size w w' := by
  go_enter Try.func10, Try.ntmps10
  go_wp2
  go_ret
  exact ⟨by cases p <;> cases s <;> cases o <;> rfl, (Below.refl _ _).alloc (Nat.le_refl _) _⟩
set_option maxHeartbeats 1000000 in
theorem hS_2ff (f : Int) (p s o : Bool) (w : World) (h1 : (bits .and .i64 f 1 != 0) = false) (h2 : (bits .and .i64 f 64 != 0) = false) (h3 : (bits .and .i64 f 128 != 0) = s) (h4 : (bits .and .i64 f 2048 != 0) = o) (h5 : (bits .and .i64 f 4 != 0) = p) : Calls Try.prog 10 #[.int .i64 2, .int .i64 f] w fun e w' => e = .returned (.bool (hvB 1 false p false s o == true)) ∧ Below w.heap.size w w' := by
  go_enter Try.func10, Try.ntmps10
  go_wp2
  go_ret
  exact ⟨by cases p <;> cases s <;> cases o <;> rfl, (Below.refl _ _).alloc (Nat.le_refl _) _⟩
set_option maxHeartbeats 1000000 in
theorem hS_3tt (f : Int) (p s o : Bool) (w : World) (h1 : (bits .and .i64 f 1 != 0) = true) (h2 : (bits .and .i64 f 64 != 0) = true) (h3 : (bits .and .i64 f 128 != 0) = s) (h4 : (bits .and .i64 f 2048 != 0) = o) (h5 : (bits .and .i64 f 4 != 0) = p) : Calls Try.prog 10 #[.int .i64 3, .int .i64 f] w fun e w' => e = .returned (.bool (hvB 1 true p true s o == false)) ∧ Below w.heap.size w w' := by
  go_enter Try.func10, Try.ntmps10
  go_wp2
  go_ret
  exact ⟨by cases p <;> cases s <;> cases o <;> rfl, (Below.refl _ _).alloc (Nat.le_refl _) _⟩
set_option maxHeartbeats 1000000 in
theorem hS_3tf (f : Int) (p s o : Bool) (w : World) (h1 : (bits .and .i64 f 1 != 0) = true) (h2 : (bits .and .i64 f 64 != 0) = false) (h3 : (bits .and .i64 f 128 != 0) = s) (h4 : (bits .and .i64 f 2048 != 0) = o) (h5 : (bits .and .i64 f 4 != 0) = p) : Calls Try.prog 10 #[.int .i64 3, .int .i64 f] w fun e w' => e = .returned (.bool (hvB 1 true p false s o == false)) ∧ Below w.heap.size w w' := by
  go_enter Try.func10, Try.ntmps10
  go_wp2
  go_ret
  exact ⟨by cases p <;> cases s <;> cases o <;> rfl, (Below.refl _ _).alloc (Nat.le_refl _) _⟩
set_option maxHeartbeats 1000000 in
theorem hS_3ft (f : Int) (p s o : Bool) (w : World) (h1 : (bits .and .i64 f 1 != 0) = false) (h2 : (bits .and .i64 f 64 != 0) = true) (h3 : (bits .and .i64 f 128 != 0) = s) (h4 : (bits .and .i64 f 2048 != 0) = o) (h5 : (bits .and .i64 f 4 != 0) = p) : Calls Try.prog 10 #[.int .i64 3, .int .i64 f] w fun e w' => e = .returned (.bool (hvB 1 false p true s o == false)) ∧ Below w.heap.size w w' := by
  go_enter Try.func10, Try.ntmps10
  go_wp2
  go_ret
  exact ⟨by cases p <;> cases s <;> cases o <;> rfl, (Below.refl _ _).alloc (Nat.le_refl _) _⟩
set_option maxHeartbeats 1000000 in
theorem hS_3ff (f : Int) (p s o : Bool) (w : World) (h1 : (bits .and .i64 f 1 != 0) = false) (h2 : (bits .and .i64 f 64 != 0) = false) (h3 : (bits .and .i64 f 128 != 0) = s) (h4 : (bits .and .i64 f 2048 != 0) = o) (h5 : (bits .and .i64 f 4 != 0) = p) : Calls Try.prog 10 #[.int .i64 3, .int .i64 f] w fun e w' => e = .returned (.bool (hvB 1 false p false s o == false)) ∧ Below w.heap.size w w' := by
  go_enter Try.func10, Try.ntmps10
  go_wp2
  go_ret
  exact ⟨by cases p <;> cases s <;> cases o <;> rfl, (Below.refl _ _).alloc (Nat.le_refl _) _⟩
set_option maxHeartbeats 1000000 in
theorem hS_4tt (f : Int) (p s o : Bool) (w : World) (h1 : (bits .and .i64 f 1 != 0) = true) (h2 : (bits .and .i64 f 64 != 0) = true) (h3 : (bits .and .i64 f 128 != 0) = s) (h4 : (bits .and .i64 f 2048 != 0) = o) (h5 : (bits .and .i64 f 4 != 0) = p) : Calls Try.prog 10 #[.int .i64 4, .int .i64 f] w fun e w' => e = .returned (.bool (hvB 2 true p true s o == true)) ∧ Below w.heap.size w w' := by
  go_enter Try.func10, Try.ntmps10
  go_wp2
  go_ret
  exact ⟨by cases p <;> cases s <;> cases o <;> rfl, (Below.refl _ _).alloc (Nat.le_refl _) _⟩
set_option maxHeartbeats 1000000 in
theorem hS_4tf (f : Int) (p s o : Bool) (w : World) (h1 : (bits .and .i64 f 1 != 0) = true) (h2 : (bits .and .i64 f 64 != 0) = false) (h3 : (bits .and .i64 f 128 != 0) = s) (h4 : (bits .and .i64 f 2048 != 0) = o) (h5 : (bits .and .i64 f 4 != 0) = p) : Calls Try.prog 10 #[.int .i64 4, .int .i64 f] w fun e w' => e = .returned (.bool (hvB 2 true p false s o == true)) ∧ Below w.heap.size w w' := by
  go_enter Try.func10, Try.ntmps10
  go_wp2
  go_ret
  exact ⟨by cases p <;> cases s <;> cases o <;> rfl, (Below.refl _ _).alloc (Nat.le_refl _) _⟩
set_option maxHeartbeats 1000000 in
theorem hS_4ft (f : Int) (p s o : Bool) (w : World) (h1 : (bits .and .i64 f 1 != 0) = false) (h2 : (bits .and .i64 f 64 != 0) = true) (h3 : (bits .and .i64 f 128 != 0) = s) (h4 : (bits .and .i64 f 2048 != 0) = o) (h5 : (bits .and .i64 f 4 != 0) = p) : Calls Try.prog 10 #[.int .i64 4, .int .i64 f] w fun e w' => e = .returned (.bool (hvB 2 false p true s o == true)) ∧ Below w.heap.size w w' := by
  go_enter Try.func10, Try.ntmps10
  go_wp2
  go_ret
  exact ⟨by cases p <;> cases s <;> cases o <;> rfl, (Below.refl _ _).alloc (Nat.le_refl _) _⟩
set_option maxHeartbeats 1000000 in
theorem hS_4ff (f : Int) (p s o : Bool) (w : World) (h1 : (bits .and .i64 f 1 != 0) = false) (h2 : (bits .and .i64 f 64 != 0) = false) (h3 : (bits .and .i64 f 128 != 0) = s) (h4 : (bits .and .i64 f 2048 != 0) = o) (h5 : (bits .and .i64 f 4 != 0) = p) : Calls Try.prog 10 #[.int .i64 4, .int .i64 f] w fun e w' => e = .returned (.bool (hvB 2 false p false s o == true)) ∧ Below w.heap.size w w' := by
  go_enter Try.func10, Try.ntmps10
  go_wp2
  go_ret
  exact ⟨by cases p <;> cases s <;> cases o <;> rfl, (Below.refl _ _).alloc (Nat.le_refl _) _⟩
set_option maxHeartbeats 1000000 in
theorem hS_5tt (f : Int) (p s o : Bool) (w : World) (h1 : (bits .and .i64 f 1 != 0) = true) (h2 : (bits .and .i64 f 64 != 0) = true) (h3 : (bits .and .i64 f 128 != 0) = s) (h4 : (bits .and .i64 f 2048 != 0) = o) (h5 : (bits .and .i64 f 4 != 0) = p) : Calls Try.prog 10 #[.int .i64 5, .int .i64 f] w fun e w' => e = .returned (.bool (hvB 2 true p true s o == false)) ∧ Below w.heap.size w w' := by
  go_enter Try.func10, Try.ntmps10
  go_wp2
  go_ret
  exact ⟨by cases p <;> cases s <;> cases o <;> rfl, (Below.refl _ _).alloc (Nat.le_refl _) _⟩
set_option maxHeartbeats 1000000 in
theorem hS_5tf (f : Int) (p s o : Bool) (w : World) (h1 : (bits .and .i64 f 1 != 0) = true) (h2 : (bits .and .i64 f 64 != 0) = false) (h3 : (bits .and .i64 f 128 != 0) = s) (h4 : (bits .and .i64 f 2048 != 0) = o) (h5 : (bits .and .i64 f 4 != 0) = p) : Calls Try.prog 10 #[.int .i64 5, .int .i64 f] w fun e w' => e = .returned (.bool (hvB 2 true p false s o == false)) ∧ Below w.heap.size w w' := by
  go_enter Try.func10, Try.ntmps10
  go_wp2
  go_ret
  exact ⟨by cases p <;> cases s <;> cases o <;> rfl, (Below.refl _ _).alloc (Nat.le_refl _) _⟩
set_option maxHeartbeats 1000000 in
theorem hS_5ft (f : Int) (p s o : Bool) (w : World) (h1 : (bits .and .i64 f 1 != 0) = false) (h2 : (bits .and .i64 f 64 != 0) = true) (h3 : (bits .and .i64 f 128 != 0) = s) (h4 : (bits .and .i64 f 2048 != 0) = o) (h5 : (bits .and .i64 f 4 != 0) = p) : Calls Try.prog 10 #[.int .i64 5, .int .i64 f] w fun e w' => e = .returned (.bool (hvB 2 false p true s o == false)) ∧ Below w.heap.size w w' := by
  go_enter Try.func10, Try.ntmps10
  go_wp2
  go_ret
  exact ⟨by cases p <;> cases s <;> cases o <;> rfl, (Below.refl _ _).alloc (Nat.le_refl _) _⟩
set_option maxHeartbeats 1000000 in
theorem hS_5ff (f : Int) (p s o : Bool) (w : World) (h1 : (bits .and .i64 f 1 != 0) = false) (h2 : (bits .and .i64 f 64 != 0) = false) (h3 : (bits .and .i64 f 128 != 0) = s) (h4 : (bits .and .i64 f 2048 != 0) = o) (h5 : (bits .and .i64 f 4 != 0) = p) : Calls Try.prog 10 #[.int .i64 5, .int .i64 f] w fun e w' => e = .returned (.bool (hvB 2 false p false s o == false)) ∧ Below w.heap.size w w' := by
  go_enter Try.func10, Try.ntmps10
  go_wp2
  go_ret
  exact ⟨by cases p <;> cases s <;> cases o <;> rfl, (Below.refl _ _).alloc (Nat.le_refl _) _⟩
set_option maxHeartbeats 1000000 in
theorem hS_6tt (f : Int) (p s o : Bool) (w : World) (h1 : (bits .and .i64 f 1 != 0) = true) (h2 : (bits .and .i64 f 64 != 0) = true) (h3 : (bits .and .i64 f 128 != 0) = s) (h4 : (bits .and .i64 f 2048 != 0) = o) (h5 : (bits .and .i64 f 4 != 0) = p) : Calls Try.prog 10 #[.int .i64 6, .int .i64 f] w fun e w' => e = .returned (.bool (hvB 3 true p true s o == true)) ∧ Below w.heap.size w w' := by
  go_enter Try.func10, Try.ntmps10
  go_wp2
  go_ret
  exact ⟨by cases p <;> cases s <;> cases o <;> rfl, (Below.refl _ _).alloc (Nat.le_refl _) _⟩
set_option maxHeartbeats 1000000 in
theorem hS_6tf (f : Int) (p s o : Bool) (w : World) (h1 : (bits .and .i64 f 1 != 0) = true) (h2 : (bits .and .i64 f 64 != 0) = false) (h3 : (bits .and .i64 f 128 != 0) = s) (h4 : (bits .and .i64 f 2048 != 0) = o) (h5 : (bits .and .i64 f 4 != 0) = p) : Calls Try.prog 10 #[.int .i64 6, .int .i64 f] w fun e w' => e = .returned (.bool (hvB 3 true p false s o == true)) ∧ Below w.heap.size w w' := by
  go_enter Try.func10, Try.ntmps10
  go_wp2
  go_ret
  exact ⟨by cases p <;> cases s <;> cases o <;> rfl, (Below.refl _ _).alloc (Nat.le_refl _) _⟩
set_option maxHeartbeats 1000000 in
theorem hS_6ft (f : Int) (p s o : Bool) (w : World) (h1 : (bits .and .i64 f 1 != 0) = false) (h2 : (bits .and .i64 f 64 != 0) = true) (h3 : (bits .and .i64 f 128 != 0) = s) (h4 : (bits .and .i64 f 2048 != 0) = o) (h5 : (bits .and .i64 f 4 != 0) = p) : Calls Try.prog 10 #[.int .i64 6, .int .i64 f] w fun e w' => e = .returned (.bool (hvB 3 false p true s o == true)) ∧ Below w.heap.size w w' := by
  go_enter Try.func10, Try.ntmps10
  go_wp2
  go_ret
  exact ⟨by cases p <;> cases s <;> cases o <;> rfl, (Below.refl _ _).alloc (Nat.le_refl _) _⟩
set_option maxHeartbeats 1000000 in
theorem hS_6ff (f : Int) (p s o : Bool) (w : World) (h1 : (bits .and .i64 f 1 != 0) = false) (h2 : (bits .and .i64 f 64 != 0) = false) (h3 : (bits .and .i64 f 128 != 0) = s) (h4 : (bits .and .i64 f 2048 != 0) = o) (h5 : (bits .and .i64 f 4 != 0) = p) : Calls Try.prog 10 #[.int .i64 6, .int .i64 f] w fun e w' => e = .returned (.bool (hvB 3 false p false s o == true)) ∧ Below w.heap.size w w' := by
  go_enter Try.func10, Try.ntmps10
  go_wp2
  go_ret
  exact ⟨by cases p <;> cases s <;> cases o <;> rfl, (Below.refl _ _).alloc (Nat.le_refl _) _⟩
set_option maxHeartbeats 1000000 in
theorem hS_7tt (f : Int) (p s o : Bool) (w : World) (h1 : (bits .and .i64 f 1 != 0) = true) (h2 : (bits .and .i64 f 64 != 0) = true) (h3 : (bits .and .i64 f 128 != 0) = s) (h4 : (bits .and .i64 f 2048 != 0) = o) (h5 : (bits .and .i64 f 4 != 0) = p) : Calls Try.prog 10 #[.int .i64 7, .int .i64 f] w fun e w' => e = .returned (.bool (hvB 3 true p true s o == false)) ∧ Below w.heap.size w w' := by
  go_enter Try.func10, Try.ntmps10
  go_wp2
  go_ret
  exact ⟨by cases p <;> cases s <;> cases o <;> rfl, (Below.refl _ _).alloc (Nat.le_refl _) _⟩
set_option maxHeartbeats 1000000 in
theorem hS_7tf (f : Int) (p s o : Bool) (w : World) (h1 : (bits .and .i64 f 1 != 0) = true) (h2 : (bits .and .i64 f 64 != 0) = false) (h3 : (bits .and .i64 f 128 != 0) = s) (h4 : (bits .and .i64 f 2048 != 0) = o) (h5 : (bits .and .i64 f 4 != 0) = p) : Calls Try.prog 10 #[.int .i64 7, .int .i64 f] w fun e w' => e = .returned (.bool (hvB 3 true p false s o == false)) ∧ Below w.heap.size w w' := by
  go_enter Try.func10, Try.ntmps10
  go_wp2
  go_ret
  exact ⟨by cases p <;> cases s <;> cases o <;> rfl, (Below.refl _ _).alloc (Nat.le_refl _) _⟩
set_option maxHeartbeats 1000000 in
theorem hS_7ft (f : Int) (p s o : Bool) (w : World) (h1 : (bits .and .i64 f 1 != 0) = false) (h2 : (bits .and .i64 f 64 != 0) = true) (h3 : (bits .and .i64 f 128 != 0) = s) (h4 : (bits .and .i64 f 2048 != 0) = o) (h5 : (bits .and .i64 f 4 != 0) = p) : Calls Try.prog 10 #[.int .i64 7, .int .i64 f] w fun e w' => e = .returned (.bool (hvB 3 false p true s o == false)) ∧ Below w.heap.size w w' := by
  go_enter Try.func10, Try.ntmps10
  go_wp2
  go_ret
  exact ⟨by cases p <;> cases s <;> cases o <;> rfl, (Below.refl _ _).alloc (Nat.le_refl _) _⟩
set_option maxHeartbeats 1000000 in
theorem hS_7ff (f : Int) (p s o : Bool) (w : World) (h1 : (bits .and .i64 f 1 != 0) = false) (h2 : (bits .and .i64 f 64 != 0) = false) (h3 : (bits .and .i64 f 128 != 0) = s) (h4 : (bits .and .i64 f 2048 != 0) = o) (h5 : (bits .and .i64 f 4 != 0) = p) : Calls Try.prog 10 #[.int .i64 7, .int .i64 f] w fun e w' => e = .returned (.bool (hvB 3 false p false s o == false)) ∧ Below w.heap.size w w' := by
  go_enter Try.func10, Try.ntmps10
  go_wp2
  go_ret
  exact ⟨by cases p <;> cases s <;> cases o <;> rfl, (Below.refl _ _).alloc (Nat.le_refl _) _⟩
end Go.Proofs.Ytifpcfhfglkbcaa
