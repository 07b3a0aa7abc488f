/-
  What spec.l06Holds does for each condition; conditions: which flags are on.
-/
import Derived.Test.YtifpcfhfglkbcaaWalkHolds
import Derived.Laws.Tables
import Derived.Laws.CopyOwn
import Derived.Laws.NewBlocks
namespace Go.Proofs.Ytifpcfhfglkbcaa
open Go.RowKit
set_option linter.unusedVariables false
set_option maxHeartbeats 1000000 in
theorem hS_8tt (f : Int) (p s o : Bool) (w : World) (h1 : (bits .and .i64 f 1 != 0) = true) (h2 : (bits .and .i64 f 64 != 0) = true) (h3 : (bits .and .i64 f 128 != 0) = s) (h4 : (bits .and .i64 f 2048 != 0) = o) (h5 : (bits .and .i64 f 4 != 0) = p) : Calls Try.prog 10 #[.int .i64 8, .int .i64 f] w fun e w' => e = .returned (.bool (hvB 4 true p true s o == true)) ∧ Below w.heap.size w w' := by
  go_enter Try.func10, Try.ntmps10
  go_wp2
  go_ret
  exact ⟨by cases p <;> cases s <;> cases o <;> rfl, (Below.refl _ _).alloc (Nat.le_refl _) _⟩
set_option maxHeartbeats 1000000 in
theorem hS_8tf (f : Int) (p s o : Bool) (w : World) (h1 : (bits .and .i64 f 1 != 0) = true) (h2 : (bits .and .i64 f 64 != 0) = false) (h3 : (bits .and .i64 f 128 != 0) = s) (h4 : (bits .and .i64 f 2048 != 0) = o) (h5 : (bits .and .i64 f 4 != 0) = p) : Calls Try.prog 10 #[.int .i64 8, .int .i64 f] w fun e w' => e = .returned (.bool (hvB 4 true p false s o == true)) ∧ Below w.heap.size w w' := by
  go_enter Try.func10, Try.ntmps10
  go_wp2
  go_ret
  exact ⟨by cases p <;> cases s <;> cases o <;> rfl, (Below.refl _ _).alloc (Nat.le_refl _) _⟩
set_option maxHeartbeats 1000000 in
theorem hS_8ft (f : Int) (p s o : Bool) (w : World) (h1 : (bits .and .i64 f 1 != 0) = false) (h2 : (bits .and .i64 f 64 != 0) = true) (h3 : (bits .and .i64 f 128 != 0) = s) (h4 : (bits .and .i64 f 2048 != 0) = o) (h5 : (bits .and .i64 f 4 != 0) = p) : Calls Try.prog 10 #[.int .i64 8, .int .i64 f] w fun e w' => e = .returned (.bool (hvB 4 false p true s o == true)) ∧ Below w.heap.size w w' := by
  go_enter Try.func10, Try.ntmps10
  go_wp2
  go_ret
  exact ⟨by cases p <;> cases s <;> cases o <;> rfl, (Below.refl _ _).alloc (Nat.le_refl _) _⟩
set_option maxHeartbeats 1000000 in
theorem hS_8ff (f : Int) (p s o : Bool) (w : World) (h1 : (bits .and .i64 f 1 != 0) = false) (h2 : (bits .and .i64 f 64 != 0) = false) (h3 : (bits .and .i64 f 128 != 0) = s) (h4 : (bits .and .i64 f 2048 != 0) = o) (h5 : (bits .and .i64 f 4 != 0) = p) : Calls Try.prog 10 #[.int .i64 8, .int .i64 f] w fun e w' => e = .returned (.bool (hvB 4 false p false s o == true)) ∧ Below w.heap.size w w' := by
  go_enter Try.func10, Try.ntmps10
  go_wp2
  go_ret
  exact ⟨by cases p <;> cases s <;> cases o <;> rfl, (Below.refl _ _).alloc (Nat.le_refl _) _⟩
set_option maxHeartbeats 1000000 in
theorem hS_9tt (f : Int) (p s o : Bool) (w : World) (h1 : (bits .and .i64 f 1 != 0) = true) (h2 : (bits .and .i64 f 64 != 0) = true) (h3 : (bits .and .i64 f 128 != 0) = s) (h4 : (bits .and .i64 f 2048 != 0) = o) (h5 : (bits .and .i64 f 4 != 0) = p) : Calls Try.prog 10 #[.int .i64 9, .int .i64 f] w fun e w' => e = .returned (.bool (hvB 4 true p true s o == false)) ∧ Below w.heap.size w w' := by
  go_enter Try.func10, Try.ntmps10
  go_wp2
  go_ret
  exact ⟨by cases p <;> cases s <;> cases o <;> rfl, (Below.refl _ _).alloc (Nat.le_refl _) _⟩
set_option maxHeartbeats 1000000 in
theorem hS_9tf (f : Int) (p s o : Bool) (w : World) (h1 : (bits .and .i64 f 1 != 0) = true) (h2 : (bits .and .i64 f 64 != 0) = false) (h3 : (bits .and .i64 f 128 != 0) = s) (h4 : (bits .and .i64 f 2048 != 0) = o) (h5 : (bits .and .i64 f 4 != 0) = p) : Calls Try.prog 10 #[.int .i64 9, .int .i64 f] w fun e w' => e = .returned (.bool (hvB 4 true p false s o == false)) ∧ Below w.heap.size w w' := by
  go_enter Try.func10, Try.ntmps10
  go_wp2
  go_ret
  exact ⟨by cases p <;> cases s <;> cases o <;> rfl, (Below.refl _ _).alloc (Nat.le_refl _) _⟩
set_option maxHeartbeats 1000000 in
theorem hS_9ft (f : Int) (p s o : Bool) (w : World) (h1 : (bits .and .i64 f 1 != 0) = false) (h2 : (bits .and .i64 f 64 != 0) = true) (h3 : (bits .and .i64 f 128 != 0) = s) (h4 : (bits .and .i64 f 2048 != 0) = o) (h5 : (bits .and .i64 f 4 != 0) = p) : Calls Try.prog 10 #[.int .i64 9, .int .i64 f] w fun e w' => e = .returned (.bool (hvB 4 false p true s o == false)) ∧ Below w.heap.size w w' := by
  go_enter Try.func10, Try.ntmps10
  go_wp2
  go_ret
  exact ⟨by cases p <;> cases s <;> cases o <;> rfl, (Below.refl _ _).alloc (Nat.le_refl _) _⟩
set_option maxHeartbeats 1000000 in
theorem hS_9ff (f : Int) (p s o : Bool) (w : World) (h1 : (bits .and .i64 f 1 != 0) = false) (h2 : (bits .and .i64 f 64 != 0) = false) (h3 : (bits .and .i64 f 128 != 0) = s) (h4 : (bits .and .i64 f 2048 != 0) = o) (h5 : (bits .and .i64 f 4 != 0) = p) : Calls Try.prog 10 #[.int .i64 9, .int .i64 f] w fun e w' => e = .returned (.bool (hvB 4 false p false s o == false)) ∧ Below w.heap.size w w' := by
  go_enter Try.func10, Try.ntmps10
  go_wp2
  go_ret
  exact ⟨by cases p <;> cases s <;> cases o <;> rfl, (Below.refl _ _).alloc (Nat.le_refl _) _⟩
set_option maxHeartbeats 1000000 in
theorem hS_10tt (f : Int) (p s o : Bool) (w : World) (h1 : (bits .and .i64 f 1 != 0) = true) (h2 : (bits .and .i64 f 64 != 0) = true) (h3 : (bits .and .i64 f 128 != 0) = s) (h4 : (bits .and .i64 f 2048 != 0) = o) (h5 : (bits .and .i64 f 4 != 0) = p) : Calls Try.prog 10 #[.int .i64 10, .int .i64 f] w fun e w' => e = .returned (.bool (hvB 5 true p true s o == true)) ∧ Below w.heap.size w w' := by
  go_enter Try.func10, Try.ntmps10
  go_wp2
  go_ret
  exact ⟨by cases p <;> cases s <;> cases o <;> rfl, (Below.refl _ _).alloc (Nat.le_refl _) _⟩
set_option maxHeartbeats 1000000 in
theorem hS_10tf (f : Int) (p s o : Bool) (w : World) (h1 : (bits .and .i64 f 1 != 0) = true) (h2 : (bits .and .i64 f 64 != 0) = false) (h3 : (bits .and .i64 f 128 != 0) = s) (h4 : (bits .and .i64 f 2048 != 0) = o) (h5 : (bits .and .i64 f 4 != 0) = p) : Calls Try.prog 10 #[.int .i64 10, .int .i64 f] w fun e w' => e = .returned (.bool (hvB 5 true p false s o == true)) ∧ Below w.heap.size w w' := by
  go_enter Try.func10, Try.ntmps10
  go_wp2
  go_ret
  exact ⟨by cases p <;> cases s <;> cases o <;> rfl, (Below.refl _ _).alloc (Nat.le_refl _) _⟩
set_option maxHeartbeats 1000000 in
theorem hS_10ft (f : Int) (p s o : Bool) (w : World) (h1 : (bits .and .i64 f 1 != 0) = false) (h2 : (bits .and .i64 f 64 != 0) = true) (h3 : (bits .and .i64 f 128 != 0) = s) (h4 : (bits .and .i64 f 2048 != 0) = o) (h5 : (bits .and .i64 f 4 != 0) = p) : Calls Try.prog 10 #[.int .i64 10, .int .i64 f] w fun e w' => e = .returned (.bool (hvB 5 false p true s o == true)) ∧ Below w.heap.size w w' := by
  go_enter Try.func10, Try.ntmps10
  go_wp2
  go_ret
  exact ⟨by cases p <;> cases s <;> cases o <;> rfl, (Below.refl _ _).alloc (Nat.le_refl _) _⟩
set_option maxHeartbeats 1000000 in
theorem hS_10ff (f : Int) (p s o : Bool) (w : World) (h1 : (bits .and .i64 f 1 != 0) = false) (h2 : (bits .and .i64 f 64 != 0) = false) (h3 : (bits .and .i64 f 128 != 0) = s) (h4 : (bits .and .i64 f 2048 != 0) = o) (h5 : (bits .and .i64 f 4 != 0) = p) : Calls Try.prog 10 #[.int .i64 10, .int .i64 f] w fun e w' => e = .returned (.bool (hvB 5 false p false s o == true)) ∧ Below w.heap.size w w' := by
  go_enter Try.func10, Try.ntmps10
  go_wp2
  go_ret
  exact ⟨by cases p <;> cases s <;> cases o <;> rfl, (Below.refl _ _).alloc (Nat.le_refl _) _⟩
set_option maxHeartbeats 1000000 in
theorem hS_11tt (f : Int) (p s o : Bool) (w : World) (h1 : (bits .and .i64 f 1 != 0) = true) (h2 : (bits .and .i64 f 64 != 0) = true) (h3 : (bits .and .i64 f 128 != 0) = s) (h4 : (bits .and .i64 f 2048 != 0) = o) (h5 : (bits .and .i64 f 4 != 0) = p) : Calls Try.prog 10 #[.int .i64 11, .int .i64 f] w fun e w' => e = .returned (.bool (hvB 5 true p true s o == false)) ∧ Below w.heap.size w w' := by
  go_enter Try.func10, Try.ntmps10
  go_wp2
  go_ret
  exact ⟨by cases p <;> cases s <;> cases o <;> rfl, (Below.refl _ _).alloc (Nat.le_refl _) _⟩
set_option maxHeartbeats 1000000 in
theorem hS_11tf (f : Int) (p s o : Bool) (w : World) (h1 : (bits .and .i64 f 1 != 0) = true) (h2 : (bits .and .i64 f 64 != 0) = false) (h3 : (bits .and .i64 f 128 != 0) = s) (h4 : (bits .and .i64 f 2048 != 0) = o) (h5 : (bits .and .i64 f 4 != 0) = p) : Calls Try.prog 10 #[.int .i64 11, .int .i64 f] w fun e w' => e = .returned (.bool (hvB 5 true p false s o == false)) ∧ Below w.heap.size w w' := by
  go_enter Try.func10, Try.ntmps10
  go_wp2
  go_ret
  exact ⟨by cases p <;> cases s <;> cases o <;> rfl, (Below.refl _ _).alloc (Nat.le_refl _) _⟩
set_option maxHeartbeats 1000000 in
theorem hS_11ft (f : Int) (p s o : Bool) (w : World) (h1 : (bits .and .i64 f 1 != 0) = false) (h2 : (bits .and .i64 f 64 != 0) = true) (h3 : (bits .and .i64 f 128 != 0) = s) (h4 : (bits .and .i64 f 2048 != 0) = o) (h5 : (bits .and .i64 f 4 != 0) = p) : Calls Try.prog 10 #[.int .i64 11, .int .i64 f] w fun e w' => e = .returned (.bool (hvB 5 false p true s o == false)) ∧ Below w.heap.size w w' := by
  go_enter Try.func10, Try.ntmps10
  go_wp2
  go_ret
  exact ⟨by cases p <;> cases s <;> cases o <;> rfl, (Below.refl _ _).alloc (Nat.le_refl _) _⟩
set_option maxHeartbeats 1000000 in
theorem hS_11ff (f : Int) (p s o : Bool) (w : World) (h1 : (bits .and .i64 f 1 != 0) = false) (h2 : (bits .and .i64 f 64 != 0) = false) (h3 : (bits .and .i64 f 128 != 0) = s) (h4 : (bits .and .i64 f 2048 != 0) = o) (h5 : (bits .and .i64 f 4 != 0) = p) : Calls Try.prog 10 #[.int .i64 11, .int .i64 f] w fun e w' => e = .returned (.bool (hvB 5 false p false s o == false)) ∧ Below w.heap.size w w' := by
  go_enter Try.func10, Try.ntmps10
  go_wp2
  go_ret
  exact ⟨by cases p <;> cases s <;> cases o <;> rfl, (Below.refl _ _).alloc (Nat.le_refl _) _⟩
set_option maxHeartbeats 1000000 in
theorem hS_12tt (f : Int) (p s o : Bool) (w : World) (h1 : (bits .and .i64 f 1 != 0) = true) (h2 : (bits .and .i64 f 64 != 0) = true) (h3 : (bits .and .i64 f 128 != 0) = s) (h4 : (bits .and .i64 f 2048 != 0) = o) (h5 : (bits .and .i64 f 4 != 0) = p) : Calls Try.prog 10 #[.int .i64 12, .int .i64 f] w fun e w' => e = .returned (.bool (hvB 6 true p true s o == true)) ∧ Below w.heap.size w w' := by
  go_enter Try.func10, Try.ntmps10
  go_wp2
  go_ret
  exact ⟨by cases p <;> cases s <;> cases o <;> rfl, (Below.refl _ _).alloc (Nat.le_refl _) _⟩
set_option maxHeartbeats 1000000 in
theorem hS_12tf (f : Int) (p s o : Bool) (w : World) (h1 : (bits .and .i64 f 1 != 0) = true) (h2 : (bits .and .i64 f 64 != 0) = false) (h3 : (bits .and .i64 f 128 != 0) = s) (h4 : (bits .and .i64 f 2048 != 0) = o) (h5 : (bits .and .i64 f 4 != 0) = p) : Calls Try.prog 10 #[.int .i64 12, .int .i64 f] w fun e w' => e = .returned (.bool (hvB 6 true p false s o == true)) ∧ Below w.heap.size w w' := by
  go_enter Try.func10, Try.ntmps10
  go_wp2
  go_ret
  exact ⟨by cases p <;> cases s <;> cases o <;> rfl, (Below.refl _ _).alloc (Nat.le_refl _) _⟩
set_option maxHeartbeats 1000000 in
theorem hS_12ft (f : Int) (p s o : Bool) (w : World) (h1 : (bits .and .i64 f 1 != 0) = false) (h2 : (bits .and .i64 f 64 != 0) = true) (h3 : (bits .and .i64 f 128 != 0) = s) (h4 : (bits .and .i64 f 2048 != 0) = o) (h5 : (bits .and .i64 f 4 != 0) = p) : Calls Try.prog 10 #[.int .i64 12, .int .i64 f] w fun e w' => e = .returned (.bool (hvB 6 false p true s o == true)) ∧ Below w.heap.size w w' := by
  go_enter Try.func10, Try.ntmps10
  go_wp2
  go_ret
  exact ⟨by cases p <;> cases s <;> cases o <;> rfl, (Below.refl _ _).alloc (Nat.le_refl _) _⟩
set_option maxHeartbeats 1000000 in
theorem hS_12ff (f : Int) (p s o : Bool) (w : World) (h1 : (bits .and .i64 f 1 != 0) = false) (h2 : (bits .and .i64 f 64 != 0) = false) (h3 : (bits .and .i64 f 128 != 0) = s) (h4 : (bits .and .i64 f 2048 != 0) = o) (h5 : (bits .and .i64 f 4 != 0) = p) : Calls Try.prog 10 #[.int .i64 12, .int .i64 f] w fun e w' => e = .returned (.bool (hvB 6 false p false s o == true)) ∧ Below w.heap.size w w' := by
  go_enter Try.func10, Try.ntmps10
  go_wp2
  go_ret
  exact ⟨by cases p <;> cases s <;> cases o <;> rfl, (Below.refl _ _).alloc (Nat.le_refl _) _⟩
set_option maxHeartbeats 1000000 in
theorem hS_13tt (f : Int) (p s o : Bool) (w : World) (h1 : (bits .and .i64 f 1 != 0) = true) (h2 : (bits .and .i64 f 64 != 0) = true) (h3 : (bits .and .i64 f 128 != 0) = s) (h4 : (bits .and .i64 f 2048 != 0) = o) (h5 : (bits .and .i64 f 4 != 0) = p) : Calls Try.prog 10 #[.int .i64 13, .int .i64 f] w fun e w' => e = .returned (.bool (hvB 6 true p true s o == false)) ∧ Below w.heap.size w w' := by
  go_enter Try.func10, Try.ntmps10
  go_wp2
  go_ret
  exact ⟨by cases p <;> cases s <;> cases o <;> rfl, (Below.refl _ _).alloc (Nat.le_refl _) _⟩
set_option maxHeartbeats 1000000 in
theorem hS_13tf (f : Int) (p s o : Bool) (w : World) (h1 : (bits .and .i64 f 1 != 0) = true) (h2 : (bits .and .i64 f 64 != 0) = false) (h3 : (bits .and .i64 f 128 != 0) = s) (h4 : (bits .and .i64 f 2048 != 0) = o) (h5 : (bits .and .i64 f 4 != 0) = p) : Calls Try.prog 10 #[.int .i64 13, .int .i64 f] w fun e w' => e = .returned (.bool (hvB 6 true p false s o == false)) ∧ Below w.heap.size w w' := by
  go_enter Try.func10, Try.ntmps10
  go_wp2
  go_ret
  exact ⟨by cases p <;> cases s <;> cases o <;> rfl, (Below.refl _ _).alloc (Nat.le_refl _) _⟩
set_option maxHeartbeats 1000000 in
theorem hS_13ft (f : Int) (p s o : Bool) (w : World) (h1 : (bits .and .i64 f 1 != 0) = false) (h2 : (bits .and .i64 f 64 != 0) = true) (h3 : (bits .and .i64 f 128 != 0) = s) (h4 : (bits .and .i64 f 2048 != 0) = o) (h5 : (bits .and .i64 f 4 != 0) = p) : Calls Try.prog 10 #[.int .i64 13, .int .i64 f] w fun e w' => e = .returned (.bool (hvB 6 false p true s o == false)) ∧ Below w.heap.size w w' := by
  go_enter Try.func10, Try.ntmps10
  go_wp2
  go_ret
  exact ⟨by cases p <;> cases s <;> cases o <;> rfl, (Below.refl _ _).alloc (Nat.le_refl _) _⟩
set_option maxHeartbeats 1000000 in
theorem hS_13ff (f : Int) (p s o : Bool) (w : World) (h1 : (bits .and .i64 f 1 != 0) = false) (h2 : (bits .and .i64 f 64 != 0) = false) (h3 : (bits .and .i64 f 128 != 0) = s) (h4 : (bits .and .i64 f 2048 != 0) = o) (h5 : (bits .and .i64 f 4 != 0) = p) : Calls Try.prog 10 #[.int .i64 13, .int .i64 f] w fun e w' => e = .returned (.bool (hvB 6 false p false s o == false)) ∧ Below w.heap.size w w' := by
  go_enter Try.func10, Try.ntmps10
  go_wp2
  go_ret
  exact ⟨by cases p <;> cases s <;> cases o <;> rfl, (Below.refl _ _).alloc (Nat.le_refl _) _⟩
set_option maxHeartbeats 1000000 in
theorem hS_14tt (f : Int) (p s o : Bool) (w : World) (h1 : (bits .and .i64 f 1 != 0) = true) (h2 : (bits .and .i64 f 64 != 0) = true) (h3 : (bits .and .i64 f 128 != 0) = s) (h4 : (bits .and .i64 f 2048 != 0) = o) (h5 : (bits .and .i64 f 4 != 0) = p) : Calls Try.prog 10 #[.int .i64 14, .int .i64 f] w fun e w' => e = .returned (.bool (hvB 7 true p true s o == true)) ∧ Below w.heap.size w w' := by
  go_enter Try.func10, Try.ntmps10
  go_wp2
  go_ret
  exact ⟨by cases p <;> cases s <;> cases o <;> rfl, (Below.refl _ _).alloc (Nat.le_refl _) _⟩
set_option maxHeartbeats 1000000 in
theorem hS_14tf (f : Int) (p s o : Bool) (w : World) (h1 : (bits .and .i64 f 1 != 0) = true) (h2 : (bits .and .i64 f 64 != 0) = false) (h3 : (bits .and .i64 f 128 != 0) = s) (h4 : (bits .and .i64 f 2048 != 0) = o) (h5 : (bits .and .i64 f 4 != 0) = p) : Calls Try.prog 10 #[.int .i64 14, .int .i64 f] w fun e w' => e = .returned (.bool (hvB 7 true p false s o == true)) ∧ Below w.heap.size w w' := by
  go_enter Try.func10, Try.ntmps10
  go_wp2
  go_ret
  exact ⟨by cases p <;> cases s <;> cases o <;> rfl, (Below.refl _ _).alloc (Nat.le_refl _) _⟩
set_option maxHeartbeats 1000000 in
theorem hS_14ft (f : Int) (p s o : Bool) (w : World) (h1 : (bits .and .i64 f 1 != 0) = false) (h2 : (bits .and .i64 f 64 != 0) = true) (h3 : (bits .and .i64 f 128 != 0) = s) (h4 : (bits .and .i64 f 2048 != 0) = o) (h5 : (bits .and .i64 f 4 != 0) = p) : Calls Try.prog 10 #[.int .i64 14, .int .i64 f] w fun e w' => e = .returned (.bool (hvB 7 false p true s o == true)) ∧ Below w.heap.size w w' := by
  go_enter Try.func10, Try.ntmps10
  go_wp2
  go_ret
  exact ⟨by cases p <;> cases s <;> cases o <;> rfl, (Below.refl _ _).alloc (Nat.le_refl _) _⟩
set_option maxHeartbeats 1000000 in
theorem hS_14ff (f : Int) (p s o : Bool) (w : World) (h1 : (bits .and .i64 f 1 != 0) = false) (h2 : (bits .and .i64 f 64 != 0) = false) (h3 : (bits .and .i64 f 128 != 0) = s) (h4 : (bits .and .i64 f 2048 != 0) = o) (h5 : (bits .and .i64 f 4 != 0) = p) : Calls Try.prog 10 #[.int .i64 14, .int .i64 f] w fun e w' => e = .returned (.bool (hvB 7 false p false s o == true)) ∧ Below w.heap.size w w' := by
  go_enter Try.func10, Try.ntmps10
  go_wp2
  go_ret
  exact ⟨by cases p <;> cases s <;> cases o <;> rfl, (Below.refl _ _).alloc (Nat.le_refl _) _⟩
set_option maxHeartbeats 1000000 in
theorem hS_15tt (f : Int) (p s o : Bool) (w : World) (h1 : (bits .and .i64 f 1 != 0) = true) (h2 : (bits .and .i64 f 64 != 0) = true) (h3 : (bits .and .i64 f 128 != 0) = s) (h4 : (bits .and .i64 f 2048 != 0) = o) (h5 : (bits .and .i64 f 4 != 0) = p) : Calls Try.prog 10 #[.int .i64 15, .int .i64 f] w fun e w' => e = .returned (.bool (hvB 7 true p true s o == false)) ∧ Below w.heap.size w w' := by
  go_enter Try.func10, Try.ntmps10
  go_wp2
  go_ret
  exact ⟨by cases p <;> cases s <;> cases o <;> rfl, (Below.refl _ _).alloc (Nat.le_refl _) _⟩
set_option maxHeartbeats 1000000 in
theorem hS_15tf (f : Int) (p s o : Bool) (w : World) (h1 : (bits .and .i64 f 1 != 0) = true) (h2 : (bits .and .i64 f 64 != 0) = false) (h3 : (bits .and .i64 f 128 != 0) = s) (h4 : (bits .and .i64 f 2048 != 0) = o) (h5 : (bits .and .i64 f 4 != 0) = p) : Calls Try.prog 10 #[.int .i64 15, .int .i64 f] w fun e w' => e = .returned (.bool (hvB 7 true p false s o == false)) ∧ Below w.heap.size w w' := by
  go_enter Try.func10, Try.ntmps10
  go_wp2
  go_ret
  exact ⟨by cases p <;> cases s <;> cases o <;> rfl, (Below.refl _ _).alloc (Nat.le_refl _) _⟩
set_option maxHeartbeats 1000000 in
theorem hS_15ft (f : Int) (p s o : Bool) (w : World) (h1 : (bits .and .i64 f 1 != 0) = false) (h2 : (bits .and .i64 f 64 != 0) = true) (h3 : (bits .and .i64 f 128 != 0) = s) (h4 : (bits .and .i64 f 2048 != 0) = o) (h5 : (bits .and .i64 f 4 != 0) = p) : Calls Try.prog 10 #[.int .i64 15, .int .i64 f] w fun e w' => e = .returned (.bool (hvB 7 false p true s o == false)) ∧ Below w.heap.size w w' := by
  go_enter Try.func10, Try.ntmps10
  go_wp2
  go_ret
  exact ⟨by cases p <;> cases s <;> cases o <;> rfl, (Below.refl _ _).alloc (Nat.le_refl _) _⟩
set_option maxHeartbeats 1000000 in
theorem hS_15ff (f : Int) (p s o : Bool) (w : World) (h1 : (bits .and .i64 f 1 != 0) = false) (h2 : (bits .and .i64 f 64 != 0) = false) (h3 : (bits .and .i64 f 128 != 0) = s) (h4 : (bits .and .i64 f 2048 != 0) = o) (h5 : (bits .and .i64 f 4 != 0) = p) : Calls Try.prog 10 #[.int .i64 15, .int .i64 f] w fun e w' => e = .returned (.bool (hvB 7 false p false s o == false)) ∧ Below w.heap.size w w' := by
  go_enter Try.func10, Try.ntmps10
  go_wp2
  go_ret
  exact ⟨by cases p <;> cases s <;> cases o <;> rfl, (Below.refl _ _).alloc (Nat.le_refl _) _⟩
end Go.Proofs.Ytifpcfhfglkbcaa
