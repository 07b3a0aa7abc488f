/-
  What impl.Holds does for each condition, as bits of the flags; condition: the flags are a sum of flags.
-/
import Derived.Test.YtifpcfhfglkbcaaGreatDoorWalkHolds
import Derived.Laws.Tables
import Derived.Laws.CopyOwn
import Derived.Laws.NewBlocks
namespace Go.Proofs.YtifpcfhfglkbcaaGreatDoor
open Go.RowKit
set_option linter.unusedVariables false
def holdRow (n : Nat) : Array Value := #[.func (.func 96) #[] #[.pointer (some ⟨n, 0, none⟩)], .func (.func 96) #[] #[.pointer (some ⟨n + 1, 0, none⟩)], .func (.func 96) #[] #[.pointer (some ⟨n + 1 + 1, 0, none⟩)], .func (.func 96) #[] #[.pointer (some ⟨n + 1 + 1 + 1, 0, none⟩)], .func (.func 96) #[] #[.pointer (some ⟨n + 1 + 1 + 1 + 1, 0, none⟩)], .func (.func 96) #[] #[.pointer (some ⟨n + 1 + 1 + 1 + 1 + 1, 0, none⟩)], .func (.func 36) #[] #[], .func (.func 37) #[] #[]]
theorem hold_at (w : World) (j : Nat) (m : Int) (hj : j < 6) (W : World) (g : Nat) (cs : Array Value) (hW : W.cell? ⟨w.heap.size + j, 0, none⟩ = some (.int .i64 m)) (hg : w.heap.size + 6 = g) : (W.setRow g cs).cell? ⟨w.heap.size + j, 0, none⟩ = some (.int .i64 m) := (cell_setRow_other W g cs ⟨w.heap.size + j, 0, none⟩ (by simp; omega)).trans hW
set_option maxHeartbeats 1000000 in
theorem hI_0 (f : Int) (r : Bool) (hr : (bits .and .i64 f 2048 != 0) = r) (w : World) (CF : Hid (∀ w, Calls Tryz.prog 34 #[.int .i64 f] w fun e w' => e = .returned (.bool true) ∧ w' = w)) : Calls Tryz.prog 11 #[.int .i64 0, .int .i64 f] w fun e w' => e = .returned (.tuple #[.bool (r), .int .i64 0]) ∧ Below w.heap.size w w' := by
  have CA := Lib.hid anyOfC
  have HG := Lib.hid (show (((((((w.alloc (.cells #[.int .i64 2048] 3)).alloc (.cells #[.int .i64 1] 3)).alloc (.cells #[.int .i64 64] 3)).alloc (.cells #[.int .i64 65] 3)).alloc (.cells #[.int .i64 128] 3)).alloc (.cells #[.int .i64 4] 3)).alloc (.cells #[.nilFunc, .nilFunc, .nilFunc, .nilFunc, .nilFunc, .nilFunc, .nilFunc, .nilFunc] 55)).heap[w.heap.size + 1 + 1 + 1 + 1 + 1 + 1]? = some (.cells #[.nilFunc, .nilFunc, .nilFunc, .nilFunc, .nilFunc, .nilFunc, .nilFunc, .nilFunc] 55 (0, 0)) from by simpa using heap_alloc_new ((((((w.alloc (.cells #[.int .i64 2048] 3)).alloc (.cells #[.int .i64 1] 3)).alloc (.cells #[.int .i64 64] 3)).alloc (.cells #[.int .i64 65] 3)).alloc (.cells #[.int .i64 128] 3)).alloc (.cells #[.int .i64 4] 3)) (.cells #[.nilFunc, .nilFunc, .nilFunc, .nilFunc, .nilFunc, .nilFunc, .nilFunc, .nilFunc] 55))
  have HC : ((((((((w.alloc (.cells #[.int .i64 2048] 3)).alloc (.cells #[.int .i64 1] 3)).alloc (.cells #[.int .i64 64] 3)).alloc (.cells #[.int .i64 65] 3)).alloc (.cells #[.int .i64 128] 3)).alloc (.cells #[.int .i64 4] 3)).alloc (.cells #[.nilFunc, .nilFunc, .nilFunc, .nilFunc, .nilFunc, .nilFunc, .nilFunc, .nilFunc] 55)).setRow (w.heap.size + 1 + 1 + 1 + 1 + 1 + 1) #[.func (.func 96) #[] #[.pointer (some ⟨w.heap.size, 0, none⟩)], .func (.func 96) #[] #[.pointer (some ⟨w.heap.size + 1, 0, none⟩)], .func (.func 96) #[] #[.pointer (some ⟨w.heap.size + 1 + 1, 0, none⟩)], .func (.func 96) #[] #[.pointer (some ⟨w.heap.size + 1 + 1 + 1, 0, none⟩)], .func (.func 96) #[] #[.pointer (some ⟨w.heap.size + 1 + 1 + 1 + 1, 0, none⟩)], .func (.func 96) #[] #[.pointer (some ⟨w.heap.size + 1 + 1 + 1 + 1 + 1, 0, none⟩)], .func (.func 36) #[] #[], .func (.func 37) #[] #[]]).cell? ⟨w.heap.size + 1 + 1 + 1 + 1 + 1 + 1, 0, none⟩ = some (.func (.func 96) #[] #[.pointer (some ⟨w.heap.size, 0, none⟩)]) := cell_setRow_same _ _ _ _ _ _ _ (by simpa using HG.out)
  have HB := Lib.hid (show Below w.heap.size w ((((((((w.alloc (.cells #[.int .i64 2048] 3)).alloc (.cells #[.int .i64 1] 3)).alloc (.cells #[.int .i64 64] 3)).alloc (.cells #[.int .i64 65] 3)).alloc (.cells #[.int .i64 128] 3)).alloc (.cells #[.int .i64 4] 3)).alloc (.cells #[.nilFunc, .nilFunc, .nilFunc, .nilFunc, .nilFunc, .nilFunc, .nilFunc, .nilFunc] 55)).setRow (w.heap.size + 1 + 1 + 1 + 1 + 1 + 1) #[.func (.func 96) #[] #[.pointer (some ⟨w.heap.size, 0, none⟩)], .func (.func 96) #[] #[.pointer (some ⟨w.heap.size + 1, 0, none⟩)], .func (.func 96) #[] #[.pointer (some ⟨w.heap.size + 1 + 1, 0, none⟩)], .func (.func 96) #[] #[.pointer (some ⟨w.heap.size + 1 + 1 + 1, 0, none⟩)], .func (.func 96) #[] #[.pointer (some ⟨w.heap.size + 1 + 1 + 1 + 1, 0, none⟩)], .func (.func 96) #[] #[.pointer (some ⟨w.heap.size + 1 + 1 + 1 + 1 + 1, 0, none⟩)], .func (.func 36) #[] #[], .func (.func 37) #[] #[]]) from below_setRow (((((((((Below.refl _ _).alloc (Nat.le_refl _) _).alloc (by simp) _).alloc (by simp; omega) _).alloc (by simp; omega) _).alloc (by simp; omega) _).alloc (by simp; omega) _).alloc (by simp; omega) _)) (by omega) _)
  have HX := Lib.hid (show ((((((((w.alloc (.cells #[.int .i64 2048] 3)).alloc (.cells #[.int .i64 1] 3)).alloc (.cells #[.int .i64 64] 3)).alloc (.cells #[.int .i64 65] 3)).alloc (.cells #[.int .i64 128] 3)).alloc (.cells #[.int .i64 4] 3)).alloc (.cells #[.nilFunc, .nilFunc, .nilFunc, .nilFunc, .nilFunc, .nilFunc, .nilFunc, .nilFunc] 55)).setRow (w.heap.size + 1 + 1 + 1 + 1 + 1 + 1) #[.func (.func 96) #[] #[.pointer (some ⟨w.heap.size, 0, none⟩)], .func (.func 96) #[] #[.pointer (some ⟨w.heap.size + 1, 0, none⟩)], .func (.func 96) #[] #[.pointer (some ⟨w.heap.size + 1 + 1, 0, none⟩)], .func (.func 96) #[] #[.pointer (some ⟨w.heap.size + 1 + 1 + 1, 0, none⟩)], .func (.func 96) #[] #[.pointer (some ⟨w.heap.size + 1 + 1 + 1 + 1, 0, none⟩)], .func (.func 96) #[] #[.pointer (some ⟨w.heap.size + 1 + 1 + 1 + 1 + 1, 0, none⟩)], .func (.func 36) #[] #[], .func (.func 37) #[] #[]]).cell? ⟨w.heap.size, 0, none⟩ = some (.int .i64 2048) from (cell_setRow_other _ _ _ _ (by simp; try omega)).trans (by go_simp))
  have CX := anyC 2048 f (w.heap.size) _ HX.out
  rw [hr] at CX
  replace CX := Lib.hid CX
  clear hr
  go_enter Tryz.func11, Tryz.ntmps11
  go_wp2_with fail
  refine (CF.out _).mono ?_
  rintro e w1 ⟨rfl, e1⟩
  obtain rfl := e1.symm
  go_wp2_with fail
  refine (CA.out _ _).mono ?_
  rintro e w2 ⟨rfl, rfl⟩
  go_wp2_with fail
  refine (CA.out _ _).mono ?_
  rintro e w2 ⟨rfl, rfl⟩
  go_wp2_with fail
  refine (CA.out _ _).mono ?_
  rintro e w2 ⟨rfl, rfl⟩
  go_wp2_with fail
  refine (CA.out _ _).mono ?_
  rintro e w2 ⟨rfl, rfl⟩
  go_wp2_with fail
  refine (CA.out _ _).mono ?_
  rintro e w2 ⟨rfl, rfl⟩
  go_wp2_with fail
  refine (CA.out _ _).mono ?_
  rintro e w2 ⟨rfl, rfl⟩
  go_wp2_with (refine wpList_store_row rfl 55 (.tmp 6) (.tmp 24) rfl (w.heap.size + 1 + 1 + 1 + 1 + 1 + 1) #[.func (.func 96) #[] #[.pointer (some ⟨w.heap.size, 0, none⟩)], .func (.func 96) #[] #[.pointer (some ⟨w.heap.size + 1, 0, none⟩)], .func (.func 96) #[] #[.pointer (some ⟨w.heap.size + 1 + 1, 0, none⟩)], .func (.func 96) #[] #[.pointer (some ⟨w.heap.size + 1 + 1 + 1, 0, none⟩)], .func (.func 96) #[] #[.pointer (some ⟨w.heap.size + 1 + 1 + 1 + 1, 0, none⟩)], .func (.func 96) #[] #[.pointer (some ⟨w.heap.size + 1 + 1 + 1 + 1 + 1, 0, none⟩)], .func (.func 36) #[] #[], .func (.func 37) #[] #[]] rfl rfl 55 _ HG.out (by kernel_rfl) rfl (by simp [Value.oneCell']) ?_; generalize hW9 : (((((((w.alloc (.cells #[.int .i64 2048] 3)).alloc (.cells #[.int .i64 1] 3)).alloc (.cells #[.int .i64 64] 3)).alloc (.cells #[.int .i64 65] 3)).alloc (.cells #[.int .i64 128] 3)).alloc (.cells #[.int .i64 4] 3)).alloc (.cells #[.nilFunc, .nilFunc, .nilFunc, .nilFunc, .nilFunc, .nilFunc, .nilFunc, .nilFunc] 55)).setRow (w.heap.size + 1 + 1 + 1 + 1 + 1 + 1) #[.func (.func 96) #[] #[.pointer (some ⟨w.heap.size, 0, none⟩)], .func (.func 96) #[] #[.pointer (some ⟨w.heap.size + 1, 0, none⟩)], .func (.func 96) #[] #[.pointer (some ⟨w.heap.size + 1 + 1, 0, none⟩)], .func (.func 96) #[] #[.pointer (some ⟨w.heap.size + 1 + 1 + 1, 0, none⟩)], .func (.func 96) #[] #[.pointer (some ⟨w.heap.size + 1 + 1 + 1 + 1, 0, none⟩)], .func (.func 96) #[] #[.pointer (some ⟨w.heap.size + 1 + 1 + 1 + 1 + 1, 0, none⟩)], .func (.func 36) #[] #[], .func (.func 37) #[] #[]] = W9 at *; clear hW9)
  refine CX.out.mono ?_
  rintro e w2 ⟨rfl, rfl⟩
  go_wp2
  go_ret2
  exact ⟨rfl, HB.out⟩
set_option maxHeartbeats 1000000 in
theorem hI_1 (f : Int) (r : Bool) (hr : (bits .and .i64 f 2048 != 0) = r) (w : World) (CF : Hid (∀ w, Calls Tryz.prog 34 #[.int .i64 f] w fun e w' => e = .returned (.bool true) ∧ w' = w)) : Calls Tryz.prog 11 #[.int .i64 1, .int .i64 f] w fun e w' => e = .returned (.tuple #[.bool (!r), .int .i64 0]) ∧ Below w.heap.size w w' := by
  have CA := Lib.hid anyOfC
  have HG := Lib.hid (show (((((((w.alloc (.cells #[.int .i64 2048] 3)).alloc (.cells #[.int .i64 1] 3)).alloc (.cells #[.int .i64 64] 3)).alloc (.cells #[.int .i64 65] 3)).alloc (.cells #[.int .i64 128] 3)).alloc (.cells #[.int .i64 4] 3)).alloc (.cells #[.nilFunc, .nilFunc, .nilFunc, .nilFunc, .nilFunc, .nilFunc, .nilFunc, .nilFunc] 55)).heap[w.heap.size + 1 + 1 + 1 + 1 + 1 + 1]? = some (.cells #[.nilFunc, .nilFunc, .nilFunc, .nilFunc, .nilFunc, .nilFunc, .nilFunc, .nilFunc] 55 (0, 0)) from by simpa using heap_alloc_new ((((((w.alloc (.cells #[.int .i64 2048] 3)).alloc (.cells #[.int .i64 1] 3)).alloc (.cells #[.int .i64 64] 3)).alloc (.cells #[.int .i64 65] 3)).alloc (.cells #[.int .i64 128] 3)).alloc (.cells #[.int .i64 4] 3)) (.cells #[.nilFunc, .nilFunc, .nilFunc, .nilFunc, .nilFunc, .nilFunc, .nilFunc, .nilFunc] 55))
  have HC : ((((((((w.alloc (.cells #[.int .i64 2048] 3)).alloc (.cells #[.int .i64 1] 3)).alloc (.cells #[.int .i64 64] 3)).alloc (.cells #[.int .i64 65] 3)).alloc (.cells #[.int .i64 128] 3)).alloc (.cells #[.int .i64 4] 3)).alloc (.cells #[.nilFunc, .nilFunc, .nilFunc, .nilFunc, .nilFunc, .nilFunc, .nilFunc, .nilFunc] 55)).setRow (w.heap.size + 1 + 1 + 1 + 1 + 1 + 1) #[.func (.func 96) #[] #[.pointer (some ⟨w.heap.size, 0, none⟩)], .func (.func 96) #[] #[.pointer (some ⟨w.heap.size + 1, 0, none⟩)], .func (.func 96) #[] #[.pointer (some ⟨w.heap.size + 1 + 1, 0, none⟩)], .func (.func 96) #[] #[.pointer (some ⟨w.heap.size + 1 + 1 + 1, 0, none⟩)], .func (.func 96) #[] #[.pointer (some ⟨w.heap.size + 1 + 1 + 1 + 1, 0, none⟩)], .func (.func 96) #[] #[.pointer (some ⟨w.heap.size + 1 + 1 + 1 + 1 + 1, 0, none⟩)], .func (.func 36) #[] #[], .func (.func 37) #[] #[]]).cell? ⟨w.heap.size + 1 + 1 + 1 + 1 + 1 + 1, 0, none⟩ = some (.func (.func 96) #[] #[.pointer (some ⟨w.heap.size, 0, none⟩)]) := cell_setRow_same _ _ _ _ _ _ _ (by simpa using HG.out)
  have HB := Lib.hid (show Below w.heap.size w ((((((((w.alloc (.cells #[.int .i64 2048] 3)).alloc (.cells #[.int .i64 1] 3)).alloc (.cells #[.int .i64 64] 3)).alloc (.cells #[.int .i64 65] 3)).alloc (.cells #[.int .i64 128] 3)).alloc (.cells #[.int .i64 4] 3)).alloc (.cells #[.nilFunc, .nilFunc, .nilFunc, .nilFunc, .nilFunc, .nilFunc, .nilFunc, .nilFunc] 55)).setRow (w.heap.size + 1 + 1 + 1 + 1 + 1 + 1) #[.func (.func 96) #[] #[.pointer (some ⟨w.heap.size, 0, none⟩)], .func (.func 96) #[] #[.pointer (some ⟨w.heap.size + 1, 0, none⟩)], .func (.func 96) #[] #[.pointer (some ⟨w.heap.size + 1 + 1, 0, none⟩)], .func (.func 96) #[] #[.pointer (some ⟨w.heap.size + 1 + 1 + 1, 0, none⟩)], .func (.func 96) #[] #[.pointer (some ⟨w.heap.size + 1 + 1 + 1 + 1, 0, none⟩)], .func (.func 96) #[] #[.pointer (some ⟨w.heap.size + 1 + 1 + 1 + 1 + 1, 0, none⟩)], .func (.func 36) #[] #[], .func (.func 37) #[] #[]]) from below_setRow (((((((((Below.refl _ _).alloc (Nat.le_refl _) _).alloc (by simp) _).alloc (by simp; omega) _).alloc (by simp; omega) _).alloc (by simp; omega) _).alloc (by simp; omega) _).alloc (by simp; omega) _)) (by omega) _)
  have HX := Lib.hid (show ((((((((w.alloc (.cells #[.int .i64 2048] 3)).alloc (.cells #[.int .i64 1] 3)).alloc (.cells #[.int .i64 64] 3)).alloc (.cells #[.int .i64 65] 3)).alloc (.cells #[.int .i64 128] 3)).alloc (.cells #[.int .i64 4] 3)).alloc (.cells #[.nilFunc, .nilFunc, .nilFunc, .nilFunc, .nilFunc, .nilFunc, .nilFunc, .nilFunc] 55)).setRow (w.heap.size + 1 + 1 + 1 + 1 + 1 + 1) #[.func (.func 96) #[] #[.pointer (some ⟨w.heap.size, 0, none⟩)], .func (.func 96) #[] #[.pointer (some ⟨w.heap.size + 1, 0, none⟩)], .func (.func 96) #[] #[.pointer (some ⟨w.heap.size + 1 + 1, 0, none⟩)], .func (.func 96) #[] #[.pointer (some ⟨w.heap.size + 1 + 1 + 1, 0, none⟩)], .func (.func 96) #[] #[.pointer (some ⟨w.heap.size + 1 + 1 + 1 + 1, 0, none⟩)], .func (.func 96) #[] #[.pointer (some ⟨w.heap.size + 1 + 1 + 1 + 1 + 1, 0, none⟩)], .func (.func 36) #[] #[], .func (.func 37) #[] #[]]).cell? ⟨w.heap.size, 0, none⟩ = some (.int .i64 2048) from (cell_setRow_other _ _ _ _ (by simp; try omega)).trans (by go_simp))
  have CX := anyC 2048 f (w.heap.size) _ HX.out
  rw [hr] at CX
  replace CX := Lib.hid CX
  clear hr
  go_enter Tryz.func11, Tryz.ntmps11
  go_wp2_with fail
  refine (CF.out _).mono ?_
  rintro e w1 ⟨rfl, e1⟩
  obtain rfl := e1.symm
  go_wp2_with fail
  refine (CA.out _ _).mono ?_
  rintro e w2 ⟨rfl, rfl⟩
  go_wp2_with fail
  refine (CA.out _ _).mono ?_
  rintro e w2 ⟨rfl, rfl⟩
  go_wp2_with fail
  refine (CA.out _ _).mono ?_
  rintro e w2 ⟨rfl, rfl⟩
  go_wp2_with fail
  refine (CA.out _ _).mono ?_
  rintro e w2 ⟨rfl, rfl⟩
  go_wp2_with fail
  refine (CA.out _ _).mono ?_
  rintro e w2 ⟨rfl, rfl⟩
  go_wp2_with fail
  refine (CA.out _ _).mono ?_
  rintro e w2 ⟨rfl, rfl⟩
  go_wp2_with (refine wpList_store_row rfl 55 (.tmp 6) (.tmp 24) rfl (w.heap.size + 1 + 1 + 1 + 1 + 1 + 1) #[.func (.func 96) #[] #[.pointer (some ⟨w.heap.size, 0, none⟩)], .func (.func 96) #[] #[.pointer (some ⟨w.heap.size + 1, 0, none⟩)], .func (.func 96) #[] #[.pointer (some ⟨w.heap.size + 1 + 1, 0, none⟩)], .func (.func 96) #[] #[.pointer (some ⟨w.heap.size + 1 + 1 + 1, 0, none⟩)], .func (.func 96) #[] #[.pointer (some ⟨w.heap.size + 1 + 1 + 1 + 1, 0, none⟩)], .func (.func 96) #[] #[.pointer (some ⟨w.heap.size + 1 + 1 + 1 + 1 + 1, 0, none⟩)], .func (.func 36) #[] #[], .func (.func 37) #[] #[]] rfl rfl 55 _ HG.out (by kernel_rfl) rfl (by simp [Value.oneCell']) ?_; generalize hW9 : (((((((w.alloc (.cells #[.int .i64 2048] 3)).alloc (.cells #[.int .i64 1] 3)).alloc (.cells #[.int .i64 64] 3)).alloc (.cells #[.int .i64 65] 3)).alloc (.cells #[.int .i64 128] 3)).alloc (.cells #[.int .i64 4] 3)).alloc (.cells #[.nilFunc, .nilFunc, .nilFunc, .nilFunc, .nilFunc, .nilFunc, .nilFunc, .nilFunc] 55)).setRow (w.heap.size + 1 + 1 + 1 + 1 + 1 + 1) #[.func (.func 96) #[] #[.pointer (some ⟨w.heap.size, 0, none⟩)], .func (.func 96) #[] #[.pointer (some ⟨w.heap.size + 1, 0, none⟩)], .func (.func 96) #[] #[.pointer (some ⟨w.heap.size + 1 + 1, 0, none⟩)], .func (.func 96) #[] #[.pointer (some ⟨w.heap.size + 1 + 1 + 1, 0, none⟩)], .func (.func 96) #[] #[.pointer (some ⟨w.heap.size + 1 + 1 + 1 + 1, 0, none⟩)], .func (.func 96) #[] #[.pointer (some ⟨w.heap.size + 1 + 1 + 1 + 1 + 1, 0, none⟩)], .func (.func 36) #[] #[], .func (.func 37) #[] #[]] = W9 at *; clear hW9)
  refine CX.out.mono ?_
  rintro e w2 ⟨rfl, rfl⟩
  go_wp2
  go_ret2
  exact ⟨rfl, HB.out⟩
set_option maxHeartbeats 1000000 in
theorem hI_2 (f : Int) (r : Bool) (hr : (bits .and .i64 f 1 != 0) = r) (w : World) (CF : Hid (∀ w, Calls Tryz.prog 34 #[.int .i64 f] w fun e w' => e = .returned (.bool true) ∧ w' = w)) : Calls Tryz.prog 11 #[.int .i64 2, .int .i64 f] w fun e w' => e = .returned (.tuple #[.bool (r), .int .i64 0]) ∧ Below w.heap.size w w' := by
  have CA := Lib.hid anyOfC
  have HG := Lib.hid (show (((((((w.alloc (.cells #[.int .i64 2048] 3)).alloc (.cells #[.int .i64 1] 3)).alloc (.cells #[.int .i64 64] 3)).alloc (.cells #[.int .i64 65] 3)).alloc (.cells #[.int .i64 128] 3)).alloc (.cells #[.int .i64 4] 3)).alloc (.cells #[.nilFunc, .nilFunc, .nilFunc, .nilFunc, .nilFunc, .nilFunc, .nilFunc, .nilFunc] 55)).heap[w.heap.size + 1 + 1 + 1 + 1 + 1 + 1]? = some (.cells #[.nilFunc, .nilFunc, .nilFunc, .nilFunc, .nilFunc, .nilFunc, .nilFunc, .nilFunc] 55 (0, 0)) from by simpa using heap_alloc_new ((((((w.alloc (.cells #[.int .i64 2048] 3)).alloc (.cells #[.int .i64 1] 3)).alloc (.cells #[.int .i64 64] 3)).alloc (.cells #[.int .i64 65] 3)).alloc (.cells #[.int .i64 128] 3)).alloc (.cells #[.int .i64 4] 3)) (.cells #[.nilFunc, .nilFunc, .nilFunc, .nilFunc, .nilFunc, .nilFunc, .nilFunc, .nilFunc] 55))
  have HC : ((((((((w.alloc (.cells #[.int .i64 2048] 3)).alloc (.cells #[.int .i64 1] 3)).alloc (.cells #[.int .i64 64] 3)).alloc (.cells #[.int .i64 65] 3)).alloc (.cells #[.int .i64 128] 3)).alloc (.cells #[.int .i64 4] 3)).alloc (.cells #[.nilFunc, .nilFunc, .nilFunc, .nilFunc, .nilFunc, .nilFunc, .nilFunc, .nilFunc] 55)).setRow (w.heap.size + 1 + 1 + 1 + 1 + 1 + 1) #[.func (.func 96) #[] #[.pointer (some ⟨w.heap.size, 0, none⟩)], .func (.func 96) #[] #[.pointer (some ⟨w.heap.size + 1, 0, none⟩)], .func (.func 96) #[] #[.pointer (some ⟨w.heap.size + 1 + 1, 0, none⟩)], .func (.func 96) #[] #[.pointer (some ⟨w.heap.size + 1 + 1 + 1, 0, none⟩)], .func (.func 96) #[] #[.pointer (some ⟨w.heap.size + 1 + 1 + 1 + 1, 0, none⟩)], .func (.func 96) #[] #[.pointer (some ⟨w.heap.size + 1 + 1 + 1 + 1 + 1, 0, none⟩)], .func (.func 36) #[] #[], .func (.func 37) #[] #[]]).cell? ⟨w.heap.size + 1 + 1 + 1 + 1 + 1 + 1, 1, none⟩ = some (.func (.func 96) #[] #[.pointer (some ⟨w.heap.size + 1, 0, none⟩)]) := cell_setRow_same _ _ _ _ _ _ _ (by simpa using HG.out)
  have HB := Lib.hid (show Below w.heap.size w ((((((((w.alloc (.cells #[.int .i64 2048] 3)).alloc (.cells #[.int .i64 1] 3)).alloc (.cells #[.int .i64 64] 3)).alloc (.cells #[.int .i64 65] 3)).alloc (.cells #[.int .i64 128] 3)).alloc (.cells #[.int .i64 4] 3)).alloc (.cells #[.nilFunc, .nilFunc, .nilFunc, .nilFunc, .nilFunc, .nilFunc, .nilFunc, .nilFunc] 55)).setRow (w.heap.size + 1 + 1 + 1 + 1 + 1 + 1) #[.func (.func 96) #[] #[.pointer (some ⟨w.heap.size, 0, none⟩)], .func (.func 96) #[] #[.pointer (some ⟨w.heap.size + 1, 0, none⟩)], .func (.func 96) #[] #[.pointer (some ⟨w.heap.size + 1 + 1, 0, none⟩)], .func (.func 96) #[] #[.pointer (some ⟨w.heap.size + 1 + 1 + 1, 0, none⟩)], .func (.func 96) #[] #[.pointer (some ⟨w.heap.size + 1 + 1 + 1 + 1, 0, none⟩)], .func (.func 96) #[] #[.pointer (some ⟨w.heap.size + 1 + 1 + 1 + 1 + 1, 0, none⟩)], .func (.func 36) #[] #[], .func (.func 37) #[] #[]]) from below_setRow (((((((((Below.refl _ _).alloc (Nat.le_refl _) _).alloc (by simp) _).alloc (by simp; omega) _).alloc (by simp; omega) _).alloc (by simp; omega) _).alloc (by simp; omega) _).alloc (by simp; omega) _)) (by omega) _)
  have HX := Lib.hid (show ((((((((w.alloc (.cells #[.int .i64 2048] 3)).alloc (.cells #[.int .i64 1] 3)).alloc (.cells #[.int .i64 64] 3)).alloc (.cells #[.int .i64 65] 3)).alloc (.cells #[.int .i64 128] 3)).alloc (.cells #[.int .i64 4] 3)).alloc (.cells #[.nilFunc, .nilFunc, .nilFunc, .nilFunc, .nilFunc, .nilFunc, .nilFunc, .nilFunc] 55)).setRow (w.heap.size + 1 + 1 + 1 + 1 + 1 + 1) #[.func (.func 96) #[] #[.pointer (some ⟨w.heap.size, 0, none⟩)], .func (.func 96) #[] #[.pointer (some ⟨w.heap.size + 1, 0, none⟩)], .func (.func 96) #[] #[.pointer (some ⟨w.heap.size + 1 + 1, 0, none⟩)], .func (.func 96) #[] #[.pointer (some ⟨w.heap.size + 1 + 1 + 1, 0, none⟩)], .func (.func 96) #[] #[.pointer (some ⟨w.heap.size + 1 + 1 + 1 + 1, 0, none⟩)], .func (.func 96) #[] #[.pointer (some ⟨w.heap.size + 1 + 1 + 1 + 1 + 1, 0, none⟩)], .func (.func 36) #[] #[], .func (.func 37) #[] #[]]).cell? ⟨w.heap.size + 1, 0, none⟩ = some (.int .i64 1) from (cell_setRow_other _ _ _ _ (by simp; try omega)).trans (by go_simp))
  have CX := anyC 1 f (w.heap.size + 1) _ HX.out
  rw [hr] at CX
  replace CX := Lib.hid CX
  clear hr
  go_enter Tryz.func11, Tryz.ntmps11
  go_wp2_with fail
  refine (CF.out _).mono ?_
  rintro e w1 ⟨rfl, e1⟩
  obtain rfl := e1.symm
  go_wp2_with fail
  refine (CA.out _ _).mono ?_
  rintro e w2 ⟨rfl, rfl⟩
  go_wp2_with fail
  refine (CA.out _ _).mono ?_
  rintro e w2 ⟨rfl, rfl⟩
  go_wp2_with fail
  refine (CA.out _ _).mono ?_
  rintro e w2 ⟨rfl, rfl⟩
  go_wp2_with fail
  refine (CA.out _ _).mono ?_
  rintro e w2 ⟨rfl, rfl⟩
  go_wp2_with fail
  refine (CA.out _ _).mono ?_
  rintro e w2 ⟨rfl, rfl⟩
  go_wp2_with fail
  refine (CA.out _ _).mono ?_
  rintro e w2 ⟨rfl, rfl⟩
  go_wp2_with (refine wpList_store_row rfl 55 (.tmp 6) (.tmp 24) rfl (w.heap.size + 1 + 1 + 1 + 1 + 1 + 1) #[.func (.func 96) #[] #[.pointer (some ⟨w.heap.size, 0, none⟩)], .func (.func 96) #[] #[.pointer (some ⟨w.heap.size + 1, 0, none⟩)], .func (.func 96) #[] #[.pointer (some ⟨w.heap.size + 1 + 1, 0, none⟩)], .func (.func 96) #[] #[.pointer (some ⟨w.heap.size + 1 + 1 + 1, 0, none⟩)], .func (.func 96) #[] #[.pointer (some ⟨w.heap.size + 1 + 1 + 1 + 1, 0, none⟩)], .func (.func 96) #[] #[.pointer (some ⟨w.heap.size + 1 + 1 + 1 + 1 + 1, 0, none⟩)], .func (.func 36) #[] #[], .func (.func 37) #[] #[]] rfl rfl 55 _ HG.out (by kernel_rfl) rfl (by simp [Value.oneCell']) ?_; generalize hW9 : (((((((w.alloc (.cells #[.int .i64 2048] 3)).alloc (.cells #[.int .i64 1] 3)).alloc (.cells #[.int .i64 64] 3)).alloc (.cells #[.int .i64 65] 3)).alloc (.cells #[.int .i64 128] 3)).alloc (.cells #[.int .i64 4] 3)).alloc (.cells #[.nilFunc, .nilFunc, .nilFunc, .nilFunc, .nilFunc, .nilFunc, .nilFunc, .nilFunc] 55)).setRow (w.heap.size + 1 + 1 + 1 + 1 + 1 + 1) #[.func (.func 96) #[] #[.pointer (some ⟨w.heap.size, 0, none⟩)], .func (.func 96) #[] #[.pointer (some ⟨w.heap.size + 1, 0, none⟩)], .func (.func 96) #[] #[.pointer (some ⟨w.heap.size + 1 + 1, 0, none⟩)], .func (.func 96) #[] #[.pointer (some ⟨w.heap.size + 1 + 1 + 1, 0, none⟩)], .func (.func 96) #[] #[.pointer (some ⟨w.heap.size + 1 + 1 + 1 + 1, 0, none⟩)], .func (.func 96) #[] #[.pointer (some ⟨w.heap.size + 1 + 1 + 1 + 1 + 1, 0, none⟩)], .func (.func 36) #[] #[], .func (.func 37) #[] #[]] = W9 at *; clear hW9)
  refine CX.out.mono ?_
  rintro e w2 ⟨rfl, rfl⟩
  go_wp2
  go_ret2
  exact ⟨rfl, HB.out⟩
set_option maxHeartbeats 1000000 in
theorem hI_3 (f : Int) (r : Bool) (hr : (bits .and .i64 f 1 != 0) = r) (w : World) (CF : Hid (∀ w, Calls Tryz.prog 34 #[.int .i64 f] w fun e w' => e = .returned (.bool true) ∧ w' = w)) : Calls Tryz.prog 11 #[.int .i64 3, .int .i64 f] w fun e w' => e = .returned (.tuple #[.bool (!r), .int .i64 0]) ∧ Below w.heap.size w w' := by
  have CA := Lib.hid anyOfC
  have HG := Lib.hid (show (((((((w.alloc (.cells #[.int .i64 2048] 3)).alloc (.cells #[.int .i64 1] 3)).alloc (.cells #[.int .i64 64] 3)).alloc (.cells #[.int .i64 65] 3)).alloc (.cells #[.int .i64 128] 3)).alloc (.cells #[.int .i64 4] 3)).alloc (.cells #[.nilFunc, .nilFunc, .nilFunc, .nilFunc, .nilFunc, .nilFunc, .nilFunc, .nilFunc] 55)).heap[w.heap.size + 1 + 1 + 1 + 1 + 1 + 1]? = some (.cells #[.nilFunc, .nilFunc, .nilFunc, .nilFunc, .nilFunc, .nilFunc, .nilFunc, .nilFunc] 55 (0, 0)) from by simpa using heap_alloc_new ((((((w.alloc (.cells #[.int .i64 2048] 3)).alloc (.cells #[.int .i64 1] 3)).alloc (.cells #[.int .i64 64] 3)).alloc (.cells #[.int .i64 65] 3)).alloc (.cells #[.int .i64 128] 3)).alloc (.cells #[.int .i64 4] 3)) (.cells #[.nilFunc, .nilFunc, .nilFunc, .nilFunc, .nilFunc, .nilFunc, .nilFunc, .nilFunc] 55))
  have HC : ((((((((w.alloc (.cells #[.int .i64 2048] 3)).alloc (.cells #[.int .i64 1] 3)).alloc (.cells #[.int .i64 64] 3)).alloc (.cells #[.int .i64 65] 3)).alloc (.cells #[.int .i64 128] 3)).alloc (.cells #[.int .i64 4] 3)).alloc (.cells #[.nilFunc, .nilFunc, .nilFunc, .nilFunc, .nilFunc, .nilFunc, .nilFunc, .nilFunc] 55)).setRow (w.heap.size + 1 + 1 + 1 + 1 + 1 + 1) #[.func (.func 96) #[] #[.pointer (some ⟨w.heap.size, 0, none⟩)], .func (.func 96) #[] #[.pointer (some ⟨w.heap.size + 1, 0, none⟩)], .func (.func 96) #[] #[.pointer (some ⟨w.heap.size + 1 + 1, 0, none⟩)], .func (.func 96) #[] #[.pointer (some ⟨w.heap.size + 1 + 1 + 1, 0, none⟩)], .func (.func 96) #[] #[.pointer (some ⟨w.heap.size + 1 + 1 + 1 + 1, 0, none⟩)], .func (.func 96) #[] #[.pointer (some ⟨w.heap.size + 1 + 1 + 1 + 1 + 1, 0, none⟩)], .func (.func 36) #[] #[], .func (.func 37) #[] #[]]).cell? ⟨w.heap.size + 1 + 1 + 1 + 1 + 1 + 1, 1, none⟩ = some (.func (.func 96) #[] #[.pointer (some ⟨w.heap.size + 1, 0, none⟩)]) := cell_setRow_same _ _ _ _ _ _ _ (by simpa using HG.out)
  have HB := Lib.hid (show Below w.heap.size w ((((((((w.alloc (.cells #[.int .i64 2048] 3)).alloc (.cells #[.int .i64 1] 3)).alloc (.cells #[.int .i64 64] 3)).alloc (.cells #[.int .i64 65] 3)).alloc (.cells #[.int .i64 128] 3)).alloc (.cells #[.int .i64 4] 3)).alloc (.cells #[.nilFunc, .nilFunc, .nilFunc, .nilFunc, .nilFunc, .nilFunc, .nilFunc, .nilFunc] 55)).setRow (w.heap.size + 1 + 1 + 1 + 1 + 1 + 1) #[.func (.func 96) #[] #[.pointer (some ⟨w.heap.size, 0, none⟩)], .func (.func 96) #[] #[.pointer (some ⟨w.heap.size + 1, 0, none⟩)], .func (.func 96) #[] #[.pointer (some ⟨w.heap.size + 1 + 1, 0, none⟩)], .func (.func 96) #[] #[.pointer (some ⟨w.heap.size + 1 + 1 + 1, 0, none⟩)], .func (.func 96) #[] #[.pointer (some ⟨w.heap.size + 1 + 1 + 1 + 1, 0, none⟩)], .func (.func 96) #[] #[.pointer (some ⟨w.heap.size + 1 + 1 + 1 + 1 + 1, 0, none⟩)], .func (.func 36) #[] #[], .func (.func 37) #[] #[]]) from below_setRow (((((((((Below.refl _ _).alloc (Nat.le_refl _) _).alloc (by simp) _).alloc (by simp; omega) _).alloc (by simp; omega) _).alloc (by simp; omega) _).alloc (by simp; omega) _).alloc (by simp; omega) _)) (by omega) _)
  have HX := Lib.hid (show ((((((((w.alloc (.cells #[.int .i64 2048] 3)).alloc (.cells #[.int .i64 1] 3)).alloc (.cells #[.int .i64 64] 3)).alloc (.cells #[.int .i64 65] 3)).alloc (.cells #[.int .i64 128] 3)).alloc (.cells #[.int .i64 4] 3)).alloc (.cells #[.nilFunc, .nilFunc, .nilFunc, .nilFunc, .nilFunc, .nilFunc, .nilFunc, .nilFunc] 55)).setRow (w.heap.size + 1 + 1 + 1 + 1 + 1 + 1) #[.func (.func 96) #[] #[.pointer (some ⟨w.heap.size, 0, none⟩)], .func (.func 96) #[] #[.pointer (some ⟨w.heap.size + 1, 0, none⟩)], .func (.func 96) #[] #[.pointer (some ⟨w.heap.size + 1 + 1, 0, none⟩)], .func (.func 96) #[] #[.pointer (some ⟨w.heap.size + 1 + 1 + 1, 0, none⟩)], .func (.func 96) #[] #[.pointer (some ⟨w.heap.size + 1 + 1 + 1 + 1, 0, none⟩)], .func (.func 96) #[] #[.pointer (some ⟨w.heap.size + 1 + 1 + 1 + 1 + 1, 0, none⟩)], .func (.func 36) #[] #[], .func (.func 37) #[] #[]]).cell? ⟨w.heap.size + 1, 0, none⟩ = some (.int .i64 1) from (cell_setRow_other _ _ _ _ (by simp; try omega)).trans (by go_simp))
  have CX := anyC 1 f (w.heap.size + 1) _ HX.out
  rw [hr] at CX
  replace CX := Lib.hid CX
  clear hr
  go_enter Tryz.func11, Tryz.ntmps11
  go_wp2_with fail
  refine (CF.out _).mono ?_
  rintro e w1 ⟨rfl, e1⟩
  obtain rfl := e1.symm
  go_wp2_with fail
  refine (CA.out _ _).mono ?_
  rintro e w2 ⟨rfl, rfl⟩
  go_wp2_with fail
  refine (CA.out _ _).mono ?_
  rintro e w2 ⟨rfl, rfl⟩
  go_wp2_with fail
  refine (CA.out _ _).mono ?_
  rintro e w2 ⟨rfl, rfl⟩
  go_wp2_with fail
  refine (CA.out _ _).mono ?_
  rintro e w2 ⟨rfl, rfl⟩
  go_wp2_with fail
  refine (CA.out _ _).mono ?_
  rintro e w2 ⟨rfl, rfl⟩
  go_wp2_with fail
  refine (CA.out _ _).mono ?_
  rintro e w2 ⟨rfl, rfl⟩
  go_wp2_with (refine wpList_store_row rfl 55 (.tmp 6) (.tmp 24) rfl (w.heap.size + 1 + 1 + 1 + 1 + 1 + 1) #[.func (.func 96) #[] #[.pointer (some ⟨w.heap.size, 0, none⟩)], .func (.func 96) #[] #[.pointer (some ⟨w.heap.size + 1, 0, none⟩)], .func (.func 96) #[] #[.pointer (some ⟨w.heap.size + 1 + 1, 0, none⟩)], .func (.func 96) #[] #[.pointer (some ⟨w.heap.size + 1 + 1 + 1, 0, none⟩)], .func (.func 96) #[] #[.pointer (some ⟨w.heap.size + 1 + 1 + 1 + 1, 0, none⟩)], .func (.func 96) #[] #[.pointer (some ⟨w.heap.size + 1 + 1 + 1 + 1 + 1, 0, none⟩)], .func (.func 36) #[] #[], .func (.func 37) #[] #[]] rfl rfl 55 _ HG.out (by kernel_rfl) rfl (by simp [Value.oneCell']) ?_; generalize hW9 : (((((((w.alloc (.cells #[.int .i64 2048] 3)).alloc (.cells #[.int .i64 1] 3)).alloc (.cells #[.int .i64 64] 3)).alloc (.cells #[.int .i64 65] 3)).alloc (.cells #[.int .i64 128] 3)).alloc (.cells #[.int .i64 4] 3)).alloc (.cells #[.nilFunc, .nilFunc, .nilFunc, .nilFunc, .nilFunc, .nilFunc, .nilFunc, .nilFunc] 55)).setRow (w.heap.size + 1 + 1 + 1 + 1 + 1 + 1) #[.func (.func 96) #[] #[.pointer (some ⟨w.heap.size, 0, none⟩)], .func (.func 96) #[] #[.pointer (some ⟨w.heap.size + 1, 0, none⟩)], .func (.func 96) #[] #[.pointer (some ⟨w.heap.size + 1 + 1, 0, none⟩)], .func (.func 96) #[] #[.pointer (some ⟨w.heap.size + 1 + 1 + 1, 0, none⟩)], .func (.func 96) #[] #[.pointer (some ⟨w.heap.size + 1 + 1 + 1 + 1, 0, none⟩)], .func (.func 96) #[] #[.pointer (some ⟨w.heap.size + 1 + 1 + 1 + 1 + 1, 0, none⟩)], .func (.func 36) #[] #[], .func (.func 37) #[] #[]] = W9 at *; clear hW9)
  refine CX.out.mono ?_
  rintro e w2 ⟨rfl, rfl⟩
  go_wp2
  go_ret2
  exact ⟨rfl, HB.out⟩
set_option maxHeartbeats 1000000 in
theorem hI_4 (f : Int) (r : Bool) (hr : (bits .and .i64 f 64 != 0) = r) (w : World) (CF : Hid (∀ w, Calls Tryz.prog 34 #[.int .i64 f] w fun e w' => e = .returned (.bool true) ∧ w' = w)) : Calls Tryz.prog 11 #[.int .i64 4, .int .i64 f] w fun e w' => e = .returned (.tuple #[.bool (r), .int .i64 0]) ∧ Below w.heap.size w w' := by
  have CA := Lib.hid anyOfC
  have HG := Lib.hid (show (((((((w.alloc (.cells #[.int .i64 2048] 3)).alloc (.cells #[.int .i64 1] 3)).alloc (.cells #[.int .i64 64] 3)).alloc (.cells #[.int .i64 65] 3)).alloc (.cells #[.int .i64 128] 3)).alloc (.cells #[.int .i64 4] 3)).alloc (.cells #[.nilFunc, .nilFunc, .nilFunc, .nilFunc, .nilFunc, .nilFunc, .nilFunc, .nilFunc] 55)).heap[w.heap.size + 1 + 1 + 1 + 1 + 1 + 1]? = some (.cells #[.nilFunc, .nilFunc, .nilFunc, .nilFunc, .nilFunc, .nilFunc, .nilFunc, .nilFunc] 55 (0, 0)) from by simpa using heap_alloc_new ((((((w.alloc (.cells #[.int .i64 2048] 3)).alloc (.cells #[.int .i64 1] 3)).alloc (.cells #[.int .i64 64] 3)).alloc (.cells #[.int .i64 65] 3)).alloc (.cells #[.int .i64 128] 3)).alloc (.cells #[.int .i64 4] 3)) (.cells #[.nilFunc, .nilFunc, .nilFunc, .nilFunc, .nilFunc, .nilFunc, .nilFunc, .nilFunc] 55))
  have HC : ((((((((w.alloc (.cells #[.int .i64 2048] 3)).alloc (.cells #[.int .i64 1] 3)).alloc (.cells #[.int .i64 64] 3)).alloc (.cells #[.int .i64 65] 3)).alloc (.cells #[.int .i64 128] 3)).alloc (.cells #[.int .i64 4] 3)).alloc (.cells #[.nilFunc, .nilFunc, .nilFunc, .nilFunc, .nilFunc, .nilFunc, .nilFunc, .nilFunc] 55)).setRow (w.heap.size + 1 + 1 + 1 + 1 + 1 + 1) #[.func (.func 96) #[] #[.pointer (some ⟨w.heap.size, 0, none⟩)], .func (.func 96) #[] #[.pointer (some ⟨w.heap.size + 1, 0, none⟩)], .func (.func 96) #[] #[.pointer (some ⟨w.heap.size + 1 + 1, 0, none⟩)], .func (.func 96) #[] #[.pointer (some ⟨w.heap.size + 1 + 1 + 1, 0, none⟩)], .func (.func 96) #[] #[.pointer (some ⟨w.heap.size + 1 + 1 + 1 + 1, 0, none⟩)], .func (.func 96) #[] #[.pointer (some ⟨w.heap.size + 1 + 1 + 1 + 1 + 1, 0, none⟩)], .func (.func 36) #[] #[], .func (.func 37) #[] #[]]).cell? ⟨w.heap.size + 1 + 1 + 1 + 1 + 1 + 1, 2, none⟩ = some (.func (.func 96) #[] #[.pointer (some ⟨w.heap.size + 1 + 1, 0, none⟩)]) := cell_setRow_same _ _ _ _ _ _ _ (by simpa using HG.out)
  have HB := Lib.hid (show Below w.heap.size w ((((((((w.alloc (.cells #[.int .i64 2048] 3)).alloc (.cells #[.int .i64 1] 3)).alloc (.cells #[.int .i64 64] 3)).alloc (.cells #[.int .i64 65] 3)).alloc (.cells #[.int .i64 128] 3)).alloc (.cells #[.int .i64 4] 3)).alloc (.cells #[.nilFunc, .nilFunc, .nilFunc, .nilFunc, .nilFunc, .nilFunc, .nilFunc, .nilFunc] 55)).setRow (w.heap.size + 1 + 1 + 1 + 1 + 1 + 1) #[.func (.func 96) #[] #[.pointer (some ⟨w.heap.size, 0, none⟩)], .func (.func 96) #[] #[.pointer (some ⟨w.heap.size + 1, 0, none⟩)], .func (.func 96) #[] #[.pointer (some ⟨w.heap.size + 1 + 1, 0, none⟩)], .func (.func 96) #[] #[.pointer (some ⟨w.heap.size + 1 + 1 + 1, 0, none⟩)], .func (.func 96) #[] #[.pointer (some ⟨w.heap.size + 1 + 1 + 1 + 1, 0, none⟩)], .func (.func 96) #[] #[.pointer (some ⟨w.heap.size + 1 + 1 + 1 + 1 + 1, 0, none⟩)], .func (.func 36) #[] #[], .func (.func 37) #[] #[]]) from below_setRow (((((((((Below.refl _ _).alloc (Nat.le_refl _) _).alloc (by simp) _).alloc (by simp; omega) _).alloc (by simp; omega) _).alloc (by simp; omega) _).alloc (by simp; omega) _).alloc (by simp; omega) _)) (by omega) _)
  have HX := Lib.hid (show ((((((((w.alloc (.cells #[.int .i64 2048] 3)).alloc (.cells #[.int .i64 1] 3)).alloc (.cells #[.int .i64 64] 3)).alloc (.cells #[.int .i64 65] 3)).alloc (.cells #[.int .i64 128] 3)).alloc (.cells #[.int .i64 4] 3)).alloc (.cells #[.nilFunc, .nilFunc, .nilFunc, .nilFunc, .nilFunc, .nilFunc, .nilFunc, .nilFunc] 55)).setRow (w.heap.size + 1 + 1 + 1 + 1 + 1 + 1) #[.func (.func 96) #[] #[.pointer (some ⟨w.heap.size, 0, none⟩)], .func (.func 96) #[] #[.pointer (some ⟨w.heap.size + 1, 0, none⟩)], .func (.func 96) #[] #[.pointer (some ⟨w.heap.size + 1 + 1, 0, none⟩)], .func (.func 96) #[] #[.pointer (some ⟨w.heap.size + 1 + 1 + 1, 0, none⟩)], .func (.func 96) #[] #[.pointer (some ⟨w.heap.size + 1 + 1 + 1 + 1, 0, none⟩)], .func (.func 96) #[] #[.pointer (some ⟨w.heap.size + 1 + 1 + 1 + 1 + 1, 0, none⟩)], .func (.func 36) #[] #[], .func (.func 37) #[] #[]]).cell? ⟨w.heap.size + 1 + 1, 0, none⟩ = some (.int .i64 64) from (cell_setRow_other _ _ _ _ (by simp; try omega)).trans (by go_simp))
  have CX := anyC 64 f (w.heap.size + 1 + 1) _ HX.out
  rw [hr] at CX
  replace CX := Lib.hid CX
  clear hr
  go_enter Tryz.func11, Tryz.ntmps11
  go_wp2_with fail
  refine (CF.out _).mono ?_
  rintro e w1 ⟨rfl, e1⟩
  obtain rfl := e1.symm
  go_wp2_with fail
  refine (CA.out _ _).mono ?_
  rintro e w2 ⟨rfl, rfl⟩
  go_wp2_with fail
  refine (CA.out _ _).mono ?_
  rintro e w2 ⟨rfl, rfl⟩
  go_wp2_with fail
  refine (CA.out _ _).mono ?_
  rintro e w2 ⟨rfl, rfl⟩
  go_wp2_with fail
  refine (CA.out _ _).mono ?_
  rintro e w2 ⟨rfl, rfl⟩
  go_wp2_with fail
  refine (CA.out _ _).mono ?_
  rintro e w2 ⟨rfl, rfl⟩
  go_wp2_with fail
  refine (CA.out _ _).mono ?_
  rintro e w2 ⟨rfl, rfl⟩
  go_wp2_with (refine wpList_store_row rfl 55 (.tmp 6) (.tmp 24) rfl (w.heap.size + 1 + 1 + 1 + 1 + 1 + 1) #[.func (.func 96) #[] #[.pointer (some ⟨w.heap.size, 0, none⟩)], .func (.func 96) #[] #[.pointer (some ⟨w.heap.size + 1, 0, none⟩)], .func (.func 96) #[] #[.pointer (some ⟨w.heap.size + 1 + 1, 0, none⟩)], .func (.func 96) #[] #[.pointer (some ⟨w.heap.size + 1 + 1 + 1, 0, none⟩)], .func (.func 96) #[] #[.pointer (some ⟨w.heap.size + 1 + 1 + 1 + 1, 0, none⟩)], .func (.func 96) #[] #[.pointer (some ⟨w.heap.size + 1 + 1 + 1 + 1 + 1, 0, none⟩)], .func (.func 36) #[] #[], .func (.func 37) #[] #[]] rfl rfl 55 _ HG.out (by kernel_rfl) rfl (by simp [Value.oneCell']) ?_; generalize hW9 : (((((((w.alloc (.cells #[.int .i64 2048] 3)).alloc (.cells #[.int .i64 1] 3)).alloc (.cells #[.int .i64 64] 3)).alloc (.cells #[.int .i64 65] 3)).alloc (.cells #[.int .i64 128] 3)).alloc (.cells #[.int .i64 4] 3)).alloc (.cells #[.nilFunc, .nilFunc, .nilFunc, .nilFunc, .nilFunc, .nilFunc, .nilFunc, .nilFunc] 55)).setRow (w.heap.size + 1 + 1 + 1 + 1 + 1 + 1) #[.func (.func 96) #[] #[.pointer (some ⟨w.heap.size, 0, none⟩)], .func (.func 96) #[] #[.pointer (some ⟨w.heap.size + 1, 0, none⟩)], .func (.func 96) #[] #[.pointer (some ⟨w.heap.size + 1 + 1, 0, none⟩)], .func (.func 96) #[] #[.pointer (some ⟨w.heap.size + 1 + 1 + 1, 0, none⟩)], .func (.func 96) #[] #[.pointer (some ⟨w.heap.size + 1 + 1 + 1 + 1, 0, none⟩)], .func (.func 96) #[] #[.pointer (some ⟨w.heap.size + 1 + 1 + 1 + 1 + 1, 0, none⟩)], .func (.func 36) #[] #[], .func (.func 37) #[] #[]] = W9 at *; clear hW9)
  refine CX.out.mono ?_
  rintro e w2 ⟨rfl, rfl⟩
  go_wp2
  go_ret2
  exact ⟨rfl, HB.out⟩
set_option maxHeartbeats 1000000 in
theorem hI_5 (f : Int) (r : Bool) (hr : (bits .and .i64 f 64 != 0) = r) (w : World) (CF : Hid (∀ w, Calls Tryz.prog 34 #[.int .i64 f] w fun e w' => e = .returned (.bool true) ∧ w' = w)) : Calls Tryz.prog 11 #[.int .i64 5, .int .i64 f] w fun e w' => e = .returned (.tuple #[.bool (!r), .int .i64 0]) ∧ Below w.heap.size w w' := by
  have CA := Lib.hid anyOfC
  have HG := Lib.hid (show (((((((w.alloc (.cells #[.int .i64 2048] 3)).alloc (.cells #[.int .i64 1] 3)).alloc (.cells #[.int .i64 64] 3)).alloc (.cells #[.int .i64 65] 3)).alloc (.cells #[.int .i64 128] 3)).alloc (.cells #[.int .i64 4] 3)).alloc (.cells #[.nilFunc, .nilFunc, .nilFunc, .nilFunc, .nilFunc, .nilFunc, .nilFunc, .nilFunc] 55)).heap[w.heap.size + 1 + 1 + 1 + 1 + 1 + 1]? = some (.cells #[.nilFunc, .nilFunc, .nilFunc, .nilFunc, .nilFunc, .nilFunc, .nilFunc, .nilFunc] 55 (0, 0)) from by simpa using heap_alloc_new ((((((w.alloc (.cells #[.int .i64 2048] 3)).alloc (.cells #[.int .i64 1] 3)).alloc (.cells #[.int .i64 64] 3)).alloc (.cells #[.int .i64 65] 3)).alloc (.cells #[.int .i64 128] 3)).alloc (.cells #[.int .i64 4] 3)) (.cells #[.nilFunc, .nilFunc, .nilFunc, .nilFunc, .nilFunc, .nilFunc, .nilFunc, .nilFunc] 55))
  have HC : ((((((((w.alloc (.cells #[.int .i64 2048] 3)).alloc (.cells #[.int .i64 1] 3)).alloc (.cells #[.int .i64 64] 3)).alloc (.cells #[.int .i64 65] 3)).alloc (.cells #[.int .i64 128] 3)).alloc (.cells #[.int .i64 4] 3)).alloc (.cells #[.nilFunc, .nilFunc, .nilFunc, .nilFunc, .nilFunc, .nilFunc, .nilFunc, .nilFunc] 55)).setRow (w.heap.size + 1 + 1 + 1 + 1 + 1 + 1) #[.func (.func 96) #[] #[.pointer (some ⟨w.heap.size, 0, none⟩)], .func (.func 96) #[] #[.pointer (some ⟨w.heap.size + 1, 0, none⟩)], .func (.func 96) #[] #[.pointer (some ⟨w.heap.size + 1 + 1, 0, none⟩)], .func (.func 96) #[] #[.pointer (some ⟨w.heap.size + 1 + 1 + 1, 0, none⟩)], .func (.func 96) #[] #[.pointer (some ⟨w.heap.size + 1 + 1 + 1 + 1, 0, none⟩)], .func (.func 96) #[] #[.pointer (some ⟨w.heap.size + 1 + 1 + 1 + 1 + 1, 0, none⟩)], .func (.func 36) #[] #[], .func (.func 37) #[] #[]]).cell? ⟨w.heap.size + 1 + 1 + 1 + 1 + 1 + 1, 2, none⟩ = some (.func (.func 96) #[] #[.pointer (some ⟨w.heap.size + 1 + 1, 0, none⟩)]) := cell_setRow_same _ _ _ _ _ _ _ (by simpa using HG.out)
  have HB := Lib.hid (show Below w.heap.size w ((((((((w.alloc (.cells #[.int .i64 2048] 3)).alloc (.cells #[.int .i64 1] 3)).alloc (.cells #[.int .i64 64] 3)).alloc (.cells #[.int .i64 65] 3)).alloc (.cells #[.int .i64 128] 3)).alloc (.cells #[.int .i64 4] 3)).alloc (.cells #[.nilFunc, .nilFunc, .nilFunc, .nilFunc, .nilFunc, .nilFunc, .nilFunc, .nilFunc] 55)).setRow (w.heap.size + 1 + 1 + 1 + 1 + 1 + 1) #[.func (.func 96) #[] #[.pointer (some ⟨w.heap.size, 0, none⟩)], .func (.func 96) #[] #[.pointer (some ⟨w.heap.size + 1, 0, none⟩)], .func (.func 96) #[] #[.pointer (some ⟨w.heap.size + 1 + 1, 0, none⟩)], .func (.func 96) #[] #[.pointer (some ⟨w.heap.size + 1 + 1 + 1, 0, none⟩)], .func (.func 96) #[] #[.pointer (some ⟨w.heap.size + 1 + 1 + 1 + 1, 0, none⟩)], .func (.func 96) #[] #[.pointer (some ⟨w.heap.size + 1 + 1 + 1 + 1 + 1, 0, none⟩)], .func (.func 36) #[] #[], .func (.func 37) #[] #[]]) from below_setRow (((((((((Below.refl _ _).alloc (Nat.le_refl _) _).alloc (by simp) _).alloc (by simp; omega) _).alloc (by simp; omega) _).alloc (by simp; omega) _).alloc (by simp; omega) _).alloc (by simp; omega) _)) (by omega) _)
  have HX := Lib.hid (show ((((((((w.alloc (.cells #[.int .i64 2048] 3)).alloc (.cells #[.int .i64 1] 3)).alloc (.cells #[.int .i64 64] 3)).alloc (.cells #[.int .i64 65] 3)).alloc (.cells #[.int .i64 128] 3)).alloc (.cells #[.int .i64 4] 3)).alloc (.cells #[.nilFunc, .nilFunc, .nilFunc, .nilFunc, .nilFunc, .nilFunc, .nilFunc, .nilFunc] 55)).setRow (w.heap.size + 1 + 1 + 1 + 1 + 1 + 1) #[.func (.func 96) #[] #[.pointer (some ⟨w.heap.size, 0, none⟩)], .func (.func 96) #[] #[.pointer (some ⟨w.heap.size + 1, 0, none⟩)], .func (.func 96) #[] #[.pointer (some ⟨w.heap.size + 1 + 1, 0, none⟩)], .func (.func 96) #[] #[.pointer (some ⟨w.heap.size + 1 + 1 + 1, 0, none⟩)], .func (.func 96) #[] #[.pointer (some ⟨w.heap.size + 1 + 1 + 1 + 1, 0, none⟩)], .func (.func 96) #[] #[.pointer (some ⟨w.heap.size + 1 + 1 + 1 + 1 + 1, 0, none⟩)], .func (.func 36) #[] #[], .func (.func 37) #[] #[]]).cell? ⟨w.heap.size + 1 + 1, 0, none⟩ = some (.int .i64 64) from (cell_setRow_other _ _ _ _ (by simp; try omega)).trans (by go_simp))
  have CX := anyC 64 f (w.heap.size + 1 + 1) _ HX.out
  rw [hr] at CX
  replace CX := Lib.hid CX
  clear hr
  go_enter Tryz.func11, Tryz.ntmps11
  go_wp2_with fail
  refine (CF.out _).mono ?_
  rintro e w1 ⟨rfl, e1⟩
  obtain rfl := e1.symm
  go_wp2_with fail
  refine (CA.out _ _).mono ?_
  rintro e w2 ⟨rfl, rfl⟩
  go_wp2_with fail
  refine (CA.out _ _).mono ?_
  rintro e w2 ⟨rfl, rfl⟩
  go_wp2_with fail
  refine (CA.out _ _).mono ?_
  rintro e w2 ⟨rfl, rfl⟩
  go_wp2_with fail
  refine (CA.out _ _).mono ?_
  rintro e w2 ⟨rfl, rfl⟩
  go_wp2_with fail
  refine (CA.out _ _).mono ?_
  rintro e w2 ⟨rfl, rfl⟩
  go_wp2_with fail
  refine (CA.out _ _).mono ?_
  rintro e w2 ⟨rfl, rfl⟩
  go_wp2_with (refine wpList_store_row rfl 55 (.tmp 6) (.tmp 24) rfl (w.heap.size + 1 + 1 + 1 + 1 + 1 + 1) #[.func (.func 96) #[] #[.pointer (some ⟨w.heap.size, 0, none⟩)], .func (.func 96) #[] #[.pointer (some ⟨w.heap.size + 1, 0, none⟩)], .func (.func 96) #[] #[.pointer (some ⟨w.heap.size + 1 + 1, 0, none⟩)], .func (.func 96) #[] #[.pointer (some ⟨w.heap.size + 1 + 1 + 1, 0, none⟩)], .func (.func 96) #[] #[.pointer (some ⟨w.heap.size + 1 + 1 + 1 + 1, 0, none⟩)], .func (.func 96) #[] #[.pointer (some ⟨w.heap.size + 1 + 1 + 1 + 1 + 1, 0, none⟩)], .func (.func 36) #[] #[], .func (.func 37) #[] #[]] rfl rfl 55 _ HG.out (by kernel_rfl) rfl (by simp [Value.oneCell']) ?_; generalize hW9 : (((((((w.alloc (.cells #[.int .i64 2048] 3)).alloc (.cells #[.int .i64 1] 3)).alloc (.cells #[.int .i64 64] 3)).alloc (.cells #[.int .i64 65] 3)).alloc (.cells #[.int .i64 128] 3)).alloc (.cells #[.int .i64 4] 3)).alloc (.cells #[.nilFunc, .nilFunc, .nilFunc, .nilFunc, .nilFunc, .nilFunc, .nilFunc, .nilFunc] 55)).setRow (w.heap.size + 1 + 1 + 1 + 1 + 1 + 1) #[.func (.func 96) #[] #[.pointer (some ⟨w.heap.size, 0, none⟩)], .func (.func 96) #[] #[.pointer (some ⟨w.heap.size + 1, 0, none⟩)], .func (.func 96) #[] #[.pointer (some ⟨w.heap.size + 1 + 1, 0, none⟩)], .func (.func 96) #[] #[.pointer (some ⟨w.heap.size + 1 + 1 + 1, 0, none⟩)], .func (.func 96) #[] #[.pointer (some ⟨w.heap.size + 1 + 1 + 1 + 1, 0, none⟩)], .func (.func 96) #[] #[.pointer (some ⟨w.heap.size + 1 + 1 + 1 + 1 + 1, 0, none⟩)], .func (.func 36) #[] #[], .func (.func 37) #[] #[]] = W9 at *; clear hW9)
  refine CX.out.mono ?_
  rintro e w2 ⟨rfl, rfl⟩
  go_wp2
  go_ret2
  exact ⟨rfl, HB.out⟩
set_option maxHeartbeats 1000000 in
theorem hI_6 (f : Int) (r : Bool) (hr : (bits .and .i64 f 65 != 0) = r) (w : World) (CF : Hid (∀ w, Calls Tryz.prog 34 #[.int .i64 f] w fun e w' => e = .returned (.bool true) ∧ w' = w)) : Calls Tryz.prog 11 #[.int .i64 6, .int .i64 f] w fun e w' => e = .returned (.tuple #[.bool (r), .int .i64 0]) ∧ Below w.heap.size w w' := by
  have CA := Lib.hid anyOfC
  have HG := Lib.hid (show (((((((w.alloc (.cells #[.int .i64 2048] 3)).alloc (.cells #[.int .i64 1] 3)).alloc (.cells #[.int .i64 64] 3)).alloc (.cells #[.int .i64 65] 3)).alloc (.cells #[.int .i64 128] 3)).alloc (.cells #[.int .i64 4] 3)).alloc (.cells #[.nilFunc, .nilFunc, .nilFunc, .nilFunc, .nilFunc, .nilFunc, .nilFunc, .nilFunc] 55)).heap[w.heap.size + 1 + 1 + 1 + 1 + 1 + 1]? = some (.cells #[.nilFunc, .nilFunc, .nilFunc, .nilFunc, .nilFunc, .nilFunc, .nilFunc, .nilFunc] 55 (0, 0)) from by simpa using heap_alloc_new ((((((w.alloc (.cells #[.int .i64 2048] 3)).alloc (.cells #[.int .i64 1] 3)).alloc (.cells #[.int .i64 64] 3)).alloc (.cells #[.int .i64 65] 3)).alloc (.cells #[.int .i64 128] 3)).alloc (.cells #[.int .i64 4] 3)) (.cells #[.nilFunc, .nilFunc, .nilFunc, .nilFunc, .nilFunc, .nilFunc, .nilFunc, .nilFunc] 55))
  have HC : ((((((((w.alloc (.cells #[.int .i64 2048] 3)).alloc (.cells #[.int .i64 1] 3)).alloc (.cells #[.int .i64 64] 3)).alloc (.cells #[.int .i64 65] 3)).alloc (.cells #[.int .i64 128] 3)).alloc (.cells #[.int .i64 4] 3)).alloc (.cells #[.nilFunc, .nilFunc, .nilFunc, .nilFunc, .nilFunc, .nilFunc, .nilFunc, .nilFunc] 55)).setRow (w.heap.size + 1 + 1 + 1 + 1 + 1 + 1) #[.func (.func 96) #[] #[.pointer (some ⟨w.heap.size, 0, none⟩)], .func (.func 96) #[] #[.pointer (some ⟨w.heap.size + 1, 0, none⟩)], .func (.func 96) #[] #[.pointer (some ⟨w.heap.size + 1 + 1, 0, none⟩)], .func (.func 96) #[] #[.pointer (some ⟨w.heap.size + 1 + 1 + 1, 0, none⟩)], .func (.func 96) #[] #[.pointer (some ⟨w.heap.size + 1 + 1 + 1 + 1, 0, none⟩)], .func (.func 96) #[] #[.pointer (some ⟨w.heap.size + 1 + 1 + 1 + 1 + 1, 0, none⟩)], .func (.func 36) #[] #[], .func (.func 37) #[] #[]]).cell? ⟨w.heap.size + 1 + 1 + 1 + 1 + 1 + 1, 3, none⟩ = some (.func (.func 96) #[] #[.pointer (some ⟨w.heap.size + 1 + 1 + 1, 0, none⟩)]) := cell_setRow_same _ _ _ _ _ _ _ (by simpa using HG.out)
  have HB := Lib.hid (show Below w.heap.size w ((((((((w.alloc (.cells #[.int .i64 2048] 3)).alloc (.cells #[.int .i64 1] 3)).alloc (.cells #[.int .i64 64] 3)).alloc (.cells #[.int .i64 65] 3)).alloc (.cells #[.int .i64 128] 3)).alloc (.cells #[.int .i64 4] 3)).alloc (.cells #[.nilFunc, .nilFunc, .nilFunc, .nilFunc, .nilFunc, .nilFunc, .nilFunc, .nilFunc] 55)).setRow (w.heap.size + 1 + 1 + 1 + 1 + 1 + 1) #[.func (.func 96) #[] #[.pointer (some ⟨w.heap.size, 0, none⟩)], .func (.func 96) #[] #[.pointer (some ⟨w.heap.size + 1, 0, none⟩)], .func (.func 96) #[] #[.pointer (some ⟨w.heap.size + 1 + 1, 0, none⟩)], .func (.func 96) #[] #[.pointer (some ⟨w.heap.size + 1 + 1 + 1, 0, none⟩)], .func (.func 96) #[] #[.pointer (some ⟨w.heap.size + 1 + 1 + 1 + 1, 0, none⟩)], .func (.func 96) #[] #[.pointer (some ⟨w.heap.size + 1 + 1 + 1 + 1 + 1, 0, none⟩)], .func (.func 36) #[] #[], .func (.func 37) #[] #[]]) from below_setRow (((((((((Below.refl _ _).alloc (Nat.le_refl _) _).alloc (by simp) _).alloc (by simp; omega) _).alloc (by simp; omega) _).alloc (by simp; omega) _).alloc (by simp; omega) _).alloc (by simp; omega) _)) (by omega) _)
  have HX := Lib.hid (show ((((((((w.alloc (.cells #[.int .i64 2048] 3)).alloc (.cells #[.int .i64 1] 3)).alloc (.cells #[.int .i64 64] 3)).alloc (.cells #[.int .i64 65] 3)).alloc (.cells #[.int .i64 128] 3)).alloc (.cells #[.int .i64 4] 3)).alloc (.cells #[.nilFunc, .nilFunc, .nilFunc, .nilFunc, .nilFunc, .nilFunc, .nilFunc, .nilFunc] 55)).setRow (w.heap.size + 1 + 1 + 1 + 1 + 1 + 1) #[.func (.func 96) #[] #[.pointer (some ⟨w.heap.size, 0, none⟩)], .func (.func 96) #[] #[.pointer (some ⟨w.heap.size + 1, 0, none⟩)], .func (.func 96) #[] #[.pointer (some ⟨w.heap.size + 1 + 1, 0, none⟩)], .func (.func 96) #[] #[.pointer (some ⟨w.heap.size + 1 + 1 + 1, 0, none⟩)], .func (.func 96) #[] #[.pointer (some ⟨w.heap.size + 1 + 1 + 1 + 1, 0, none⟩)], .func (.func 96) #[] #[.pointer (some ⟨w.heap.size + 1 + 1 + 1 + 1 + 1, 0, none⟩)], .func (.func 36) #[] #[], .func (.func 37) #[] #[]]).cell? ⟨w.heap.size + 1 + 1 + 1, 0, none⟩ = some (.int .i64 65) from (cell_setRow_other _ _ _ _ (by simp; try omega)).trans (by go_simp))
  have CX := anyC 65 f (w.heap.size + 1 + 1 + 1) _ HX.out
  rw [hr] at CX
  replace CX := Lib.hid CX
  clear hr
  go_enter Tryz.func11, Tryz.ntmps11
  go_wp2_with fail
  refine (CF.out _).mono ?_
  rintro e w1 ⟨rfl, e1⟩
  obtain rfl := e1.symm
  go_wp2_with fail
  refine (CA.out _ _).mono ?_
  rintro e w2 ⟨rfl, rfl⟩
  go_wp2_with fail
  refine (CA.out _ _).mono ?_
  rintro e w2 ⟨rfl, rfl⟩
  go_wp2_with fail
  refine (CA.out _ _).mono ?_
  rintro e w2 ⟨rfl, rfl⟩
  go_wp2_with fail
  refine (CA.out _ _).mono ?_
  rintro e w2 ⟨rfl, rfl⟩
  go_wp2_with fail
  refine (CA.out _ _).mono ?_
  rintro e w2 ⟨rfl, rfl⟩
  go_wp2_with fail
  refine (CA.out _ _).mono ?_
  rintro e w2 ⟨rfl, rfl⟩
  go_wp2_with (refine wpList_store_row rfl 55 (.tmp 6) (.tmp 24) rfl (w.heap.size + 1 + 1 + 1 + 1 + 1 + 1) #[.func (.func 96) #[] #[.pointer (some ⟨w.heap.size, 0, none⟩)], .func (.func 96) #[] #[.pointer (some ⟨w.heap.size + 1, 0, none⟩)], .func (.func 96) #[] #[.pointer (some ⟨w.heap.size + 1 + 1, 0, none⟩)], .func (.func 96) #[] #[.pointer (some ⟨w.heap.size + 1 + 1 + 1, 0, none⟩)], .func (.func 96) #[] #[.pointer (some ⟨w.heap.size + 1 + 1 + 1 + 1, 0, none⟩)], .func (.func 96) #[] #[.pointer (some ⟨w.heap.size + 1 + 1 + 1 + 1 + 1, 0, none⟩)], .func (.func 36) #[] #[], .func (.func 37) #[] #[]] rfl rfl 55 _ HG.out (by kernel_rfl) rfl (by simp [Value.oneCell']) ?_; generalize hW9 : (((((((w.alloc (.cells #[.int .i64 2048] 3)).alloc (.cells #[.int .i64 1] 3)).alloc (.cells #[.int .i64 64] 3)).alloc (.cells #[.int .i64 65] 3)).alloc (.cells #[.int .i64 128] 3)).alloc (.cells #[.int .i64 4] 3)).alloc (.cells #[.nilFunc, .nilFunc, .nilFunc, .nilFunc, .nilFunc, .nilFunc, .nilFunc, .nilFunc] 55)).setRow (w.heap.size + 1 + 1 + 1 + 1 + 1 + 1) #[.func (.func 96) #[] #[.pointer (some ⟨w.heap.size, 0, none⟩)], .func (.func 96) #[] #[.pointer (some ⟨w.heap.size + 1, 0, none⟩)], .func (.func 96) #[] #[.pointer (some ⟨w.heap.size + 1 + 1, 0, none⟩)], .func (.func 96) #[] #[.pointer (some ⟨w.heap.size + 1 + 1 + 1, 0, none⟩)], .func (.func 96) #[] #[.pointer (some ⟨w.heap.size + 1 + 1 + 1 + 1, 0, none⟩)], .func (.func 96) #[] #[.pointer (some ⟨w.heap.size + 1 + 1 + 1 + 1 + 1, 0, none⟩)], .func (.func 36) #[] #[], .func (.func 37) #[] #[]] = W9 at *; clear hW9)
  refine CX.out.mono ?_
  rintro e w2 ⟨rfl, rfl⟩
  go_wp2
  go_ret2
  exact ⟨rfl, HB.out⟩
set_option maxHeartbeats 1000000 in
theorem hI_7 (f : Int) (r : Bool) (hr : (bits .and .i64 f 65 != 0) = r) (w : World) (CF : Hid (∀ w, Calls Tryz.prog 34 #[.int .i64 f] w fun e w' => e = .returned (.bool true) ∧ w' = w)) : Calls Tryz.prog 11 #[.int .i64 7, .int .i64 f] w fun e w' => e = .returned (.tuple #[.bool (!r), .int .i64 0]) ∧ Below w.heap.size w w' := by
  have CA := Lib.hid anyOfC
  have HG := Lib.hid (show (((((((w.alloc (.cells #[.int .i64 2048] 3)).alloc (.cells #[.int .i64 1] 3)).alloc (.cells #[.int .i64 64] 3)).alloc (.cells #[.int .i64 65] 3)).alloc (.cells #[.int .i64 128] 3)).alloc (.cells #[.int .i64 4] 3)).alloc (.cells #[.nilFunc, .nilFunc, .nilFunc, .nilFunc, .nilFunc, .nilFunc, .nilFunc, .nilFunc] 55)).heap[w.heap.size + 1 + 1 + 1 + 1 + 1 + 1]? = some (.cells #[.nilFunc, .nilFunc, .nilFunc, .nilFunc, .nilFunc, .nilFunc, .nilFunc, .nilFunc] 55 (0, 0)) from by simpa using heap_alloc_new ((((((w.alloc (.cells #[.int .i64 2048] 3)).alloc (.cells #[.int .i64 1] 3)).alloc (.cells #[.int .i64 64] 3)).alloc (.cells #[.int .i64 65] 3)).alloc (.cells #[.int .i64 128] 3)).alloc (.cells #[.int .i64 4] 3)) (.cells #[.nilFunc, .nilFunc, .nilFunc, .nilFunc, .nilFunc, .nilFunc, .nilFunc, .nilFunc] 55))
  have HC : ((((((((w.alloc (.cells #[.int .i64 2048] 3)).alloc (.cells #[.int .i64 1] 3)).alloc (.cells #[.int .i64 64] 3)).alloc (.cells #[.int .i64 65] 3)).alloc (.cells #[.int .i64 128] 3)).alloc (.cells #[.int .i64 4] 3)).alloc (.cells #[.nilFunc, .nilFunc, .nilFunc, .nilFunc, .nilFunc, .nilFunc, .nilFunc, .nilFunc] 55)).setRow (w.heap.size + 1 + 1 + 1 + 1 + 1 + 1) #[.func (.func 96) #[] #[.pointer (some ⟨w.heap.size, 0, none⟩)], .func (.func 96) #[] #[.pointer (some ⟨w.heap.size + 1, 0, none⟩)], .func (.func 96) #[] #[.pointer (some ⟨w.heap.size + 1 + 1, 0, none⟩)], .func (.func 96) #[] #[.pointer (some ⟨w.heap.size + 1 + 1 + 1, 0, none⟩)], .func (.func 96) #[] #[.pointer (some ⟨w.heap.size + 1 + 1 + 1 + 1, 0, none⟩)], .func (.func 96) #[] #[.pointer (some ⟨w.heap.size + 1 + 1 + 1 + 1 + 1, 0, none⟩)], .func (.func 36) #[] #[], .func (.func 37) #[] #[]]).cell? ⟨w.heap.size + 1 + 1 + 1 + 1 + 1 + 1, 3, none⟩ = some (.func (.func 96) #[] #[.pointer (some ⟨w.heap.size + 1 + 1 + 1, 0, none⟩)]) := cell_setRow_same _ _ _ _ _ _ _ (by simpa using HG.out)
  have HB := Lib.hid (show Below w.heap.size w ((((((((w.alloc (.cells #[.int .i64 2048] 3)).alloc (.cells #[.int .i64 1] 3)).alloc (.cells #[.int .i64 64] 3)).alloc (.cells #[.int .i64 65] 3)).alloc (.cells #[.int .i64 128] 3)).alloc (.cells #[.int .i64 4] 3)).alloc (.cells #[.nilFunc, .nilFunc, .nilFunc, .nilFunc, .nilFunc, .nilFunc, .nilFunc, .nilFunc] 55)).setRow (w.heap.size + 1 + 1 + 1 + 1 + 1 + 1) #[.func (.func 96) #[] #[.pointer (some ⟨w.heap.size, 0, none⟩)], .func (.func 96) #[] #[.pointer (some ⟨w.heap.size + 1, 0, none⟩)], .func (.func 96) #[] #[.pointer (some ⟨w.heap.size + 1 + 1, 0, none⟩)], .func (.func 96) #[] #[.pointer (some ⟨w.heap.size + 1 + 1 + 1, 0, none⟩)], .func (.func 96) #[] #[.pointer (some ⟨w.heap.size + 1 + 1 + 1 + 1, 0, none⟩)], .func (.func 96) #[] #[.pointer (some ⟨w.heap.size + 1 + 1 + 1 + 1 + 1, 0, none⟩)], .func (.func 36) #[] #[], .func (.func 37) #[] #[]]) from below_setRow (((((((((Below.refl _ _).alloc (Nat.le_refl _) _).alloc (by simp) _).alloc (by simp; omega) _).alloc (by simp; omega) _).alloc (by simp; omega) _).alloc (by simp; omega) _).alloc (by simp; omega) _)) (by omega) _)
  have HX := Lib.hid (show ((((((((w.alloc (.cells #[.int .i64 2048] 3)).alloc (.cells #[.int .i64 1] 3)).alloc (.cells #[.int .i64 64] 3)).alloc (.cells #[.int .i64 65] 3)).alloc (.cells #[.int .i64 128] 3)).alloc (.cells #[.int .i64 4] 3)).alloc (.cells #[.nilFunc, .nilFunc, .nilFunc, .nilFunc, .nilFunc, .nilFunc, .nilFunc, .nilFunc] 55)).setRow (w.heap.size + 1 + 1 + 1 + 1 + 1 + 1) #[.func (.func 96) #[] #[.pointer (some ⟨w.heap.size, 0, none⟩)], .func (.func 96) #[] #[.pointer (some ⟨w.heap.size + 1, 0, none⟩)], .func (.func 96) #[] #[.pointer (some ⟨w.heap.size + 1 + 1, 0, none⟩)], .func (.func 96) #[] #[.pointer (some ⟨w.heap.size + 1 + 1 + 1, 0, none⟩)], .func (.func 96) #[] #[.pointer (some ⟨w.heap.size + 1 + 1 + 1 + 1, 0, none⟩)], .func (.func 96) #[] #[.pointer (some ⟨w.heap.size + 1 + 1 + 1 + 1 + 1, 0, none⟩)], .func (.func 36) #[] #[], .func (.func 37) #[] #[]]).cell? ⟨w.heap.size + 1 + 1 + 1, 0, none⟩ = some (.int .i64 65) from (cell_setRow_other _ _ _ _ (by simp; try omega)).trans (by go_simp))
  have CX := anyC 65 f (w.heap.size + 1 + 1 + 1) _ HX.out
  rw [hr] at CX
  replace CX := Lib.hid CX
  clear hr
  go_enter Tryz.func11, Tryz.ntmps11
  go_wp2_with fail
  refine (CF.out _).mono ?_
  rintro e w1 ⟨rfl, e1⟩
  obtain rfl := e1.symm
  go_wp2_with fail
  refine (CA.out _ _).mono ?_
  rintro e w2 ⟨rfl, rfl⟩
  go_wp2_with fail
  refine (CA.out _ _).mono ?_
  rintro e w2 ⟨rfl, rfl⟩
  go_wp2_with fail
  refine (CA.out _ _).mono ?_
  rintro e w2 ⟨rfl, rfl⟩
  go_wp2_with fail
  refine (CA.out _ _).mono ?_
  rintro e w2 ⟨rfl, rfl⟩
  go_wp2_with fail
  refine (CA.out _ _).mono ?_
  rintro e w2 ⟨rfl, rfl⟩
  go_wp2_with fail
  refine (CA.out _ _).mono ?_
  rintro e w2 ⟨rfl, rfl⟩
  go_wp2_with (refine wpList_store_row rfl 55 (.tmp 6) (.tmp 24) rfl (w.heap.size + 1 + 1 + 1 + 1 + 1 + 1) #[.func (.func 96) #[] #[.pointer (some ⟨w.heap.size, 0, none⟩)], .func (.func 96) #[] #[.pointer (some ⟨w.heap.size + 1, 0, none⟩)], .func (.func 96) #[] #[.pointer (some ⟨w.heap.size + 1 + 1, 0, none⟩)], .func (.func 96) #[] #[.pointer (some ⟨w.heap.size + 1 + 1 + 1, 0, none⟩)], .func (.func 96) #[] #[.pointer (some ⟨w.heap.size + 1 + 1 + 1 + 1, 0, none⟩)], .func (.func 96) #[] #[.pointer (some ⟨w.heap.size + 1 + 1 + 1 + 1 + 1, 0, none⟩)], .func (.func 36) #[] #[], .func (.func 37) #[] #[]] rfl rfl 55 _ HG.out (by kernel_rfl) rfl (by simp [Value.oneCell']) ?_; generalize hW9 : (((((((w.alloc (.cells #[.int .i64 2048] 3)).alloc (.cells #[.int .i64 1] 3)).alloc (.cells #[.int .i64 64] 3)).alloc (.cells #[.int .i64 65] 3)).alloc (.cells #[.int .i64 128] 3)).alloc (.cells #[.int .i64 4] 3)).alloc (.cells #[.nilFunc, .nilFunc, .nilFunc, .nilFunc, .nilFunc, .nilFunc, .nilFunc, .nilFunc] 55)).setRow (w.heap.size + 1 + 1 + 1 + 1 + 1 + 1) #[.func (.func 96) #[] #[.pointer (some ⟨w.heap.size, 0, none⟩)], .func (.func 96) #[] #[.pointer (some ⟨w.heap.size + 1, 0, none⟩)], .func (.func 96) #[] #[.pointer (some ⟨w.heap.size + 1 + 1, 0, none⟩)], .func (.func 96) #[] #[.pointer (some ⟨w.heap.size + 1 + 1 + 1, 0, none⟩)], .func (.func 96) #[] #[.pointer (some ⟨w.heap.size + 1 + 1 + 1 + 1, 0, none⟩)], .func (.func 96) #[] #[.pointer (some ⟨w.heap.size + 1 + 1 + 1 + 1 + 1, 0, none⟩)], .func (.func 36) #[] #[], .func (.func 37) #[] #[]] = W9 at *; clear hW9)
  refine CX.out.mono ?_
  rintro e w2 ⟨rfl, rfl⟩
  go_wp2
  go_ret2
  exact ⟨rfl, HB.out⟩
set_option maxHeartbeats 1000000 in
theorem hI_8 (f : Int) (r : Bool) (hr : (bits .and .i64 f 128 != 0) = r) (w : World) (CF : Hid (∀ w, Calls Tryz.prog 34 #[.int .i64 f] w fun e w' => e = .returned (.bool true) ∧ w' = w)) : Calls Tryz.prog 11 #[.int .i64 8, .int .i64 f] w fun e w' => e = .returned (.tuple #[.bool (r), .int .i64 0]) ∧ Below w.heap.size w w' := by
  have CA := Lib.hid anyOfC
  have HG := Lib.hid (show (((((((w.alloc (.cells #[.int .i64 2048] 3)).alloc (.cells #[.int .i64 1] 3)).alloc (.cells #[.int .i64 64] 3)).alloc (.cells #[.int .i64 65] 3)).alloc (.cells #[.int .i64 128] 3)).alloc (.cells #[.int .i64 4] 3)).alloc (.cells #[.nilFunc, .nilFunc, .nilFunc, .nilFunc, .nilFunc, .nilFunc, .nilFunc, .nilFunc] 55)).heap[w.heap.size + 1 + 1 + 1 + 1 + 1 + 1]? = some (.cells #[.nilFunc, .nilFunc, .nilFunc, .nilFunc, .nilFunc, .nilFunc, .nilFunc, .nilFunc] 55 (0, 0)) from by simpa using heap_alloc_new ((((((w.alloc (.cells #[.int .i64 2048] 3)).alloc (.cells #[.int .i64 1] 3)).alloc (.cells #[.int .i64 64] 3)).alloc (.cells #[.int .i64 65] 3)).alloc (.cells #[.int .i64 128] 3)).alloc (.cells #[.int .i64 4] 3)) (.cells #[.nilFunc, .nilFunc, .nilFunc, .nilFunc, .nilFunc, .nilFunc, .nilFunc, .nilFunc] 55))
  have HC : ((((((((w.alloc (.cells #[.int .i64 2048] 3)).alloc (.cells #[.int .i64 1] 3)).alloc (.cells #[.int .i64 64] 3)).alloc (.cells #[.int .i64 65] 3)).alloc (.cells #[.int .i64 128] 3)).alloc (.cells #[.int .i64 4] 3)).alloc (.cells #[.nilFunc, .nilFunc, .nilFunc, .nilFunc, .nilFunc, .nilFunc, .nilFunc, .nilFunc] 55)).setRow (w.heap.size + 1 + 1 + 1 + 1 + 1 + 1) #[.func (.func 96) #[] #[.pointer (some ⟨w.heap.size, 0, none⟩)], .func (.func 96) #[] #[.pointer (some ⟨w.heap.size + 1, 0, none⟩)], .func (.func 96) #[] #[.pointer (some ⟨w.heap.size + 1 + 1, 0, none⟩)], .func (.func 96) #[] #[.pointer (some ⟨w.heap.size + 1 + 1 + 1, 0, none⟩)], .func (.func 96) #[] #[.pointer (some ⟨w.heap.size + 1 + 1 + 1 + 1, 0, none⟩)], .func (.func 96) #[] #[.pointer (some ⟨w.heap.size + 1 + 1 + 1 + 1 + 1, 0, none⟩)], .func (.func 36) #[] #[], .func (.func 37) #[] #[]]).cell? ⟨w.heap.size + 1 + 1 + 1 + 1 + 1 + 1, 4, none⟩ = some (.func (.func 96) #[] #[.pointer (some ⟨w.heap.size + 1 + 1 + 1 + 1, 0, none⟩)]) := cell_setRow_same _ _ _ _ _ _ _ (by simpa using HG.out)
  have HB := Lib.hid (show Below w.heap.size w ((((((((w.alloc (.cells #[.int .i64 2048] 3)).alloc (.cells #[.int .i64 1] 3)).alloc (.cells #[.int .i64 64] 3)).alloc (.cells #[.int .i64 65] 3)).alloc (.cells #[.int .i64 128] 3)).alloc (.cells #[.int .i64 4] 3)).alloc (.cells #[.nilFunc, .nilFunc, .nilFunc, .nilFunc, .nilFunc, .nilFunc, .nilFunc, .nilFunc] 55)).setRow (w.heap.size + 1 + 1 + 1 + 1 + 1 + 1) #[.func (.func 96) #[] #[.pointer (some ⟨w.heap.size, 0, none⟩)], .func (.func 96) #[] #[.pointer (some ⟨w.heap.size + 1, 0, none⟩)], .func (.func 96) #[] #[.pointer (some ⟨w.heap.size + 1 + 1, 0, none⟩)], .func (.func 96) #[] #[.pointer (some ⟨w.heap.size + 1 + 1 + 1, 0, none⟩)], .func (.func 96) #[] #[.pointer (some ⟨w.heap.size + 1 + 1 + 1 + 1, 0, none⟩)], .func (.func 96) #[] #[.pointer (some ⟨w.heap.size + 1 + 1 + 1 + 1 + 1, 0, none⟩)], .func (.func 36) #[] #[], .func (.func 37) #[] #[]]) from below_setRow (((((((((Below.refl _ _).alloc (Nat.le_refl _) _).alloc (by simp) _).alloc (by simp; omega) _).alloc (by simp; omega) _).alloc (by simp; omega) _).alloc (by simp; omega) _).alloc (by simp; omega) _)) (by omega) _)
  have HX := Lib.hid (show ((((((((w.alloc (.cells #[.int .i64 2048] 3)).alloc (.cells #[.int .i64 1] 3)).alloc (.cells #[.int .i64 64] 3)).alloc (.cells #[.int .i64 65] 3)).alloc (.cells #[.int .i64 128] 3)).alloc (.cells #[.int .i64 4] 3)).alloc (.cells #[.nilFunc, .nilFunc, .nilFunc, .nilFunc, .nilFunc, .nilFunc, .nilFunc, .nilFunc] 55)).setRow (w.heap.size + 1 + 1 + 1 + 1 + 1 + 1) #[.func (.func 96) #[] #[.pointer (some ⟨w.heap.size, 0, none⟩)], .func (.func 96) #[] #[.pointer (some ⟨w.heap.size + 1, 0, none⟩)], .func (.func 96) #[] #[.pointer (some ⟨w.heap.size + 1 + 1, 0, none⟩)], .func (.func 96) #[] #[.pointer (some ⟨w.heap.size + 1 + 1 + 1, 0, none⟩)], .func (.func 96) #[] #[.pointer (some ⟨w.heap.size + 1 + 1 + 1 + 1, 0, none⟩)], .func (.func 96) #[] #[.pointer (some ⟨w.heap.size + 1 + 1 + 1 + 1 + 1, 0, none⟩)], .func (.func 36) #[] #[], .func (.func 37) #[] #[]]).cell? ⟨w.heap.size + 1 + 1 + 1 + 1, 0, none⟩ = some (.int .i64 128) from (cell_setRow_other _ _ _ _ (by simp; try omega)).trans (by go_simp))
  have CX := anyC 128 f (w.heap.size + 1 + 1 + 1 + 1) _ HX.out
  rw [hr] at CX
  replace CX := Lib.hid CX
  clear hr
  go_enter Tryz.func11, Tryz.ntmps11
  go_wp2_with fail
  refine (CF.out _).mono ?_
  rintro e w1 ⟨rfl, e1⟩
  obtain rfl := e1.symm
  go_wp2_with fail
  refine (CA.out _ _).mono ?_
  rintro e w2 ⟨rfl, rfl⟩
  go_wp2_with fail
  refine (CA.out _ _).mono ?_
  rintro e w2 ⟨rfl, rfl⟩
  go_wp2_with fail
  refine (CA.out _ _).mono ?_
  rintro e w2 ⟨rfl, rfl⟩
  go_wp2_with fail
  refine (CA.out _ _).mono ?_
  rintro e w2 ⟨rfl, rfl⟩
  go_wp2_with fail
  refine (CA.out _ _).mono ?_
  rintro e w2 ⟨rfl, rfl⟩
  go_wp2_with fail
  refine (CA.out _ _).mono ?_
  rintro e w2 ⟨rfl, rfl⟩
  go_wp2_with (refine wpList_store_row rfl 55 (.tmp 6) (.tmp 24) rfl (w.heap.size + 1 + 1 + 1 + 1 + 1 + 1) #[.func (.func 96) #[] #[.pointer (some ⟨w.heap.size, 0, none⟩)], .func (.func 96) #[] #[.pointer (some ⟨w.heap.size + 1, 0, none⟩)], .func (.func 96) #[] #[.pointer (some ⟨w.heap.size + 1 + 1, 0, none⟩)], .func (.func 96) #[] #[.pointer (some ⟨w.heap.size + 1 + 1 + 1, 0, none⟩)], .func (.func 96) #[] #[.pointer (some ⟨w.heap.size + 1 + 1 + 1 + 1, 0, none⟩)], .func (.func 96) #[] #[.pointer (some ⟨w.heap.size + 1 + 1 + 1 + 1 + 1, 0, none⟩)], .func (.func 36) #[] #[], .func (.func 37) #[] #[]] rfl rfl 55 _ HG.out (by kernel_rfl) rfl (by simp [Value.oneCell']) ?_; generalize hW9 : (((((((w.alloc (.cells #[.int .i64 2048] 3)).alloc (.cells #[.int .i64 1] 3)).alloc (.cells #[.int .i64 64] 3)).alloc (.cells #[.int .i64 65] 3)).alloc (.cells #[.int .i64 128] 3)).alloc (.cells #[.int .i64 4] 3)).alloc (.cells #[.nilFunc, .nilFunc, .nilFunc, .nilFunc, .nilFunc, .nilFunc, .nilFunc, .nilFunc] 55)).setRow (w.heap.size + 1 + 1 + 1 + 1 + 1 + 1) #[.func (.func 96) #[] #[.pointer (some ⟨w.heap.size, 0, none⟩)], .func (.func 96) #[] #[.pointer (some ⟨w.heap.size + 1, 0, none⟩)], .func (.func 96) #[] #[.pointer (some ⟨w.heap.size + 1 + 1, 0, none⟩)], .func (.func 96) #[] #[.pointer (some ⟨w.heap.size + 1 + 1 + 1, 0, none⟩)], .func (.func 96) #[] #[.pointer (some ⟨w.heap.size + 1 + 1 + 1 + 1, 0, none⟩)], .func (.func 96) #[] #[.pointer (some ⟨w.heap.size + 1 + 1 + 1 + 1 + 1, 0, none⟩)], .func (.func 36) #[] #[], .func (.func 37) #[] #[]] = W9 at *; clear hW9)
  refine CX.out.mono ?_
  rintro e w2 ⟨rfl, rfl⟩
  go_wp2
  go_ret2
  exact ⟨rfl, HB.out⟩
set_option maxHeartbeats 1000000 in
theorem hI_9 (f : Int) (r : Bool) (hr : (bits .and .i64 f 128 != 0) = r) (w : World) (CF : Hid (∀ w, Calls Tryz.prog 34 #[.int .i64 f] w fun e w' => e = .returned (.bool true) ∧ w' = w)) : Calls Tryz.prog 11 #[.int .i64 9, .int .i64 f] w fun e w' => e = .returned (.tuple #[.bool (!r), .int .i64 0]) ∧ Below w.heap.size w w' := by
  have CA := Lib.hid anyOfC
  have HG := Lib.hid (show (((((((w.alloc (.cells #[.int .i64 2048] 3)).alloc (.cells #[.int .i64 1] 3)).alloc (.cells #[.int .i64 64] 3)).alloc (.cells #[.int .i64 65] 3)).alloc (.cells #[.int .i64 128] 3)).alloc (.cells #[.int .i64 4] 3)).alloc (.cells #[.nilFunc, .nilFunc, .nilFunc, .nilFunc, .nilFunc, .nilFunc, .nilFunc, .nilFunc] 55)).heap[w.heap.size + 1 + 1 + 1 + 1 + 1 + 1]? = some (.cells #[.nilFunc, .nilFunc, .nilFunc, .nilFunc, .nilFunc, .nilFunc, .nilFunc, .nilFunc] 55 (0, 0)) from by simpa using heap_alloc_new ((((((w.alloc (.cells #[.int .i64 2048] 3)).alloc (.cells #[.int .i64 1] 3)).alloc (.cells #[.int .i64 64] 3)).alloc (.cells #[.int .i64 65] 3)).alloc (.cells #[.int .i64 128] 3)).alloc (.cells #[.int .i64 4] 3)) (.cells #[.nilFunc, .nilFunc, .nilFunc, .nilFunc, .nilFunc, .nilFunc, .nilFunc, .nilFunc] 55))
  have HC : ((((((((w.alloc (.cells #[.int .i64 2048] 3)).alloc (.cells #[.int .i64 1] 3)).alloc (.cells #[.int .i64 64] 3)).alloc (.cells #[.int .i64 65] 3)).alloc (.cells #[.int .i64 128] 3)).alloc (.cells #[.int .i64 4] 3)).alloc (.cells #[.nilFunc, .nilFunc, .nilFunc, .nilFunc, .nilFunc, .nilFunc, .nilFunc, .nilFunc] 55)).setRow (w.heap.size + 1 + 1 + 1 + 1 + 1 + 1) #[.func (.func 96) #[] #[.pointer (some ⟨w.heap.size, 0, none⟩)], .func (.func 96) #[] #[.pointer (some ⟨w.heap.size + 1, 0, none⟩)], .func (.func 96) #[] #[.pointer (some ⟨w.heap.size + 1 + 1, 0, none⟩)], .func (.func 96) #[] #[.pointer (some ⟨w.heap.size + 1 + 1 + 1, 0, none⟩)], .func (.func 96) #[] #[.pointer (some ⟨w.heap.size + 1 + 1 + 1 + 1, 0, none⟩)], .func (.func 96) #[] #[.pointer (some ⟨w.heap.size + 1 + 1 + 1 + 1 + 1, 0, none⟩)], .func (.func 36) #[] #[], .func (.func 37) #[] #[]]).cell? ⟨w.heap.size + 1 + 1 + 1 + 1 + 1 + 1, 4, none⟩ = some (.func (.func 96) #[] #[.pointer (some ⟨w.heap.size + 1 + 1 + 1 + 1, 0, none⟩)]) := cell_setRow_same _ _ _ _ _ _ _ (by simpa using HG.out)
  have HB := Lib.hid (show Below w.heap.size w ((((((((w.alloc (.cells #[.int .i64 2048] 3)).alloc (.cells #[.int .i64 1] 3)).alloc (.cells #[.int .i64 64] 3)).alloc (.cells #[.int .i64 65] 3)).alloc (.cells #[.int .i64 128] 3)).alloc (.cells #[.int .i64 4] 3)).alloc (.cells #[.nilFunc, .nilFunc, .nilFunc, .nilFunc, .nilFunc, .nilFunc, .nilFunc, .nilFunc] 55)).setRow (w.heap.size + 1 + 1 + 1 + 1 + 1 + 1) #[.func (.func 96) #[] #[.pointer (some ⟨w.heap.size, 0, none⟩)], .func (.func 96) #[] #[.pointer (some ⟨w.heap.size + 1, 0, none⟩)], .func (.func 96) #[] #[.pointer (some ⟨w.heap.size + 1 + 1, 0, none⟩)], .func (.func 96) #[] #[.pointer (some ⟨w.heap.size + 1 + 1 + 1, 0, none⟩)], .func (.func 96) #[] #[.pointer (some ⟨w.heap.size + 1 + 1 + 1 + 1, 0, none⟩)], .func (.func 96) #[] #[.pointer (some ⟨w.heap.size + 1 + 1 + 1 + 1 + 1, 0, none⟩)], .func (.func 36) #[] #[], .func (.func 37) #[] #[]]) from below_setRow (((((((((Below.refl _ _).alloc (Nat.le_refl _) _).alloc (by simp) _).alloc (by simp; omega) _).alloc (by simp; omega) _).alloc (by simp; omega) _).alloc (by simp; omega) _).alloc (by simp; omega) _)) (by omega) _)
  have HX := Lib.hid (show ((((((((w.alloc (.cells #[.int .i64 2048] 3)).alloc (.cells #[.int .i64 1] 3)).alloc (.cells #[.int .i64 64] 3)).alloc (.cells #[.int .i64 65] 3)).alloc (.cells #[.int .i64 128] 3)).alloc (.cells #[.int .i64 4] 3)).alloc (.cells #[.nilFunc, .nilFunc, .nilFunc, .nilFunc, .nilFunc, .nilFunc, .nilFunc, .nilFunc] 55)).setRow (w.heap.size + 1 + 1 + 1 + 1 + 1 + 1) #[.func (.func 96) #[] #[.pointer (some ⟨w.heap.size, 0, none⟩)], .func (.func 96) #[] #[.pointer (some ⟨w.heap.size + 1, 0, none⟩)], .func (.func 96) #[] #[.pointer (some ⟨w.heap.size + 1 + 1, 0, none⟩)], .func (.func 96) #[] #[.pointer (some ⟨w.heap.size + 1 + 1 + 1, 0, none⟩)], .func (.func 96) #[] #[.pointer (some ⟨w.heap.size + 1 + 1 + 1 + 1, 0, none⟩)], .func (.func 96) #[] #[.pointer (some ⟨w.heap.size + 1 + 1 + 1 + 1 + 1, 0, none⟩)], .func (.func 36) #[] #[], .func (.func 37) #[] #[]]).cell? ⟨w.heap.size + 1 + 1 + 1 + 1, 0, none⟩ = some (.int .i64 128) from (cell_setRow_other _ _ _ _ (by simp; try omega)).trans (by go_simp))
  have CX := anyC 128 f (w.heap.size + 1 + 1 + 1 + 1) _ HX.out
  rw [hr] at CX
  replace CX := Lib.hid CX
  clear hr
  go_enter Tryz.func11, Tryz.ntmps11
  go_wp2_with fail
  refine (CF.out _).mono ?_
  rintro e w1 ⟨rfl, e1⟩
  obtain rfl := e1.symm
  go_wp2_with fail
  refine (CA.out _ _).mono ?_
  rintro e w2 ⟨rfl, rfl⟩
  go_wp2_with fail
  refine (CA.out _ _).mono ?_
  rintro e w2 ⟨rfl, rfl⟩
  go_wp2_with fail
  refine (CA.out _ _).mono ?_
  rintro e w2 ⟨rfl, rfl⟩
  go_wp2_with fail
  refine (CA.out _ _).mono ?_
  rintro e w2 ⟨rfl, rfl⟩
  go_wp2_with fail
  refine (CA.out _ _).mono ?_
  rintro e w2 ⟨rfl, rfl⟩
  go_wp2_with fail
  refine (CA.out _ _).mono ?_
  rintro e w2 ⟨rfl, rfl⟩
  go_wp2_with (refine wpList_store_row rfl 55 (.tmp 6) (.tmp 24) rfl (w.heap.size + 1 + 1 + 1 + 1 + 1 + 1) #[.func (.func 96) #[] #[.pointer (some ⟨w.heap.size, 0, none⟩)], .func (.func 96) #[] #[.pointer (some ⟨w.heap.size + 1, 0, none⟩)], .func (.func 96) #[] #[.pointer (some ⟨w.heap.size + 1 + 1, 0, none⟩)], .func (.func 96) #[] #[.pointer (some ⟨w.heap.size + 1 + 1 + 1, 0, none⟩)], .func (.func 96) #[] #[.pointer (some ⟨w.heap.size + 1 + 1 + 1 + 1, 0, none⟩)], .func (.func 96) #[] #[.pointer (some ⟨w.heap.size + 1 + 1 + 1 + 1 + 1, 0, none⟩)], .func (.func 36) #[] #[], .func (.func 37) #[] #[]] rfl rfl 55 _ HG.out (by kernel_rfl) rfl (by simp [Value.oneCell']) ?_; generalize hW9 : (((((((w.alloc (.cells #[.int .i64 2048] 3)).alloc (.cells #[.int .i64 1] 3)).alloc (.cells #[.int .i64 64] 3)).alloc (.cells #[.int .i64 65] 3)).alloc (.cells #[.int .i64 128] 3)).alloc (.cells #[.int .i64 4] 3)).alloc (.cells #[.nilFunc, .nilFunc, .nilFunc, .nilFunc, .nilFunc, .nilFunc, .nilFunc, .nilFunc] 55)).setRow (w.heap.size + 1 + 1 + 1 + 1 + 1 + 1) #[.func (.func 96) #[] #[.pointer (some ⟨w.heap.size, 0, none⟩)], .func (.func 96) #[] #[.pointer (some ⟨w.heap.size + 1, 0, none⟩)], .func (.func 96) #[] #[.pointer (some ⟨w.heap.size + 1 + 1, 0, none⟩)], .func (.func 96) #[] #[.pointer (some ⟨w.heap.size + 1 + 1 + 1, 0, none⟩)], .func (.func 96) #[] #[.pointer (some ⟨w.heap.size + 1 + 1 + 1 + 1, 0, none⟩)], .func (.func 96) #[] #[.pointer (some ⟨w.heap.size + 1 + 1 + 1 + 1 + 1, 0, none⟩)], .func (.func 36) #[] #[], .func (.func 37) #[] #[]] = W9 at *; clear hW9)
  refine CX.out.mono ?_
  rintro e w2 ⟨rfl, rfl⟩
  go_wp2
  go_ret2
  exact ⟨rfl, HB.out⟩
set_option maxHeartbeats 1000000 in
theorem hI_10 (f : Int) (r : Bool) (hr : (bits .and .i64 f 4 != 0) = r) (w : World) (CF : Hid (∀ w, Calls Tryz.prog 34 #[.int .i64 f] w fun e w' => e = .returned (.bool true) ∧ w' = w)) : Calls Tryz.prog 11 #[.int .i64 10, .int .i64 f] w fun e w' => e = .returned (.tuple #[.bool (r), .int .i64 0]) ∧ Below w.heap.size w w' := by
  have CA := Lib.hid anyOfC
  have HG := Lib.hid (show (((((((w.alloc (.cells #[.int .i64 2048] 3)).alloc (.cells #[.int .i64 1] 3)).alloc (.cells #[.int .i64 64] 3)).alloc (.cells #[.int .i64 65] 3)).alloc (.cells #[.int .i64 128] 3)).alloc (.cells #[.int .i64 4] 3)).alloc (.cells #[.nilFunc, .nilFunc, .nilFunc, .nilFunc, .nilFunc, .nilFunc, .nilFunc, .nilFunc] 55)).heap[w.heap.size + 1 + 1 + 1 + 1 + 1 + 1]? = some (.cells #[.nilFunc, .nilFunc, .nilFunc, .nilFunc, .nilFunc, .nilFunc, .nilFunc, .nilFunc] 55 (0, 0)) from by simpa using heap_alloc_new ((((((w.alloc (.cells #[.int .i64 2048] 3)).alloc (.cells #[.int .i64 1] 3)).alloc (.cells #[.int .i64 64] 3)).alloc (.cells #[.int .i64 65] 3)).alloc (.cells #[.int .i64 128] 3)).alloc (.cells #[.int .i64 4] 3)) (.cells #[.nilFunc, .nilFunc, .nilFunc, .nilFunc, .nilFunc, .nilFunc, .nilFunc, .nilFunc] 55))
  have HC : ((((((((w.alloc (.cells #[.int .i64 2048] 3)).alloc (.cells #[.int .i64 1] 3)).alloc (.cells #[.int .i64 64] 3)).alloc (.cells #[.int .i64 65] 3)).alloc (.cells #[.int .i64 128] 3)).alloc (.cells #[.int .i64 4] 3)).alloc (.cells #[.nilFunc, .nilFunc, .nilFunc, .nilFunc, .nilFunc, .nilFunc, .nilFunc, .nilFunc] 55)).setRow (w.heap.size + 1 + 1 + 1 + 1 + 1 + 1) #[.func (.func 96) #[] #[.pointer (some ⟨w.heap.size, 0, none⟩)], .func (.func 96) #[] #[.pointer (some ⟨w.heap.size + 1, 0, none⟩)], .func (.func 96) #[] #[.pointer (some ⟨w.heap.size + 1 + 1, 0, none⟩)], .func (.func 96) #[] #[.pointer (some ⟨w.heap.size + 1 + 1 + 1, 0, none⟩)], .func (.func 96) #[] #[.pointer (some ⟨w.heap.size + 1 + 1 + 1 + 1, 0, none⟩)], .func (.func 96) #[] #[.pointer (some ⟨w.heap.size + 1 + 1 + 1 + 1 + 1, 0, none⟩)], .func (.func 36) #[] #[], .func (.func 37) #[] #[]]).cell? ⟨w.heap.size + 1 + 1 + 1 + 1 + 1 + 1, 5, none⟩ = some (.func (.func 96) #[] #[.pointer (some ⟨w.heap.size + 1 + 1 + 1 + 1 + 1, 0, none⟩)]) := cell_setRow_same _ _ _ _ _ _ _ (by simpa using HG.out)
  have HB := Lib.hid (show Below w.heap.size w ((((((((w.alloc (.cells #[.int .i64 2048] 3)).alloc (.cells #[.int .i64 1] 3)).alloc (.cells #[.int .i64 64] 3)).alloc (.cells #[.int .i64 65] 3)).alloc (.cells #[.int .i64 128] 3)).alloc (.cells #[.int .i64 4] 3)).alloc (.cells #[.nilFunc, .nilFunc, .nilFunc, .nilFunc, .nilFunc, .nilFunc, .nilFunc, .nilFunc] 55)).setRow (w.heap.size + 1 + 1 + 1 + 1 + 1 + 1) #[.func (.func 96) #[] #[.pointer (some ⟨w.heap.size, 0, none⟩)], .func (.func 96) #[] #[.pointer (some ⟨w.heap.size + 1, 0, none⟩)], .func (.func 96) #[] #[.pointer (some ⟨w.heap.size + 1 + 1, 0, none⟩)], .func (.func 96) #[] #[.pointer (some ⟨w.heap.size + 1 + 1 + 1, 0, none⟩)], .func (.func 96) #[] #[.pointer (some ⟨w.heap.size + 1 + 1 + 1 + 1, 0, none⟩)], .func (.func 96) #[] #[.pointer (some ⟨w.heap.size + 1 + 1 + 1 + 1 + 1, 0, none⟩)], .func (.func 36) #[] #[], .func (.func 37) #[] #[]]) from below_setRow (((((((((Below.refl _ _).alloc (Nat.le_refl _) _).alloc (by simp) _).alloc (by simp; omega) _).alloc (by simp; omega) _).alloc (by simp; omega) _).alloc (by simp; omega) _).alloc (by simp; omega) _)) (by omega) _)
  have HX := Lib.hid (show ((((((((w.alloc (.cells #[.int .i64 2048] 3)).alloc (.cells #[.int .i64 1] 3)).alloc (.cells #[.int .i64 64] 3)).alloc (.cells #[.int .i64 65] 3)).alloc (.cells #[.int .i64 128] 3)).alloc (.cells #[.int .i64 4] 3)).alloc (.cells #[.nilFunc, .nilFunc, .nilFunc, .nilFunc, .nilFunc, .nilFunc, .nilFunc, .nilFunc] 55)).setRow (w.heap.size + 1 + 1 + 1 + 1 + 1 + 1) #[.func (.func 96) #[] #[.pointer (some ⟨w.heap.size, 0, none⟩)], .func (.func 96) #[] #[.pointer (some ⟨w.heap.size + 1, 0, none⟩)], .func (.func 96) #[] #[.pointer (some ⟨w.heap.size + 1 + 1, 0, none⟩)], .func (.func 96) #[] #[.pointer (some ⟨w.heap.size + 1 + 1 + 1, 0, none⟩)], .func (.func 96) #[] #[.pointer (some ⟨w.heap.size + 1 + 1 + 1 + 1, 0, none⟩)], .func (.func 96) #[] #[.pointer (some ⟨w.heap.size + 1 + 1 + 1 + 1 + 1, 0, none⟩)], .func (.func 36) #[] #[], .func (.func 37) #[] #[]]).cell? ⟨w.heap.size + 1 + 1 + 1 + 1 + 1, 0, none⟩ = some (.int .i64 4) from (cell_setRow_other _ _ _ _ (by simp; try omega)).trans (by go_simp))
  have CX := anyC 4 f (w.heap.size + 1 + 1 + 1 + 1 + 1) _ HX.out
  rw [hr] at CX
  replace CX := Lib.hid CX
  clear hr
  go_enter Tryz.func11, Tryz.ntmps11
  go_wp2_with fail
  refine (CF.out _).mono ?_
  rintro e w1 ⟨rfl, e1⟩
  obtain rfl := e1.symm
  go_wp2_with fail
  refine (CA.out _ _).mono ?_
  rintro e w2 ⟨rfl, rfl⟩
  go_wp2_with fail
  refine (CA.out _ _).mono ?_
  rintro e w2 ⟨rfl, rfl⟩
  go_wp2_with fail
  refine (CA.out _ _).mono ?_
  rintro e w2 ⟨rfl, rfl⟩
  go_wp2_with fail
  refine (CA.out _ _).mono ?_
  rintro e w2 ⟨rfl, rfl⟩
  go_wp2_with fail
  refine (CA.out _ _).mono ?_
  rintro e w2 ⟨rfl, rfl⟩
  go_wp2_with fail
  refine (CA.out _ _).mono ?_
  rintro e w2 ⟨rfl, rfl⟩
  go_wp2_with (refine wpList_store_row rfl 55 (.tmp 6) (.tmp 24) rfl (w.heap.size + 1 + 1 + 1 + 1 + 1 + 1) #[.func (.func 96) #[] #[.pointer (some ⟨w.heap.size, 0, none⟩)], .func (.func 96) #[] #[.pointer (some ⟨w.heap.size + 1, 0, none⟩)], .func (.func 96) #[] #[.pointer (some ⟨w.heap.size + 1 + 1, 0, none⟩)], .func (.func 96) #[] #[.pointer (some ⟨w.heap.size + 1 + 1 + 1, 0, none⟩)], .func (.func 96) #[] #[.pointer (some ⟨w.heap.size + 1 + 1 + 1 + 1, 0, none⟩)], .func (.func 96) #[] #[.pointer (some ⟨w.heap.size + 1 + 1 + 1 + 1 + 1, 0, none⟩)], .func (.func 36) #[] #[], .func (.func 37) #[] #[]] rfl rfl 55 _ HG.out (by kernel_rfl) rfl (by simp [Value.oneCell']) ?_; generalize hW9 : (((((((w.alloc (.cells #[.int .i64 2048] 3)).alloc (.cells #[.int .i64 1] 3)).alloc (.cells #[.int .i64 64] 3)).alloc (.cells #[.int .i64 65] 3)).alloc (.cells #[.int .i64 128] 3)).alloc (.cells #[.int .i64 4] 3)).alloc (.cells #[.nilFunc, .nilFunc, .nilFunc, .nilFunc, .nilFunc, .nilFunc, .nilFunc, .nilFunc] 55)).setRow (w.heap.size + 1 + 1 + 1 + 1 + 1 + 1) #[.func (.func 96) #[] #[.pointer (some ⟨w.heap.size, 0, none⟩)], .func (.func 96) #[] #[.pointer (some ⟨w.heap.size + 1, 0, none⟩)], .func (.func 96) #[] #[.pointer (some ⟨w.heap.size + 1 + 1, 0, none⟩)], .func (.func 96) #[] #[.pointer (some ⟨w.heap.size + 1 + 1 + 1, 0, none⟩)], .func (.func 96) #[] #[.pointer (some ⟨w.heap.size + 1 + 1 + 1 + 1, 0, none⟩)], .func (.func 96) #[] #[.pointer (some ⟨w.heap.size + 1 + 1 + 1 + 1 + 1, 0, none⟩)], .func (.func 36) #[] #[], .func (.func 37) #[] #[]] = W9 at *; clear hW9)
  refine CX.out.mono ?_
  rintro e w2 ⟨rfl, rfl⟩
  go_wp2
  go_ret2
  exact ⟨rfl, HB.out⟩
set_option maxHeartbeats 1000000 in
theorem hI_11 (f : Int) (r : Bool) (hr : (bits .and .i64 f 4 != 0) = r) (w : World) (CF : Hid (∀ w, Calls Tryz.prog 34 #[.int .i64 f] w fun e w' => e = .returned (.bool true) ∧ w' = w)) : Calls Tryz.prog 11 #[.int .i64 11, .int .i64 f] w fun e w' => e = .returned (.tuple #[.bool (!r), .int .i64 0]) ∧ Below w.heap.size w w' := by
  have CA := Lib.hid anyOfC
  have HG := Lib.hid (show (((((((w.alloc (.cells #[.int .i64 2048] 3)).alloc (.cells #[.int .i64 1] 3)).alloc (.cells #[.int .i64 64] 3)).alloc (.cells #[.int .i64 65] 3)).alloc (.cells #[.int .i64 128] 3)).alloc (.cells #[.int .i64 4] 3)).alloc (.cells #[.nilFunc, .nilFunc, .nilFunc, .nilFunc, .nilFunc, .nilFunc, .nilFunc, .nilFunc] 55)).heap[w.heap.size + 1 + 1 + 1 + 1 + 1 + 1]? = some (.cells #[.nilFunc, .nilFunc, .nilFunc, .nilFunc, .nilFunc, .nilFunc, .nilFunc, .nilFunc] 55 (0, 0)) from by simpa using heap_alloc_new ((((((w.alloc (.cells #[.int .i64 2048] 3)).alloc (.cells #[.int .i64 1] 3)).alloc (.cells #[.int .i64 64] 3)).alloc (.cells #[.int .i64 65] 3)).alloc (.cells #[.int .i64 128] 3)).alloc (.cells #[.int .i64 4] 3)) (.cells #[.nilFunc, .nilFunc, .nilFunc, .nilFunc, .nilFunc, .nilFunc, .nilFunc, .nilFunc] 55))
  have HC : ((((((((w.alloc (.cells #[.int .i64 2048] 3)).alloc (.cells #[.int .i64 1] 3)).alloc (.cells #[.int .i64 64] 3)).alloc (.cells #[.int .i64 65] 3)).alloc (.cells #[.int .i64 128] 3)).alloc (.cells #[.int .i64 4] 3)).alloc (.cells #[.nilFunc, .nilFunc, .nilFunc, .nilFunc, .nilFunc, .nilFunc, .nilFunc, .nilFunc] 55)).setRow (w.heap.size + 1 + 1 + 1 + 1 + 1 + 1) #[.func (.func 96) #[] #[.pointer (some ⟨w.heap.size, 0, none⟩)], .func (.func 96) #[] #[.pointer (some ⟨w.heap.size + 1, 0, none⟩)], .func (.func 96) #[] #[.pointer (some ⟨w.heap.size + 1 + 1, 0, none⟩)], .func (.func 96) #[] #[.pointer (some ⟨w.heap.size + 1 + 1 + 1, 0, none⟩)], .func (.func 96) #[] #[.pointer (some ⟨w.heap.size + 1 + 1 + 1 + 1, 0, none⟩)], .func (.func 96) #[] #[.pointer (some ⟨w.heap.size + 1 + 1 + 1 + 1 + 1, 0, none⟩)], .func (.func 36) #[] #[], .func (.func 37) #[] #[]]).cell? ⟨w.heap.size + 1 + 1 + 1 + 1 + 1 + 1, 5, none⟩ = some (.func (.func 96) #[] #[.pointer (some ⟨w.heap.size + 1 + 1 + 1 + 1 + 1, 0, none⟩)]) := cell_setRow_same _ _ _ _ _ _ _ (by simpa using HG.out)
  have HB := Lib.hid (show Below w.heap.size w ((((((((w.alloc (.cells #[.int .i64 2048] 3)).alloc (.cells #[.int .i64 1] 3)).alloc (.cells #[.int .i64 64] 3)).alloc (.cells #[.int .i64 65] 3)).alloc (.cells #[.int .i64 128] 3)).alloc (.cells #[.int .i64 4] 3)).alloc (.cells #[.nilFunc, .nilFunc, .nilFunc, .nilFunc, .nilFunc, .nilFunc, .nilFunc, .nilFunc] 55)).setRow (w.heap.size + 1 + 1 + 1 + 1 + 1 + 1) #[.func (.func 96) #[] #[.pointer (some ⟨w.heap.size, 0, none⟩)], .func (.func 96) #[] #[.pointer (some ⟨w.heap.size + 1, 0, none⟩)], .func (.func 96) #[] #[.pointer (some ⟨w.heap.size + 1 + 1, 0, none⟩)], .func (.func 96) #[] #[.pointer (some ⟨w.heap.size + 1 + 1 + 1, 0, none⟩)], .func (.func 96) #[] #[.pointer (some ⟨w.heap.size + 1 + 1 + 1 + 1, 0, none⟩)], .func (.func 96) #[] #[.pointer (some ⟨w.heap.size + 1 + 1 + 1 + 1 + 1, 0, none⟩)], .func (.func 36) #[] #[], .func (.func 37) #[] #[]]) from below_setRow (((((((((Below.refl _ _).alloc (Nat.le_refl _) _).alloc (by simp) _).alloc (by simp; omega) _).alloc (by simp; omega) _).alloc (by simp; omega) _).alloc (by simp; omega) _).alloc (by simp; omega) _)) (by omega) _)
  have HX := Lib.hid (show ((((((((w.alloc (.cells #[.int .i64 2048] 3)).alloc (.cells #[.int .i64 1] 3)).alloc (.cells #[.int .i64 64] 3)).alloc (.cells #[.int .i64 65] 3)).alloc (.cells #[.int .i64 128] 3)).alloc (.cells #[.int .i64 4] 3)).alloc (.cells #[.nilFunc, .nilFunc, .nilFunc, .nilFunc, .nilFunc, .nilFunc, .nilFunc, .nilFunc] 55)).setRow (w.heap.size + 1 + 1 + 1 + 1 + 1 + 1) #[.func (.func 96) #[] #[.pointer (some ⟨w.heap.size, 0, none⟩)], .func (.func 96) #[] #[.pointer (some ⟨w.heap.size + 1, 0, none⟩)], .func (.func 96) #[] #[.pointer (some ⟨w.heap.size + 1 + 1, 0, none⟩)], .func (.func 96) #[] #[.pointer (some ⟨w.heap.size + 1 + 1 + 1, 0, none⟩)], .func (.func 96) #[] #[.pointer (some ⟨w.heap.size + 1 + 1 + 1 + 1, 0, none⟩)], .func (.func 96) #[] #[.pointer (some ⟨w.heap.size + 1 + 1 + 1 + 1 + 1, 0, none⟩)], .func (.func 36) #[] #[], .func (.func 37) #[] #[]]).cell? ⟨w.heap.size + 1 + 1 + 1 + 1 + 1, 0, none⟩ = some (.int .i64 4) from (cell_setRow_other _ _ _ _ (by simp; try omega)).trans (by go_simp))
  have CX := anyC 4 f (w.heap.size + 1 + 1 + 1 + 1 + 1) _ HX.out
  rw [hr] at CX
  replace CX := Lib.hid CX
  clear hr
  go_enter Tryz.func11, Tryz.ntmps11
  go_wp2_with fail
  refine (CF.out _).mono ?_
  rintro e w1 ⟨rfl, e1⟩
  obtain rfl := e1.symm
  go_wp2_with fail
  refine (CA.out _ _).mono ?_
  rintro e w2 ⟨rfl, rfl⟩
  go_wp2_with fail
  refine (CA.out _ _).mono ?_
  rintro e w2 ⟨rfl, rfl⟩
  go_wp2_with fail
  refine (CA.out _ _).mono ?_
  rintro e w2 ⟨rfl, rfl⟩
  go_wp2_with fail
  refine (CA.out _ _).mono ?_
  rintro e w2 ⟨rfl, rfl⟩
  go_wp2_with fail
  refine (CA.out _ _).mono ?_
  rintro e w2 ⟨rfl, rfl⟩
  go_wp2_with fail
  refine (CA.out _ _).mono ?_
  rintro e w2 ⟨rfl, rfl⟩
  go_wp2_with (refine wpList_store_row rfl 55 (.tmp 6) (.tmp 24) rfl (w.heap.size + 1 + 1 + 1 + 1 + 1 + 1) #[.func (.func 96) #[] #[.pointer (some ⟨w.heap.size, 0, none⟩)], .func (.func 96) #[] #[.pointer (some ⟨w.heap.size + 1, 0, none⟩)], .func (.func 96) #[] #[.pointer (some ⟨w.heap.size + 1 + 1, 0, none⟩)], .func (.func 96) #[] #[.pointer (some ⟨w.heap.size + 1 + 1 + 1, 0, none⟩)], .func (.func 96) #[] #[.pointer (some ⟨w.heap.size + 1 + 1 + 1 + 1, 0, none⟩)], .func (.func 96) #[] #[.pointer (some ⟨w.heap.size + 1 + 1 + 1 + 1 + 1, 0, none⟩)], .func (.func 36) #[] #[], .func (.func 37) #[] #[]] rfl rfl 55 _ HG.out (by kernel_rfl) rfl (by simp [Value.oneCell']) ?_; generalize hW9 : (((((((w.alloc (.cells #[.int .i64 2048] 3)).alloc (.cells #[.int .i64 1] 3)).alloc (.cells #[.int .i64 64] 3)).alloc (.cells #[.int .i64 65] 3)).alloc (.cells #[.int .i64 128] 3)).alloc (.cells #[.int .i64 4] 3)).alloc (.cells #[.nilFunc, .nilFunc, .nilFunc, .nilFunc, .nilFunc, .nilFunc, .nilFunc, .nilFunc] 55)).setRow (w.heap.size + 1 + 1 + 1 + 1 + 1 + 1) #[.func (.func 96) #[] #[.pointer (some ⟨w.heap.size, 0, none⟩)], .func (.func 96) #[] #[.pointer (some ⟨w.heap.size + 1, 0, none⟩)], .func (.func 96) #[] #[.pointer (some ⟨w.heap.size + 1 + 1, 0, none⟩)], .func (.func 96) #[] #[.pointer (some ⟨w.heap.size + 1 + 1 + 1, 0, none⟩)], .func (.func 96) #[] #[.pointer (some ⟨w.heap.size + 1 + 1 + 1 + 1, 0, none⟩)], .func (.func 96) #[] #[.pointer (some ⟨w.heap.size + 1 + 1 + 1 + 1 + 1, 0, none⟩)], .func (.func 36) #[] #[], .func (.func 37) #[] #[]] = W9 at *; clear hW9)
  refine CX.out.mono ?_
  rintro e w2 ⟨rfl, rfl⟩
  go_wp2
  go_ret2
  exact ⟨rfl, HB.out⟩
set_option maxHeartbeats 1000000 in
theorem hI_12 (f : Int) (r : Bool) (hr : ((bits .and .i64 f 128 != 0) != (bits .and .i64 f 2048 != 0)) = r) (w : World) (CF : Hid (∀ w, Calls Tryz.prog 34 #[.int .i64 f] w fun e w' => e = .returned (.bool true) ∧ w' = w)) : Calls Tryz.prog 11 #[.int .i64 12, .int .i64 f] w fun e w' => e = .returned (.tuple #[.bool (r), .int .i64 0]) ∧ Below w.heap.size w w' := by
  have CA := Lib.hid anyOfC
  have HG := Lib.hid (show (((((((w.alloc (.cells #[.int .i64 2048] 3)).alloc (.cells #[.int .i64 1] 3)).alloc (.cells #[.int .i64 64] 3)).alloc (.cells #[.int .i64 65] 3)).alloc (.cells #[.int .i64 128] 3)).alloc (.cells #[.int .i64 4] 3)).alloc (.cells #[.nilFunc, .nilFunc, .nilFunc, .nilFunc, .nilFunc, .nilFunc, .nilFunc, .nilFunc] 55)).heap[w.heap.size + 1 + 1 + 1 + 1 + 1 + 1]? = some (.cells #[.nilFunc, .nilFunc, .nilFunc, .nilFunc, .nilFunc, .nilFunc, .nilFunc, .nilFunc] 55 (0, 0)) from by simpa using heap_alloc_new ((((((w.alloc (.cells #[.int .i64 2048] 3)).alloc (.cells #[.int .i64 1] 3)).alloc (.cells #[.int .i64 64] 3)).alloc (.cells #[.int .i64 65] 3)).alloc (.cells #[.int .i64 128] 3)).alloc (.cells #[.int .i64 4] 3)) (.cells #[.nilFunc, .nilFunc, .nilFunc, .nilFunc, .nilFunc, .nilFunc, .nilFunc, .nilFunc] 55))
  have HC : ((((((((w.alloc (.cells #[.int .i64 2048] 3)).alloc (.cells #[.int .i64 1] 3)).alloc (.cells #[.int .i64 64] 3)).alloc (.cells #[.int .i64 65] 3)).alloc (.cells #[.int .i64 128] 3)).alloc (.cells #[.int .i64 4] 3)).alloc (.cells #[.nilFunc, .nilFunc, .nilFunc, .nilFunc, .nilFunc, .nilFunc, .nilFunc, .nilFunc] 55)).setRow (w.heap.size + 1 + 1 + 1 + 1 + 1 + 1) #[.func (.func 96) #[] #[.pointer (some ⟨w.heap.size, 0, none⟩)], .func (.func 96) #[] #[.pointer (some ⟨w.heap.size + 1, 0, none⟩)], .func (.func 96) #[] #[.pointer (some ⟨w.heap.size + 1 + 1, 0, none⟩)], .func (.func 96) #[] #[.pointer (some ⟨w.heap.size + 1 + 1 + 1, 0, none⟩)], .func (.func 96) #[] #[.pointer (some ⟨w.heap.size + 1 + 1 + 1 + 1, 0, none⟩)], .func (.func 96) #[] #[.pointer (some ⟨w.heap.size + 1 + 1 + 1 + 1 + 1, 0, none⟩)], .func (.func 36) #[] #[], .func (.func 37) #[] #[]]).cell? ⟨w.heap.size + 1 + 1 + 1 + 1 + 1 + 1, 6, none⟩ = some (.func (.func 36) #[] #[]) := cell_setRow_same _ _ _ _ _ _ _ (by simpa using HG.out)
  have HB := Lib.hid (show Below w.heap.size w ((((((((w.alloc (.cells #[.int .i64 2048] 3)).alloc (.cells #[.int .i64 1] 3)).alloc (.cells #[.int .i64 64] 3)).alloc (.cells #[.int .i64 65] 3)).alloc (.cells #[.int .i64 128] 3)).alloc (.cells #[.int .i64 4] 3)).alloc (.cells #[.nilFunc, .nilFunc, .nilFunc, .nilFunc, .nilFunc, .nilFunc, .nilFunc, .nilFunc] 55)).setRow (w.heap.size + 1 + 1 + 1 + 1 + 1 + 1) #[.func (.func 96) #[] #[.pointer (some ⟨w.heap.size, 0, none⟩)], .func (.func 96) #[] #[.pointer (some ⟨w.heap.size + 1, 0, none⟩)], .func (.func 96) #[] #[.pointer (some ⟨w.heap.size + 1 + 1, 0, none⟩)], .func (.func 96) #[] #[.pointer (some ⟨w.heap.size + 1 + 1 + 1, 0, none⟩)], .func (.func 96) #[] #[.pointer (some ⟨w.heap.size + 1 + 1 + 1 + 1, 0, none⟩)], .func (.func 96) #[] #[.pointer (some ⟨w.heap.size + 1 + 1 + 1 + 1 + 1, 0, none⟩)], .func (.func 36) #[] #[], .func (.func 37) #[] #[]]) from below_setRow (((((((((Below.refl _ _).alloc (Nat.le_refl _) _).alloc (by simp) _).alloc (by simp; omega) _).alloc (by simp; omega) _).alloc (by simp; omega) _).alloc (by simp; omega) _).alloc (by simp; omega) _)) (by omega) _)
  have CX := isLessC f ((((((((w.alloc (.cells #[.int .i64 2048] 3)).alloc (.cells #[.int .i64 1] 3)).alloc (.cells #[.int .i64 64] 3)).alloc (.cells #[.int .i64 65] 3)).alloc (.cells #[.int .i64 128] 3)).alloc (.cells #[.int .i64 4] 3)).alloc (.cells #[.nilFunc, .nilFunc, .nilFunc, .nilFunc, .nilFunc, .nilFunc, .nilFunc, .nilFunc] 55)).setRow (w.heap.size + 1 + 1 + 1 + 1 + 1 + 1) #[.func (.func 96) #[] #[.pointer (some ⟨w.heap.size, 0, none⟩)], .func (.func 96) #[] #[.pointer (some ⟨w.heap.size + 1, 0, none⟩)], .func (.func 96) #[] #[.pointer (some ⟨w.heap.size + 1 + 1, 0, none⟩)], .func (.func 96) #[] #[.pointer (some ⟨w.heap.size + 1 + 1 + 1, 0, none⟩)], .func (.func 96) #[] #[.pointer (some ⟨w.heap.size + 1 + 1 + 1 + 1, 0, none⟩)], .func (.func 96) #[] #[.pointer (some ⟨w.heap.size + 1 + 1 + 1 + 1 + 1, 0, none⟩)], .func (.func 36) #[] #[], .func (.func 37) #[] #[]])
  rw [hr] at CX
  replace CX := Lib.hid CX
  clear hr
  go_enter Tryz.func11, Tryz.ntmps11
  go_wp2_with fail
  refine (CF.out _).mono ?_
  rintro e w1 ⟨rfl, e1⟩
  obtain rfl := e1.symm
  go_wp2_with fail
  refine (CA.out _ _).mono ?_
  rintro e w2 ⟨rfl, rfl⟩
  go_wp2_with fail
  refine (CA.out _ _).mono ?_
  rintro e w2 ⟨rfl, rfl⟩
  go_wp2_with fail
  refine (CA.out _ _).mono ?_
  rintro e w2 ⟨rfl, rfl⟩
  go_wp2_with fail
  refine (CA.out _ _).mono ?_
  rintro e w2 ⟨rfl, rfl⟩
  go_wp2_with fail
  refine (CA.out _ _).mono ?_
  rintro e w2 ⟨rfl, rfl⟩
  go_wp2_with fail
  refine (CA.out _ _).mono ?_
  rintro e w2 ⟨rfl, rfl⟩
  go_wp2_with (refine wpList_store_row rfl 55 (.tmp 6) (.tmp 24) rfl (w.heap.size + 1 + 1 + 1 + 1 + 1 + 1) #[.func (.func 96) #[] #[.pointer (some ⟨w.heap.size, 0, none⟩)], .func (.func 96) #[] #[.pointer (some ⟨w.heap.size + 1, 0, none⟩)], .func (.func 96) #[] #[.pointer (some ⟨w.heap.size + 1 + 1, 0, none⟩)], .func (.func 96) #[] #[.pointer (some ⟨w.heap.size + 1 + 1 + 1, 0, none⟩)], .func (.func 96) #[] #[.pointer (some ⟨w.heap.size + 1 + 1 + 1 + 1, 0, none⟩)], .func (.func 96) #[] #[.pointer (some ⟨w.heap.size + 1 + 1 + 1 + 1 + 1, 0, none⟩)], .func (.func 36) #[] #[], .func (.func 37) #[] #[]] rfl rfl 55 _ HG.out (by kernel_rfl) rfl (by simp [Value.oneCell']) ?_; generalize hW9 : (((((((w.alloc (.cells #[.int .i64 2048] 3)).alloc (.cells #[.int .i64 1] 3)).alloc (.cells #[.int .i64 64] 3)).alloc (.cells #[.int .i64 65] 3)).alloc (.cells #[.int .i64 128] 3)).alloc (.cells #[.int .i64 4] 3)).alloc (.cells #[.nilFunc, .nilFunc, .nilFunc, .nilFunc, .nilFunc, .nilFunc, .nilFunc, .nilFunc] 55)).setRow (w.heap.size + 1 + 1 + 1 + 1 + 1 + 1) #[.func (.func 96) #[] #[.pointer (some ⟨w.heap.size, 0, none⟩)], .func (.func 96) #[] #[.pointer (some ⟨w.heap.size + 1, 0, none⟩)], .func (.func 96) #[] #[.pointer (some ⟨w.heap.size + 1 + 1, 0, none⟩)], .func (.func 96) #[] #[.pointer (some ⟨w.heap.size + 1 + 1 + 1, 0, none⟩)], .func (.func 96) #[] #[.pointer (some ⟨w.heap.size + 1 + 1 + 1 + 1, 0, none⟩)], .func (.func 96) #[] #[.pointer (some ⟨w.heap.size + 1 + 1 + 1 + 1 + 1, 0, none⟩)], .func (.func 36) #[] #[], .func (.func 37) #[] #[]] = W9 at *; clear hW9)
  refine CX.out.mono ?_
  rintro e w2 ⟨rfl, rfl⟩
  go_wp2
  go_ret2
  exact ⟨rfl, HB.out⟩
set_option maxHeartbeats 1000000 in
theorem hI_13 (f : Int) (r : Bool) (hr : ((bits .and .i64 f 128 != 0) != (bits .and .i64 f 2048 != 0)) = r) (w : World) (CF : Hid (∀ w, Calls Tryz.prog 34 #[.int .i64 f] w fun e w' => e = .returned (.bool true) ∧ w' = w)) : Calls Tryz.prog 11 #[.int .i64 13, .int .i64 f] w fun e w' => e = .returned (.tuple #[.bool (!r), .int .i64 0]) ∧ Below w.heap.size w w' := by
  have CA := Lib.hid anyOfC
  have HG := Lib.hid (show (((((((w.alloc (.cells #[.int .i64 2048] 3)).alloc (.cells #[.int .i64 1] 3)).alloc (.cells #[.int .i64 64] 3)).alloc (.cells #[.int .i64 65] 3)).alloc (.cells #[.int .i64 128] 3)).alloc (.cells #[.int .i64 4] 3)).alloc (.cells #[.nilFunc, .nilFunc, .nilFunc, .nilFunc, .nilFunc, .nilFunc, .nilFunc, .nilFunc] 55)).heap[w.heap.size + 1 + 1 + 1 + 1 + 1 + 1]? = some (.cells #[.nilFunc, .nilFunc, .nilFunc, .nilFunc, .nilFunc, .nilFunc, .nilFunc, .nilFunc] 55 (0, 0)) from by simpa using heap_alloc_new ((((((w.alloc (.cells #[.int .i64 2048] 3)).alloc (.cells #[.int .i64 1] 3)).alloc (.cells #[.int .i64 64] 3)).alloc (.cells #[.int .i64 65] 3)).alloc (.cells #[.int .i64 128] 3)).alloc (.cells #[.int .i64 4] 3)) (.cells #[.nilFunc, .nilFunc, .nilFunc, .nilFunc, .nilFunc, .nilFunc, .nilFunc, .nilFunc] 55))
  have HC : ((((((((w.alloc (.cells #[.int .i64 2048] 3)).alloc (.cells #[.int .i64 1] 3)).alloc (.cells #[.int .i64 64] 3)).alloc (.cells #[.int .i64 65] 3)).alloc (.cells #[.int .i64 128] 3)).alloc (.cells #[.int .i64 4] 3)).alloc (.cells #[.nilFunc, .nilFunc, .nilFunc, .nilFunc, .nilFunc, .nilFunc, .nilFunc, .nilFunc] 55)).setRow (w.heap.size + 1 + 1 + 1 + 1 + 1 + 1) #[.func (.func 96) #[] #[.pointer (some ⟨w.heap.size, 0, none⟩)], .func (.func 96) #[] #[.pointer (some ⟨w.heap.size + 1, 0, none⟩)], .func (.func 96) #[] #[.pointer (some ⟨w.heap.size + 1 + 1, 0, none⟩)], .func (.func 96) #[] #[.pointer (some ⟨w.heap.size + 1 + 1 + 1, 0, none⟩)], .func (.func 96) #[] #[.pointer (some ⟨w.heap.size + 1 + 1 + 1 + 1, 0, none⟩)], .func (.func 96) #[] #[.pointer (some ⟨w.heap.size + 1 + 1 + 1 + 1 + 1, 0, none⟩)], .func (.func 36) #[] #[], .func (.func 37) #[] #[]]).cell? ⟨w.heap.size + 1 + 1 + 1 + 1 + 1 + 1, 6, none⟩ = some (.func (.func 36) #[] #[]) := cell_setRow_same _ _ _ _ _ _ _ (by simpa using HG.out)
  have HB := Lib.hid (show Below w.heap.size w ((((((((w.alloc (.cells #[.int .i64 2048] 3)).alloc (.cells #[.int .i64 1] 3)).alloc (.cells #[.int .i64 64] 3)).alloc (.cells #[.int .i64 65] 3)).alloc (.cells #[.int .i64 128] 3)).alloc (.cells #[.int .i64 4] 3)).alloc (.cells #[.nilFunc, .nilFunc, .nilFunc, .nilFunc, .nilFunc, .nilFunc, .nilFunc, .nilFunc] 55)).setRow (w.heap.size + 1 + 1 + 1 + 1 + 1 + 1) #[.func (.func 96) #[] #[.pointer (some ⟨w.heap.size, 0, none⟩)], .func (.func 96) #[] #[.pointer (some ⟨w.heap.size + 1, 0, none⟩)], .func (.func 96) #[] #[.pointer (some ⟨w.heap.size + 1 + 1, 0, none⟩)], .func (.func 96) #[] #[.pointer (some ⟨w.heap.size + 1 + 1 + 1, 0, none⟩)], .func (.func 96) #[] #[.pointer (some ⟨w.heap.size + 1 + 1 + 1 + 1, 0, none⟩)], .func (.func 96) #[] #[.pointer (some ⟨w.heap.size + 1 + 1 + 1 + 1 + 1, 0, none⟩)], .func (.func 36) #[] #[], .func (.func 37) #[] #[]]) from below_setRow (((((((((Below.refl _ _).alloc (Nat.le_refl _) _).alloc (by simp) _).alloc (by simp; omega) _).alloc (by simp; omega) _).alloc (by simp; omega) _).alloc (by simp; omega) _).alloc (by simp; omega) _)) (by omega) _)
  have CX := isLessC f ((((((((w.alloc (.cells #[.int .i64 2048] 3)).alloc (.cells #[.int .i64 1] 3)).alloc (.cells #[.int .i64 64] 3)).alloc (.cells #[.int .i64 65] 3)).alloc (.cells #[.int .i64 128] 3)).alloc (.cells #[.int .i64 4] 3)).alloc (.cells #[.nilFunc, .nilFunc, .nilFunc, .nilFunc, .nilFunc, .nilFunc, .nilFunc, .nilFunc] 55)).setRow (w.heap.size + 1 + 1 + 1 + 1 + 1 + 1) #[.func (.func 96) #[] #[.pointer (some ⟨w.heap.size, 0, none⟩)], .func (.func 96) #[] #[.pointer (some ⟨w.heap.size + 1, 0, none⟩)], .func (.func 96) #[] #[.pointer (some ⟨w.heap.size + 1 + 1, 0, none⟩)], .func (.func 96) #[] #[.pointer (some ⟨w.heap.size + 1 + 1 + 1, 0, none⟩)], .func (.func 96) #[] #[.pointer (some ⟨w.heap.size + 1 + 1 + 1 + 1, 0, none⟩)], .func (.func 96) #[] #[.pointer (some ⟨w.heap.size + 1 + 1 + 1 + 1 + 1, 0, none⟩)], .func (.func 36) #[] #[], .func (.func 37) #[] #[]])
  rw [hr] at CX
  replace CX := Lib.hid CX
  clear hr
  go_enter Tryz.func11, Tryz.ntmps11
  go_wp2_with fail
  refine (CF.out _).mono ?_
  rintro e w1 ⟨rfl, e1⟩
  obtain rfl := e1.symm
  go_wp2_with fail
  refine (CA.out _ _).mono ?_
  rintro e w2 ⟨rfl, rfl⟩
  go_wp2_with fail
  refine (CA.out _ _).mono ?_
  rintro e w2 ⟨rfl, rfl⟩
  go_wp2_with fail
  refine (CA.out _ _).mono ?_
  rintro e w2 ⟨rfl, rfl⟩
  go_wp2_with fail
  refine (CA.out _ _).mono ?_
  rintro e w2 ⟨rfl, rfl⟩
  go_wp2_with fail
  refine (CA.out _ _).mono ?_
  rintro e w2 ⟨rfl, rfl⟩
  go_wp2_with fail
  refine (CA.out _ _).mono ?_
  rintro e w2 ⟨rfl, rfl⟩
  go_wp2_with (refine wpList_store_row rfl 55 (.tmp 6) (.tmp 24) rfl (w.heap.size + 1 + 1 + 1 + 1 + 1 + 1) #[.func (.func 96) #[] #[.pointer (some ⟨w.heap.size, 0, none⟩)], .func (.func 96) #[] #[.pointer (some ⟨w.heap.size + 1, 0, none⟩)], .func (.func 96) #[] #[.pointer (some ⟨w.heap.size + 1 + 1, 0, none⟩)], .func (.func 96) #[] #[.pointer (some ⟨w.heap.size + 1 + 1 + 1, 0, none⟩)], .func (.func 96) #[] #[.pointer (some ⟨w.heap.size + 1 + 1 + 1 + 1, 0, none⟩)], .func (.func 96) #[] #[.pointer (some ⟨w.heap.size + 1 + 1 + 1 + 1 + 1, 0, none⟩)], .func (.func 36) #[] #[], .func (.func 37) #[] #[]] rfl rfl 55 _ HG.out (by kernel_rfl) rfl (by simp [Value.oneCell']) ?_; generalize hW9 : (((((((w.alloc (.cells #[.int .i64 2048] 3)).alloc (.cells #[.int .i64 1] 3)).alloc (.cells #[.int .i64 64] 3)).alloc (.cells #[.int .i64 65] 3)).alloc (.cells #[.int .i64 128] 3)).alloc (.cells #[.int .i64 4] 3)).alloc (.cells #[.nilFunc, .nilFunc, .nilFunc, .nilFunc, .nilFunc, .nilFunc, .nilFunc, .nilFunc] 55)).setRow (w.heap.size + 1 + 1 + 1 + 1 + 1 + 1) #[.func (.func 96) #[] #[.pointer (some ⟨w.heap.size, 0, none⟩)], .func (.func 96) #[] #[.pointer (some ⟨w.heap.size + 1, 0, none⟩)], .func (.func 96) #[] #[.pointer (some ⟨w.heap.size + 1 + 1, 0, none⟩)], .func (.func 96) #[] #[.pointer (some ⟨w.heap.size + 1 + 1 + 1, 0, none⟩)], .func (.func 96) #[] #[.pointer (some ⟨w.heap.size + 1 + 1 + 1 + 1, 0, none⟩)], .func (.func 96) #[] #[.pointer (some ⟨w.heap.size + 1 + 1 + 1 + 1 + 1, 0, none⟩)], .func (.func 36) #[] #[], .func (.func 37) #[] #[]] = W9 at *; clear hW9)
  refine CX.out.mono ?_
  rintro e w2 ⟨rfl, rfl⟩
  go_wp2
  go_ret2
  exact ⟨rfl, HB.out⟩
set_option maxHeartbeats 1000000 in
theorem hI_14 (f : Int) (v r : Bool) (hr : (v || bits .and .i64 f 64 != 0) = r) (hv : ((bits .and .i64 f 128 != 0) != (bits .and .i64 f 2048 != 0)) = v) (w : World) (CF : Hid (∀ w, Calls Tryz.prog 34 #[.int .i64 f] w fun e w' => e = .returned (.bool true) ∧ w' = w)) : Calls Tryz.prog 11 #[.int .i64 14, .int .i64 f] w fun e w' => e = .returned (.tuple #[.bool (r), .int .i64 0]) ∧ Below w.heap.size w w' := by
  have CA := Lib.hid anyOfC
  have HG := Lib.hid (show (((((((w.alloc (.cells #[.int .i64 2048] 3)).alloc (.cells #[.int .i64 1] 3)).alloc (.cells #[.int .i64 64] 3)).alloc (.cells #[.int .i64 65] 3)).alloc (.cells #[.int .i64 128] 3)).alloc (.cells #[.int .i64 4] 3)).alloc (.cells #[.nilFunc, .nilFunc, .nilFunc, .nilFunc, .nilFunc, .nilFunc, .nilFunc, .nilFunc] 55)).heap[w.heap.size + 1 + 1 + 1 + 1 + 1 + 1]? = some (.cells #[.nilFunc, .nilFunc, .nilFunc, .nilFunc, .nilFunc, .nilFunc, .nilFunc, .nilFunc] 55 (0, 0)) from by simpa using heap_alloc_new ((((((w.alloc (.cells #[.int .i64 2048] 3)).alloc (.cells #[.int .i64 1] 3)).alloc (.cells #[.int .i64 64] 3)).alloc (.cells #[.int .i64 65] 3)).alloc (.cells #[.int .i64 128] 3)).alloc (.cells #[.int .i64 4] 3)) (.cells #[.nilFunc, .nilFunc, .nilFunc, .nilFunc, .nilFunc, .nilFunc, .nilFunc, .nilFunc] 55))
  have HC : ((((((((w.alloc (.cells #[.int .i64 2048] 3)).alloc (.cells #[.int .i64 1] 3)).alloc (.cells #[.int .i64 64] 3)).alloc (.cells #[.int .i64 65] 3)).alloc (.cells #[.int .i64 128] 3)).alloc (.cells #[.int .i64 4] 3)).alloc (.cells #[.nilFunc, .nilFunc, .nilFunc, .nilFunc, .nilFunc, .nilFunc, .nilFunc, .nilFunc] 55)).setRow (w.heap.size + 1 + 1 + 1 + 1 + 1 + 1) #[.func (.func 96) #[] #[.pointer (some ⟨w.heap.size, 0, none⟩)], .func (.func 96) #[] #[.pointer (some ⟨w.heap.size + 1, 0, none⟩)], .func (.func 96) #[] #[.pointer (some ⟨w.heap.size + 1 + 1, 0, none⟩)], .func (.func 96) #[] #[.pointer (some ⟨w.heap.size + 1 + 1 + 1, 0, none⟩)], .func (.func 96) #[] #[.pointer (some ⟨w.heap.size + 1 + 1 + 1 + 1, 0, none⟩)], .func (.func 96) #[] #[.pointer (some ⟨w.heap.size + 1 + 1 + 1 + 1 + 1, 0, none⟩)], .func (.func 36) #[] #[], .func (.func 37) #[] #[]]).cell? ⟨w.heap.size + 1 + 1 + 1 + 1 + 1 + 1, 7, none⟩ = some (.func (.func 37) #[] #[]) := cell_setRow_same _ _ _ _ _ _ _ (by simpa using HG.out)
  have HB := Lib.hid (show Below w.heap.size w ((((((((w.alloc (.cells #[.int .i64 2048] 3)).alloc (.cells #[.int .i64 1] 3)).alloc (.cells #[.int .i64 64] 3)).alloc (.cells #[.int .i64 65] 3)).alloc (.cells #[.int .i64 128] 3)).alloc (.cells #[.int .i64 4] 3)).alloc (.cells #[.nilFunc, .nilFunc, .nilFunc, .nilFunc, .nilFunc, .nilFunc, .nilFunc, .nilFunc] 55)).setRow (w.heap.size + 1 + 1 + 1 + 1 + 1 + 1) #[.func (.func 96) #[] #[.pointer (some ⟨w.heap.size, 0, none⟩)], .func (.func 96) #[] #[.pointer (some ⟨w.heap.size + 1, 0, none⟩)], .func (.func 96) #[] #[.pointer (some ⟨w.heap.size + 1 + 1, 0, none⟩)], .func (.func 96) #[] #[.pointer (some ⟨w.heap.size + 1 + 1 + 1, 0, none⟩)], .func (.func 96) #[] #[.pointer (some ⟨w.heap.size + 1 + 1 + 1 + 1, 0, none⟩)], .func (.func 96) #[] #[.pointer (some ⟨w.heap.size + 1 + 1 + 1 + 1 + 1, 0, none⟩)], .func (.func 36) #[] #[], .func (.func 37) #[] #[]]) from below_setRow (((((((((Below.refl _ _).alloc (Nat.le_refl _) _).alloc (by simp) _).alloc (by simp; omega) _).alloc (by simp; omega) _).alloc (by simp; omega) _).alloc (by simp; omega) _).alloc (by simp; omega) _)) (by omega) _)
  have CX := isLessOrC f v ((((((((w.alloc (.cells #[.int .i64 2048] 3)).alloc (.cells #[.int .i64 1] 3)).alloc (.cells #[.int .i64 64] 3)).alloc (.cells #[.int .i64 65] 3)).alloc (.cells #[.int .i64 128] 3)).alloc (.cells #[.int .i64 4] 3)).alloc (.cells #[.nilFunc, .nilFunc, .nilFunc, .nilFunc, .nilFunc, .nilFunc, .nilFunc, .nilFunc] 55)).setRow (w.heap.size + 1 + 1 + 1 + 1 + 1 + 1) #[.func (.func 96) #[] #[.pointer (some ⟨w.heap.size, 0, none⟩)], .func (.func 96) #[] #[.pointer (some ⟨w.heap.size + 1, 0, none⟩)], .func (.func 96) #[] #[.pointer (some ⟨w.heap.size + 1 + 1, 0, none⟩)], .func (.func 96) #[] #[.pointer (some ⟨w.heap.size + 1 + 1 + 1, 0, none⟩)], .func (.func 96) #[] #[.pointer (some ⟨w.heap.size + 1 + 1 + 1 + 1, 0, none⟩)], .func (.func 96) #[] #[.pointer (some ⟨w.heap.size + 1 + 1 + 1 + 1 + 1, 0, none⟩)], .func (.func 36) #[] #[], .func (.func 37) #[] #[]]) hv
  rw [hr] at CX
  replace CX := Lib.hid CX
  clear hr hv
  go_enter Tryz.func11, Tryz.ntmps11
  go_wp2_with fail
  refine (CF.out _).mono ?_
  rintro e w1 ⟨rfl, e1⟩
  obtain rfl := e1.symm
  go_wp2_with fail
  refine (CA.out _ _).mono ?_
  rintro e w2 ⟨rfl, rfl⟩
  go_wp2_with fail
  refine (CA.out _ _).mono ?_
  rintro e w2 ⟨rfl, rfl⟩
  go_wp2_with fail
  refine (CA.out _ _).mono ?_
  rintro e w2 ⟨rfl, rfl⟩
  go_wp2_with fail
  refine (CA.out _ _).mono ?_
  rintro e w2 ⟨rfl, rfl⟩
  go_wp2_with fail
  refine (CA.out _ _).mono ?_
  rintro e w2 ⟨rfl, rfl⟩
  go_wp2_with fail
  refine (CA.out _ _).mono ?_
  rintro e w2 ⟨rfl, rfl⟩
  go_wp2_with (refine wpList_store_row rfl 55 (.tmp 6) (.tmp 24) rfl (w.heap.size + 1 + 1 + 1 + 1 + 1 + 1) #[.func (.func 96) #[] #[.pointer (some ⟨w.heap.size, 0, none⟩)], .func (.func 96) #[] #[.pointer (some ⟨w.heap.size + 1, 0, none⟩)], .func (.func 96) #[] #[.pointer (some ⟨w.heap.size + 1 + 1, 0, none⟩)], .func (.func 96) #[] #[.pointer (some ⟨w.heap.size + 1 + 1 + 1, 0, none⟩)], .func (.func 96) #[] #[.pointer (some ⟨w.heap.size + 1 + 1 + 1 + 1, 0, none⟩)], .func (.func 96) #[] #[.pointer (some ⟨w.heap.size + 1 + 1 + 1 + 1 + 1, 0, none⟩)], .func (.func 36) #[] #[], .func (.func 37) #[] #[]] rfl rfl 55 _ HG.out (by kernel_rfl) rfl (by simp [Value.oneCell']) ?_; generalize hW9 : (((((((w.alloc (.cells #[.int .i64 2048] 3)).alloc (.cells #[.int .i64 1] 3)).alloc (.cells #[.int .i64 64] 3)).alloc (.cells #[.int .i64 65] 3)).alloc (.cells #[.int .i64 128] 3)).alloc (.cells #[.int .i64 4] 3)).alloc (.cells #[.nilFunc, .nilFunc, .nilFunc, .nilFunc, .nilFunc, .nilFunc, .nilFunc, .nilFunc] 55)).setRow (w.heap.size + 1 + 1 + 1 + 1 + 1 + 1) #[.func (.func 96) #[] #[.pointer (some ⟨w.heap.size, 0, none⟩)], .func (.func 96) #[] #[.pointer (some ⟨w.heap.size + 1, 0, none⟩)], .func (.func 96) #[] #[.pointer (some ⟨w.heap.size + 1 + 1, 0, none⟩)], .func (.func 96) #[] #[.pointer (some ⟨w.heap.size + 1 + 1 + 1, 0, none⟩)], .func (.func 96) #[] #[.pointer (some ⟨w.heap.size + 1 + 1 + 1 + 1, 0, none⟩)], .func (.func 96) #[] #[.pointer (some ⟨w.heap.size + 1 + 1 + 1 + 1 + 1, 0, none⟩)], .func (.func 36) #[] #[], .func (.func 37) #[] #[]] = W9 at *; clear hW9)
  refine CX.out.mono ?_
  rintro e w2 ⟨rfl, rfl⟩
  go_wp2
  go_ret2
  exact ⟨rfl, HB.out⟩
set_option maxHeartbeats 1000000 in
theorem hI_15 (f : Int) (v r : Bool) (hr : (v || bits .and .i64 f 64 != 0) = r) (hv : ((bits .and .i64 f 128 != 0) != (bits .and .i64 f 2048 != 0)) = v) (w : World) (CF : Hid (∀ w, Calls Tryz.prog 34 #[.int .i64 f] w fun e w' => e = .returned (.bool true) ∧ w' = w)) : Calls Tryz.prog 11 #[.int .i64 15, .int .i64 f] w fun e w' => e = .returned (.tuple #[.bool (!r), .int .i64 0]) ∧ Below w.heap.size w w' := by
  have CA := Lib.hid anyOfC
  have HG := Lib.hid (show (((((((w.alloc (.cells #[.int .i64 2048] 3)).alloc (.cells #[.int .i64 1] 3)).alloc (.cells #[.int .i64 64] 3)).alloc (.cells #[.int .i64 65] 3)).alloc (.cells #[.int .i64 128] 3)).alloc (.cells #[.int .i64 4] 3)).alloc (.cells #[.nilFunc, .nilFunc, .nilFunc, .nilFunc, .nilFunc, .nilFunc, .nilFunc, .nilFunc] 55)).heap[w.heap.size + 1 + 1 + 1 + 1 + 1 + 1]? = some (.cells #[.nilFunc, .nilFunc, .nilFunc, .nilFunc, .nilFunc, .nilFunc, .nilFunc, .nilFunc] 55 (0, 0)) from by simpa using heap_alloc_new ((((((w.alloc (.cells #[.int .i64 2048] 3)).alloc (.cells #[.int .i64 1] 3)).alloc (.cells #[.int .i64 64] 3)).alloc (.cells #[.int .i64 65] 3)).alloc (.cells #[.int .i64 128] 3)).alloc (.cells #[.int .i64 4] 3)) (.cells #[.nilFunc, .nilFunc, .nilFunc, .nilFunc, .nilFunc, .nilFunc, .nilFunc, .nilFunc] 55))
  have HC : ((((((((w.alloc (.cells #[.int .i64 2048] 3)).alloc (.cells #[.int .i64 1] 3)).alloc (.cells #[.int .i64 64] 3)).alloc (.cells #[.int .i64 65] 3)).alloc (.cells #[.int .i64 128] 3)).alloc (.cells #[.int .i64 4] 3)).alloc (.cells #[.nilFunc, .nilFunc, .nilFunc, .nilFunc, .nilFunc, .nilFunc, .nilFunc, .nilFunc] 55)).setRow (w.heap.size + 1 + 1 + 1 + 1 + 1 + 1) #[.func (.func 96) #[] #[.pointer (some ⟨w.heap.size, 0, none⟩)], .func (.func 96) #[] #[.pointer (some ⟨w.heap.size + 1, 0, none⟩)], .func (.func 96) #[] #[.pointer (some ⟨w.heap.size + 1 + 1, 0, none⟩)], .func (.func 96) #[] #[.pointer (some ⟨w.heap.size + 1 + 1 + 1, 0, none⟩)], .func (.func 96) #[] #[.pointer (some ⟨w.heap.size + 1 + 1 + 1 + 1, 0, none⟩)], .func (.func 96) #[] #[.pointer (some ⟨w.heap.size + 1 + 1 + 1 + 1 + 1, 0, none⟩)], .func (.func 36) #[] #[], .func (.func 37) #[] #[]]).cell? ⟨w.heap.size + 1 + 1 + 1 + 1 + 1 + 1, 7, none⟩ = some (.func (.func 37) #[] #[]) := cell_setRow_same _ _ _ _ _ _ _ (by simpa using HG.out)
  have HB := Lib.hid (show Below w.heap.size w ((((((((w.alloc (.cells #[.int .i64 2048] 3)).alloc (.cells #[.int .i64 1] 3)).alloc (.cells #[.int .i64 64] 3)).alloc (.cells #[.int .i64 65] 3)).alloc (.cells #[.int .i64 128] 3)).alloc (.cells #[.int .i64 4] 3)).alloc (.cells #[.nilFunc, .nilFunc, .nilFunc, .nilFunc, .nilFunc, .nilFunc, .nilFunc, .nilFunc] 55)).setRow (w.heap.size + 1 + 1 + 1 + 1 + 1 + 1) #[.func (.func 96) #[] #[.pointer (some ⟨w.heap.size, 0, none⟩)], .func (.func 96) #[] #[.pointer (some ⟨w.heap.size + 1, 0, none⟩)], .func (.func 96) #[] #[.pointer (some ⟨w.heap.size + 1 + 1, 0, none⟩)], .func (.func 96) #[] #[.pointer (some ⟨w.heap.size + 1 + 1 + 1, 0, none⟩)], .func (.func 96) #[] #[.pointer (some ⟨w.heap.size + 1 + 1 + 1 + 1, 0, none⟩)], .func (.func 96) #[] #[.pointer (some ⟨w.heap.size + 1 + 1 + 1 + 1 + 1, 0, none⟩)], .func (.func 36) #[] #[], .func (.func 37) #[] #[]]) from below_setRow (((((((((Below.refl _ _).alloc (Nat.le_refl _) _).alloc (by simp) _).alloc (by simp; omega) _).alloc (by simp; omega) _).alloc (by simp; omega) _).alloc (by simp; omega) _).alloc (by simp; omega) _)) (by omega) _)
  have CX := isLessOrC f v ((((((((w.alloc (.cells #[.int .i64 2048] 3)).alloc (.cells #[.int .i64 1] 3)).alloc (.cells #[.int .i64 64] 3)).alloc (.cells #[.int .i64 65] 3)).alloc (.cells #[.int .i64 128] 3)).alloc (.cells #[.int .i64 4] 3)).alloc (.cells #[.nilFunc, .nilFunc, .nilFunc, .nilFunc, .nilFunc, .nilFunc, .nilFunc, .nilFunc] 55)).setRow (w.heap.size + 1 + 1 + 1 + 1 + 1 + 1) #[.func (.func 96) #[] #[.pointer (some ⟨w.heap.size, 0, none⟩)], .func (.func 96) #[] #[.pointer (some ⟨w.heap.size + 1, 0, none⟩)], .func (.func 96) #[] #[.pointer (some ⟨w.heap.size + 1 + 1, 0, none⟩)], .func (.func 96) #[] #[.pointer (some ⟨w.heap.size + 1 + 1 + 1, 0, none⟩)], .func (.func 96) #[] #[.pointer (some ⟨w.heap.size + 1 + 1 + 1 + 1, 0, none⟩)], .func (.func 96) #[] #[.pointer (some ⟨w.heap.size + 1 + 1 + 1 + 1 + 1, 0, none⟩)], .func (.func 36) #[] #[], .func (.func 37) #[] #[]]) hv
  rw [hr] at CX
  replace CX := Lib.hid CX
  clear hr hv
  go_enter Tryz.func11, Tryz.ntmps11
  go_wp2_with fail
  refine (CF.out _).mono ?_
  rintro e w1 ⟨rfl, e1⟩
  obtain rfl := e1.symm
  go_wp2_with fail
  refine (CA.out _ _).mono ?_
  rintro e w2 ⟨rfl, rfl⟩
  go_wp2_with fail
  refine (CA.out _ _).mono ?_
  rintro e w2 ⟨rfl, rfl⟩
  go_wp2_with fail
  refine (CA.out _ _).mono ?_
  rintro e w2 ⟨rfl, rfl⟩
  go_wp2_with fail
  refine (CA.out _ _).mono ?_
  rintro e w2 ⟨rfl, rfl⟩
  go_wp2_with fail
  refine (CA.out _ _).mono ?_
  rintro e w2 ⟨rfl, rfl⟩
  go_wp2_with fail
  refine (CA.out _ _).mono ?_
  rintro e w2 ⟨rfl, rfl⟩
  go_wp2_with (refine wpList_store_row rfl 55 (.tmp 6) (.tmp 24) rfl (w.heap.size + 1 + 1 + 1 + 1 + 1 + 1) #[.func (.func 96) #[] #[.pointer (some ⟨w.heap.size, 0, none⟩)], .func (.func 96) #[] #[.pointer (some ⟨w.heap.size + 1, 0, none⟩)], .func (.func 96) #[] #[.pointer (some ⟨w.heap.size + 1 + 1, 0, none⟩)], .func (.func 96) #[] #[.pointer (some ⟨w.heap.size + 1 + 1 + 1, 0, none⟩)], .func (.func 96) #[] #[.pointer (some ⟨w.heap.size + 1 + 1 + 1 + 1, 0, none⟩)], .func (.func 96) #[] #[.pointer (some ⟨w.heap.size + 1 + 1 + 1 + 1 + 1, 0, none⟩)], .func (.func 36) #[] #[], .func (.func 37) #[] #[]] rfl rfl 55 _ HG.out (by kernel_rfl) rfl (by simp [Value.oneCell']) ?_; generalize hW9 : (((((((w.alloc (.cells #[.int .i64 2048] 3)).alloc (.cells #[.int .i64 1] 3)).alloc (.cells #[.int .i64 64] 3)).alloc (.cells #[.int .i64 65] 3)).alloc (.cells #[.int .i64 128] 3)).alloc (.cells #[.int .i64 4] 3)).alloc (.cells #[.nilFunc, .nilFunc, .nilFunc, .nilFunc, .nilFunc, .nilFunc, .nilFunc, .nilFunc] 55)).setRow (w.heap.size + 1 + 1 + 1 + 1 + 1 + 1) #[.func (.func 96) #[] #[.pointer (some ⟨w.heap.size, 0, none⟩)], .func (.func 96) #[] #[.pointer (some ⟨w.heap.size + 1, 0, none⟩)], .func (.func 96) #[] #[.pointer (some ⟨w.heap.size + 1 + 1, 0, none⟩)], .func (.func 96) #[] #[.pointer (some ⟨w.heap.size + 1 + 1 + 1, 0, none⟩)], .func (.func 96) #[] #[.pointer (some ⟨w.heap.size + 1 + 1 + 1 + 1, 0, none⟩)], .func (.func 96) #[] #[.pointer (some ⟨w.heap.size + 1 + 1 + 1 + 1 + 1, 0, none⟩)], .func (.func 36) #[] #[], .func (.func 37) #[] #[]] = W9 at *; clear hW9)
  refine CX.out.mono ?_
  rintro e w2 ⟨rfl, rfl⟩
  go_wp2
  go_ret2
  exact ⟨rfl, HB.out⟩
end Go.Proofs.YtifpcfhfglkbcaaGreatDoor
