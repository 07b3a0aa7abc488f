/-
  x
-/
import Derived.Test.YtifpcfhfglkbcaaGreatDoorMathFl
import Derived.Test.YtifpcfhfglkbcaaGreatDoorProg
import Derived.WalkKit
import Derived.OpenShut
import Derived.WalkSpells
import Derived.WalkLawsBesides
import Derived.Lib.Hide
namespace Go.Proofs.YtifpcfhfglkbcaaGreatDoor
open Go.RowKit
set_option linter.unusedVariables false
set_option maxHeartbeats 400000 in
theorem flagsOKI (f : Int) (w : World) : Calls Tryz.prog 34 #[.int .i64 f] w fun e w' => e = .returned (.bool (decide (IntKind.i64.wrap ((BitVec.ofInt 64 f &&& ~~~ (BitVec.ofInt 64 2245)).toNat : Int) = 0))) ∧ w' = w := by
  go_enter Tryz.func34, Tryz.ntmps34
  go_wp2
  go_ret
  exact ⟨rfl, rfl⟩
set_option maxHeartbeats 400000 in
theorem flagsS0 (f : Int) (w : World) (h : 0 ≤ f) : Calls Tryz.prog 29 #[.int .i64 f] w fun e w' => e = .returned (.bool (decide (IntKind.i64.wrap ((BitVec.ofInt 64 f &&& (BitVec.ofInt 64 2245)).toNat : Int) = f))) ∧ w' = w := by
  go_enter Tryz.func29, Tryz.ntmps29
  go_wp2
  go_ret
  exact ⟨rfl, rfl⟩
set_option maxHeartbeats 400000 in
theorem flagsS1 (f : Int) (w : World) (h : f < 0) : Calls Tryz.prog 29 #[.int .i64 f] w fun e w' => e = .returned (.bool false) ∧ w' = w := by
  go_enter Tryz.func29, Tryz.ntmps29
  go_wp2
  go_ret
  exact ⟨rfl, rfl⟩
theorem flagsYesI (c p z s o : Bool) (w : World) : Calls Tryz.prog 34 #[.int .i64 (flV c p z s o)] w fun e w' => e = .returned (.bool true) ∧ w' = w := by
  refine (flagsOKI _ w).mono ?_
  rintro e w' ⟨rfl, rfl⟩
  exact ⟨by rw [flI_yes]; rfl, rfl⟩
theorem flagsNoI (f : Int) (w : World) (hf : (Lit.int .i64 f).wf = true) (h : ¬ FlOK f) : Calls Tryz.prog 34 #[.int .i64 f] w fun e w' => e = .returned (.bool false) ∧ w' = w := by
  refine (flagsOKI _ w).mono ?_
  rintro e w' ⟨rfl, rfl⟩
  have b := bounds_i64 hf
  refine ⟨?_, rfl⟩
  rw [decide_eq_false (fun e => h (flI_of b.1 b.2 (and_zero e)))]
theorem flagsYesS (c p z s o : Bool) (w : World) : Calls Tryz.prog 29 #[.int .i64 (flV c p z s o)] w fun e w' => e = .returned (.bool true) ∧ w' = w := by
  refine (flagsS0 _ w (flV_ge c p z s o)).mono ?_
  rintro e w' ⟨rfl, rfl⟩
  exact ⟨by rw [decide_eq_true (flS_yes c p z s o)], rfl⟩
theorem flagsNoS (f : Int) (w : World) (hf : (Lit.int .i64 f).wf = true) (h : ¬ FlOK f) : Calls Tryz.prog 29 #[.int .i64 f] w fun e w' => e = .returned (.bool false) ∧ w' = w := by
  have b := bounds_i64 hf
  by_cases h0 : 0 ≤ f
  · refine (flagsS0 _ w h0).mono ?_
    rintro e w' ⟨rfl, rfl⟩
    exact ⟨by rw [decide_eq_false (fun e => h (flS_of h0 b.2 (wrap_same e)))], rfl⟩
  · exact flagsS1 f w (by omega)
set_option maxHeartbeats 400000 in
theorem anyOfC (m : Int) (w : World) : Calls Tryz.prog 35 #[.int .i64 m] w fun e w' => e = .returned (.func (.func 96) #[] #[.pointer (some ⟨w.heap.size, 0, none⟩)]) ∧ w' = w.alloc (.cells #[.int .i64 m] 3) := by
  go_enter Tryz.func35, Tryz.ntmps35
  go_wp2
  go_ret
  exact ⟨rfl, rfl⟩
set_option maxHeartbeats 400000 in
theorem anyC (m f : Int) (b : Nat) (w : World) (h : w.cell? ⟨b, 0, none⟩ = some (.int .i64 m)) : Calls Tryz.prog 96 #[.int .i64 f, .pointer (some ⟨b, 0, none⟩)] w fun e w' => e = .returned (.bool (bits .and .i64 f m != 0)) ∧ w' = w := by
  go_enter Tryz.func96, Tryz.ntmps96
  go_wp2
  go_ret
  exact ⟨rfl, rfl⟩
set_option maxHeartbeats 400000 in
theorem isLessC (f : Int) (w : World) : Calls Tryz.prog 36 #[.int .i64 f] w fun e w' => e = .returned (.bool ((bits .and .i64 f 128 != 0) != (bits .and .i64 f 2048 != 0))) ∧ w' = w := by
  go_enter Tryz.func36, Tryz.ntmps36
  go_wp2
  go_ret
  exact ⟨rfl, rfl⟩
set_option maxHeartbeats 400000 in
theorem isLessOrC (f : Int) (v : Bool) (w : World) (hv : ((bits .and .i64 f 128 != 0) != (bits .and .i64 f 2048 != 0)) = v) : Calls Tryz.prog 37 #[.int .i64 f] w fun e w' => e = .returned (.bool (v || bits .and .i64 f 64 != 0)) ∧ w' = w := by
  have C := Lib.hid (isLessC f)
  rw [hv] at C
  clear hv
  cases v
  all_goals
    go_enter Tryz.func37, Tryz.ntmps37
    go_wp2_with fail
    refine (C.out _).mono ?_
    rintro e w1 ⟨rfl, rfl⟩
    go_wp2
    go_ret
    exact ⟨rfl, rfl⟩
def hvB (k : Nat) (c p z s o : Bool) : Bool := match k with | 0 => o | 1 => c | 2 => z | 3 => c || z | 4 => s | 5 => p | 6 => s != o | _ => z || s != o
theorem bit_c (c p z s o : Bool) : (bits .and .i64 (flV c p z s o) 1 != 0) = c := by revert c p z s o; decide +kernel
theorem bit_p (c p z s o : Bool) : (bits .and .i64 (flV c p z s o) 4 != 0) = p := by revert c p z s o; decide +kernel
theorem bit_z (c p z s o : Bool) : (bits .and .i64 (flV c p z s o) 64 != 0) = z := by revert c p z s o; decide +kernel
theorem bit_s (c p z s o : Bool) : (bits .and .i64 (flV c p z s o) 128 != 0) = s := by revert c p z s o; decide +kernel
theorem bit_o (c p z s o : Bool) : (bits .and .i64 (flV c p z s o) 2048 != 0) = o := by revert c p z s o; decide +kernel
theorem bit_cz (c p z s o : Bool) : (bits .and .i64 (flV c p z s o) 65 != 0) = (c || z) := by revert c p z s o; decide +kernel
set_option maxHeartbeats 400000 in
theorem inYes (v lo hi : Int) (w : World) (h1 : lo ≤ v) (h2 : v ≤ hi) : Calls Tryz.prog 30 #[.int .i64 v, .int .i64 lo, .int .i64 hi] w fun e w' => e = .returned (.bool true) ∧ w' = w := by
  go_enter Tryz.func30, Tryz.ntmps30
  go_wp2
  go_ret
  exact ⟨rfl, rfl⟩
set_option maxHeartbeats 400000 in
theorem inNo (v lo hi : Int) (w : World) (h : v < lo ∨ hi < v) : Calls Tryz.prog 30 #[.int .i64 v, .int .i64 lo, .int .i64 hi] w fun e w' => e = .returned (.bool false) ∧ w' = w := by
  by_cases h1 : v < lo
  · clear h
    go_enter Tryz.func30, Tryz.ntmps30
    go_wp2
    go_ret
    exact ⟨rfl, rfl⟩
  · have h2 : decide (v ≤ hi) = false := decide_eq_false (by omega)
    have h3 : lo ≤ v := by omega
    clear h h1
    go_enter Tryz.func30, Tryz.ntmps30
    go_wp2
    go_ret
    exact ⟨rfl, rfl⟩
end Go.Proofs.YtifpcfhfglkbcaaGreatDoor
