/-
  x
-/
import Derived.Test.YtcnmklgcifdmoaaMathFl
import Derived.Test.YtcnmklgcifdmoaaProg
import Derived.WalkKit
import Derived.OpenShut
import Derived.WalkSpells
import Derived.WalkLawsBesides
import Derived.Lib.Hide
namespace Go.Proofs.Ytcnmklgcifdmoaa
open Go.RowKit
set_option linter.unusedVariables false
set_option maxHeartbeats 400000 in
theorem flagsOKI (f : Int) (w : World) : Calls Try.prog 72 #[.int .i64 f] w fun e w' => e = .returned (.bool (decide (IntKind.i64.wrap ((BitVec.ofInt 64 f &&& ~~~ (BitVec.ofInt 64 2245)).toNat : Int) = 0))) ∧ w' = w := by
  go_enter Try.func72, Try.ntmps72
  go_wp2
  go_ret
  exact ⟨rfl, rfl⟩
set_option maxHeartbeats 400000 in
theorem flagsS0 (f : Int) (w : World) (h : 0 ≤ f) : Calls Try.prog 68 #[.int .i64 f] w fun e w' => e = .returned (.bool (decide (IntKind.i64.wrap ((BitVec.ofInt 64 f &&& (BitVec.ofInt 64 2245)).toNat : Int) = f))) ∧ w' = w := by
  go_enter Try.func68, Try.ntmps68
  go_wp2
  go_ret
  exact ⟨rfl, rfl⟩
set_option maxHeartbeats 400000 in
theorem flagsS1 (f : Int) (w : World) (h : f < 0) : Calls Try.prog 68 #[.int .i64 f] w fun e w' => e = .returned (.bool false) ∧ w' = w := by
  go_enter Try.func68, Try.ntmps68
  go_wp2
  go_ret
  exact ⟨rfl, rfl⟩
theorem flagsYesI (c p z s o : Bool) (w : World) : Calls Try.prog 72 #[.int .i64 (flV c p z s o)] w fun e w' => e = .returned (.bool true) ∧ w' = w := by
  refine (flagsOKI _ w).mono ?_
  rintro e w' ⟨rfl, rfl⟩
  exact ⟨by rw [flI_yes]; rfl, rfl⟩
theorem flagsNoI (f : Int) (w : World) (hf : (Lit.int .i64 f).wf = true) (h : ¬ FlOK f) : Calls Try.prog 72 #[.int .i64 f] w fun e w' => e = .returned (.bool false) ∧ w' = w := by
  refine (flagsOKI _ w).mono ?_
  rintro e w' ⟨rfl, rfl⟩
  have b := bounds_i64 hf
  refine ⟨?_, rfl⟩
  rw [decide_eq_false (fun e => h (flI_of b.1 b.2 (and_zero e)))]
theorem flagsYesS (c p z s o : Bool) (w : World) : Calls Try.prog 68 #[.int .i64 (flV c p z s o)] w fun e w' => e = .returned (.bool true) ∧ w' = w := by
  refine (flagsS0 _ w (flV_ge c p z s o)).mono ?_
  rintro e w' ⟨rfl, rfl⟩
  exact ⟨by rw [decide_eq_true (flS_yes c p z s o)], rfl⟩
theorem flagsNoS (f : Int) (w : World) (hf : (Lit.int .i64 f).wf = true) (h : ¬ FlOK f) : Calls Try.prog 68 #[.int .i64 f] w fun e w' => e = .returned (.bool false) ∧ w' = w := by
  have b := bounds_i64 hf
  by_cases h0 : 0 ≤ f
  · refine (flagsS0 _ w h0).mono ?_
    rintro e w' ⟨rfl, rfl⟩
    exact ⟨by rw [decide_eq_false (fun e => h (flS_of h0 b.2 (wrap_same e)))], rfl⟩
  · exact flagsS1 f w (by omega)
def hvB (k : Nat) (c p z s o : Bool) : Bool := match k with | 0 => o | 1 => c | 2 => z | 3 => c || z | 4 => s | 5 => p | 6 => s != o | _ => z || s != o
theorem bit_c (c p z s o : Bool) : (bits .and .i64 (flV c p z s o) 1 != 0) = c := by revert c p z s o; decide +kernel
theorem bit_p (c p z s o : Bool) : (bits .and .i64 (flV c p z s o) 4 != 0) = p := by revert c p z s o; decide +kernel
theorem bit_z (c p z s o : Bool) : (bits .and .i64 (flV c p z s o) 64 != 0) = z := by revert c p z s o; decide +kernel
theorem bit_s (c p z s o : Bool) : (bits .and .i64 (flV c p z s o) 128 != 0) = s := by revert c p z s o; decide +kernel
theorem bit_o (c p z s o : Bool) : (bits .and .i64 (flV c p z s o) 2048 != 0) = o := by revert c p z s o; decide +kernel
theorem bit_cz (c p z s o : Bool) : (bits .and .i64 (flV c p z s o) 65 != 0) = (c || z) := by revert c p z s o; decide +kernel
set_option maxHeartbeats 400000 in
theorem inYes (v lo hi : Int) (w : World) (h1 : lo ≤ v) (h2 : v ≤ hi) : Calls Try.prog 29 #[.int .i64 v, .int .i64 lo, .int .i64 hi] w fun e w' => e = .returned (.bool true) ∧ w' = w := by
  go_enter Try.func29, Try.ntmps29
  go_wp2
  go_ret
  exact ⟨rfl, rfl⟩
set_option maxHeartbeats 400000 in
theorem inNo (v lo hi : Int) (w : World) (h : v < lo ∨ hi < v) : Calls Try.prog 29 #[.int .i64 v, .int .i64 lo, .int .i64 hi] w fun e w' => e = .returned (.bool false) ∧ w' = w := by
  by_cases h1 : v < lo
  · clear h
    go_enter Try.func29, Try.ntmps29
    go_wp2
    go_ret
    exact ⟨rfl, rfl⟩
  · have h2 : decide (v ≤ hi) = false := decide_eq_false (by omega)
    have h3 : lo ≤ v := by omega
    clear h h1
    go_enter Try.func29, Try.ntmps29
    go_wp2
    go_ret
    exact ⟨rfl, rfl⟩
end Go.Proofs.Ytcnmklgcifdmoaa
