/-
  What impl.ZoneOf and spec.ZoneOf answer; no condition.
-/
import Derived.Test.YtcnmklgcifdmoaaProg
import Derived.WalkKit
import Derived.WalkSpells
import Derived.Lib.Hide
namespace Go.Proofs.Ytcnmklgcifdmoaa
open Go.RowKit
set_option linter.unusedVariables false
set_option linter.unusedSimpArgs false
theorem zin (b : Bool) (v lo hi : Int) (w : World) (h : decide (lo ≤ v ∧ v ≤ hi) = b) : Calls Try.prog 29 #[.int .i64 v, .int .i64 lo, .int .i64 hi] w fun e w' => e = .returned (.bool b) ∧ w = w' := by
  subst h
  by_cases h1 : lo ≤ v
  · by_cases h2 : v ≤ hi
    · rw [decide_eq_true (show lo ≤ v ∧ v ≤ hi from ⟨h1, h2⟩)]
      go_enter Try.func29, Try.ntmps29
      go_wp2
      go_ret
      exact ⟨rfl, rfl⟩
    · rw [decide_eq_false (show ¬ (lo ≤ v ∧ v ≤ hi) from fun h => h2 h.2)]
      have h3 := decide_eq_false h2
      clear h2
      go_enter Try.func29, Try.ntmps29
      go_wp2
      go_ret
      exact ⟨rfl, rfl⟩
  · rw [decide_eq_false (show ¬ (lo ≤ v ∧ v ≤ hi) from fun h => h1 h.1)]
    have h3 : v < lo := by omega
    clear h1
    go_enter Try.func29, Try.ntmps29
    go_wp2
    go_ret
    exact ⟨rfl, rfl⟩
/-- the zone of an address -/
def znN (a : Int) : Int := if 16384 ≤ a ∧ a ≤ 20479 then 1 else if 12288 ≤ a ∧ a ≤ 24575 then 2 else if (4096 ≤ a ∧ a ≤ 4351) ∨ (32768 ≤ a ∧ a ≤ 33023) then 3 else 0
end Go.Proofs.Ytcnmklgcifdmoaa
