/-
  What impl.ZoneOf and spec.ZoneOf answer; no condition.
-/
import Derived.Test.YtbecfkbilpbihaaProg
import Derived.WalkKit
import Derived.WalkSpells
import Derived.Lib.Hide
namespace Go.Proofs.Ytbecfkbilpbihaa
open Go.RowKit
set_option linter.unusedVariables false
set_option linter.unusedSimpArgs false
theorem zin (b : Bool) (v lo hi : Int) (w : World) (h : decide (lo ≤ v ∧ v ≤ hi) = b) : Calls Try.prog 21 #[.int .i64 v, .int .i64 lo, .int .i64 hi] w fun e w' => e = .returned (.bool b) ∧ w = w' := by
  subst h
  by_cases h1 : lo ≤ v
  · by_cases h2 : v ≤ hi
    · rw [decide_eq_true (show lo ≤ v ∧ v ≤ hi from ⟨h1, h2⟩)]
      go_enter Try.func21, Try.ntmps21
      go_wp2
      go_ret
      exact ⟨rfl, rfl⟩
    · rw [decide_eq_false (show ¬ (lo ≤ v ∧ v ≤ hi) from fun h => h2 h.2)]
      have h3 := decide_eq_false h2
      clear h2
      go_enter Try.func21, Try.ntmps21
      go_wp2
      go_ret
      exact ⟨rfl, rfl⟩
  · rw [decide_eq_false (show ¬ (lo ≤ v ∧ v ≤ hi) from fun h => h1 h.1)]
    have h3 : v < lo := by omega
    clear h1
    go_enter Try.func21, Try.ntmps21
    go_wp2
    go_ret
    exact ⟨rfl, rfl⟩
theorem liesC (b : Bool) (v lo n hi : Int) (w : World) (hh : IntKind.i64.wrap (lo + n) = hi) (h : decide (lo ≤ v ∧ v < hi) = b) : Calls Try.prog 22 #[.int .i64 v, .int .i64 lo, .int .i64 n] w fun e w' => e = .returned (.bool b) ∧ w = w' := by
  subst h
  by_cases h1 : lo ≤ v
  · by_cases h2 : v < hi
    · rw [decide_eq_true (show lo ≤ v ∧ v < hi from ⟨h1, h2⟩)]
      go_enter Try.func22, Try.ntmps22
      go_wp2
      go_ret
      exact ⟨rfl, rfl⟩
    · rw [decide_eq_false (show ¬ (lo ≤ v ∧ v < hi) from fun h => h2 h.2)]
      have h3 := decide_eq_false h2
      clear h2
      go_enter Try.func22, Try.ntmps22
      go_wp2
      go_ret
      exact ⟨rfl, rfl⟩
  · rw [decide_eq_false (show ¬ (lo ≤ v ∧ v < hi) from fun h => h1 h.1)]
    have h3 : v < lo := by omega
    clear h1
    go_enter Try.func22, Try.ntmps22
    go_wp2
    go_ret
    exact ⟨rfl, rfl⟩
/-- the zone of an address -/
def znN (a : Int) : Int := if 16384 ≤ a ∧ a ≤ 20479 then 1 else if 12288 ≤ a ∧ a ≤ 24575 then 2 else if (4096 ≤ a ∧ a ≤ 4351) ∨ (32768 ≤ a ∧ a ≤ 33023) then 3 else 0
set_option maxHeartbeats 1000000 in
theorem zoneS (a : Int) (w : World) : Calls Try.prog 8 #[.int .i64 a] w fun e w' => e = .returned (.int .i64 (znN a)) ∧ w = w' := by
  rcases (by omega : (a ≤ 4095) ∨ (4096 ≤ a ∧ a ≤ 4351) ∨ (4352 ≤ a ∧ a ≤ 12287) ∨ (12288 ≤ a ∧ a ≤ 16383) ∨ (16384 ≤ a ∧ a ≤ 20479) ∨ (20480 ≤ a ∧ a ≤ 24575) ∨ (24576 ≤ a ∧ a ≤ 32767) ∨ (32768 ≤ a ∧ a ≤ 33023) ∨ (33024 ≤ a)) with h | h | h | h | h | h | h | h | h
  · rw [show znN a = 0 by unfold znN; repeat' (split <;> try omega)]
    go_enter Try.func8, Try.ntmps8
    go_wp2_with fail
    refine (zin false a 16384 20479 _ (decide_eq_false (by omega))).mono ?_
    rintro e w1 ⟨rfl, rfl⟩
    go_wp2_with fail
    refine (zin false a 12288 24575 _ (decide_eq_false (by omega))).mono ?_
    rintro e w1 ⟨rfl, rfl⟩
    go_wp2_with fail
    refine (zin false a 4096 4351 _ (decide_eq_false (by omega))).mono ?_
    rintro e w1 ⟨rfl, rfl⟩
    go_wp2_with fail
    refine (zin false a 32768 33023 _ (decide_eq_false (by omega))).mono ?_
    rintro e w1 ⟨rfl, rfl⟩
    go_wp2
    go_ret
    exact ⟨rfl, rfl⟩
  · rw [show znN a = 3 by unfold znN; repeat' (split <;> try omega)]
    go_enter Try.func8, Try.ntmps8
    go_wp2_with fail
    refine (zin false a 16384 20479 _ (decide_eq_false (by omega))).mono ?_
    rintro e w1 ⟨rfl, rfl⟩
    go_wp2_with fail
    refine (zin false a 12288 24575 _ (decide_eq_false (by omega))).mono ?_
    rintro e w1 ⟨rfl, rfl⟩
    go_wp2_with fail
    refine (zin true a 4096 4351 _ (decide_eq_true (by omega))).mono ?_
    rintro e w1 ⟨rfl, rfl⟩
    go_wp2
    go_ret
    exact ⟨rfl, rfl⟩
  · rw [show znN a = 0 by unfold znN; repeat' (split <;> try omega)]
    go_enter Try.func8, Try.ntmps8
    go_wp2_with fail
    refine (zin false a 16384 20479 _ (decide_eq_false (by omega))).mono ?_
    rintro e w1 ⟨rfl, rfl⟩
    go_wp2_with fail
    refine (zin false a 12288 24575 _ (decide_eq_false (by omega))).mono ?_
    rintro e w1 ⟨rfl, rfl⟩
    go_wp2_with fail
    refine (zin false a 4096 4351 _ (decide_eq_false (by omega))).mono ?_
    rintro e w1 ⟨rfl, rfl⟩
    go_wp2_with fail
    refine (zin false a 32768 33023 _ (decide_eq_false (by omega))).mono ?_
    rintro e w1 ⟨rfl, rfl⟩
    go_wp2
    go_ret
    exact ⟨rfl, rfl⟩
  · rw [show znN a = 2 by unfold znN; repeat' (split <;> try omega)]
    go_enter Try.func8, Try.ntmps8
    go_wp2_with fail
    refine (zin false a 16384 20479 _ (decide_eq_false (by omega))).mono ?_
    rintro e w1 ⟨rfl, rfl⟩
    go_wp2_with fail
    refine (zin true a 12288 24575 _ (decide_eq_true (by omega))).mono ?_
    rintro e w1 ⟨rfl, rfl⟩
    go_wp2
    go_ret
    exact ⟨rfl, rfl⟩
  · rw [show znN a = 1 by unfold znN; repeat' (split <;> try omega)]
    go_enter Try.func8, Try.ntmps8
    go_wp2_with fail
    refine (zin true a 16384 20479 _ (decide_eq_true (by omega))).mono ?_
    rintro e w1 ⟨rfl, rfl⟩
    go_wp2
    go_ret
    exact ⟨rfl, rfl⟩
  · rw [show znN a = 2 by unfold znN; repeat' (split <;> try omega)]
    go_enter Try.func8, Try.ntmps8
    go_wp2_with fail
    refine (zin false a 16384 20479 _ (decide_eq_false (by omega))).mono ?_
    rintro e w1 ⟨rfl, rfl⟩
    go_wp2_with fail
    refine (zin true a 12288 24575 _ (decide_eq_true (by omega))).mono ?_
    rintro e w1 ⟨rfl, rfl⟩
    go_wp2
    go_ret
    exact ⟨rfl, rfl⟩
  · rw [show znN a = 0 by unfold znN; repeat' (split <;> try omega)]
    go_enter Try.func8, Try.ntmps8
    go_wp2_with fail
    refine (zin false a 16384 20479 _ (decide_eq_false (by omega))).mono ?_
    rintro e w1 ⟨rfl, rfl⟩
    go_wp2_with fail
    refine (zin false a 12288 24575 _ (decide_eq_false (by omega))).mono ?_
    rintro e w1 ⟨rfl, rfl⟩
    go_wp2_with fail
    refine (zin false a 4096 4351 _ (decide_eq_false (by omega))).mono ?_
    rintro e w1 ⟨rfl, rfl⟩
    go_wp2_with fail
    refine (zin false a 32768 33023 _ (decide_eq_false (by omega))).mono ?_
    rintro e w1 ⟨rfl, rfl⟩
    go_wp2
    go_ret
    exact ⟨rfl, rfl⟩
  · rw [show znN a = 3 by unfold znN; repeat' (split <;> try omega)]
    go_enter Try.func8, Try.ntmps8
    go_wp2_with fail
    refine (zin false a 16384 20479 _ (decide_eq_false (by omega))).mono ?_
    rintro e w1 ⟨rfl, rfl⟩
    go_wp2_with fail
    refine (zin false a 12288 24575 _ (decide_eq_false (by omega))).mono ?_
    rintro e w1 ⟨rfl, rfl⟩
    go_wp2_with fail
    refine (zin false a 4096 4351 _ (decide_eq_false (by omega))).mono ?_
    rintro e w1 ⟨rfl, rfl⟩
    go_wp2_with fail
    refine (zin true a 32768 33023 _ (decide_eq_true (by omega))).mono ?_
    rintro e w1 ⟨rfl, rfl⟩
    go_wp2
    go_ret
    exact ⟨rfl, rfl⟩
  · rw [show znN a = 0 by unfold znN; repeat' (split <;> try omega)]
    go_enter Try.func8, Try.ntmps8
    go_wp2_with fail
    refine (zin false a 16384 20479 _ (decide_eq_false (by omega))).mono ?_
    rintro e w1 ⟨rfl, rfl⟩
    go_wp2_with fail
    refine (zin false a 12288 24575 _ (decide_eq_false (by omega))).mono ?_
    rintro e w1 ⟨rfl, rfl⟩
    go_wp2_with fail
    refine (zin false a 4096 4351 _ (decide_eq_false (by omega))).mono ?_
    rintro e w1 ⟨rfl, rfl⟩
    go_wp2_with fail
    refine (zin false a 32768 33023 _ (decide_eq_false (by omega))).mono ?_
    rintro e w1 ⟨rfl, rfl⟩
    go_wp2
    go_ret
    exact ⟨rfl, rfl⟩
set_option maxHeartbeats 1000000 in
theorem zoneI (a : Int) (w : World) : Calls Try.prog 9 #[.int .i64 a] w fun e w' => e = .returned (.int .i64 (znN a)) ∧ w = w' := by
  rcases (by omega : (a ≤ 4095) ∨ (4096 ≤ a ∧ a ≤ 4351) ∨ (4352 ≤ a ∧ a ≤ 12287) ∨ (12288 ≤ a ∧ a ≤ 16383) ∨ (16384 ≤ a ∧ a ≤ 20479) ∨ (20480 ≤ a ∧ a ≤ 24575) ∨ (24576 ≤ a ∧ a ≤ 32767) ∨ (32768 ≤ a ∧ a ≤ 33023) ∨ (33024 ≤ a)) with h | h | h | h | h | h | h | h | h
  · rw [show znN a = 0 by unfold znN; repeat' (split <;> try omega)]
    go_enter Try.func9, Try.ntmps9
    go_wp2_with fail
    refine (liesC false a 16384 4096 20480 _ (by decide) (decide_eq_false (by omega))).mono ?_
    rintro e w1 ⟨rfl, rfl⟩
    go_wp2_with fail
    refine (liesC false a 12288 4096 16384 _ (by decide) (decide_eq_false (by omega))).mono ?_
    rintro e w1 ⟨rfl, rfl⟩
    go_wp2_with fail
    refine (liesC false a 20480 4096 24576 _ (by decide) (decide_eq_false (by omega))).mono ?_
    rintro e w1 ⟨rfl, rfl⟩
    go_wp2_with fail
    refine (liesC false a 4096 256 4352 _ (by decide) (decide_eq_false (by omega))).mono ?_
    rintro e w1 ⟨rfl, rfl⟩
    go_wp2_with fail
    refine (liesC false a 32768 256 33024 _ (by decide) (decide_eq_false (by omega))).mono ?_
    rintro e w1 ⟨rfl, rfl⟩
    go_wp2
    go_ret
    exact ⟨rfl, rfl⟩
  · rw [show znN a = 3 by unfold znN; repeat' (split <;> try omega)]
    go_enter Try.func9, Try.ntmps9
    go_wp2_with fail
    refine (liesC false a 16384 4096 20480 _ (by decide) (decide_eq_false (by omega))).mono ?_
    rintro e w1 ⟨rfl, rfl⟩
    go_wp2_with fail
    refine (liesC false a 12288 4096 16384 _ (by decide) (decide_eq_false (by omega))).mono ?_
    rintro e w1 ⟨rfl, rfl⟩
    go_wp2_with fail
    refine (liesC false a 20480 4096 24576 _ (by decide) (decide_eq_false (by omega))).mono ?_
    rintro e w1 ⟨rfl, rfl⟩
    go_wp2_with fail
    refine (liesC true a 4096 256 4352 _ (by decide) (decide_eq_true (by omega))).mono ?_
    rintro e w1 ⟨rfl, rfl⟩
    go_wp2
    go_ret
    exact ⟨rfl, rfl⟩
  · rw [show znN a = 0 by unfold znN; repeat' (split <;> try omega)]
    go_enter Try.func9, Try.ntmps9
    go_wp2_with fail
    refine (liesC false a 16384 4096 20480 _ (by decide) (decide_eq_false (by omega))).mono ?_
    rintro e w1 ⟨rfl, rfl⟩
    go_wp2_with fail
    refine (liesC false a 12288 4096 16384 _ (by decide) (decide_eq_false (by omega))).mono ?_
    rintro e w1 ⟨rfl, rfl⟩
    go_wp2_with fail
    refine (liesC false a 20480 4096 24576 _ (by decide) (decide_eq_false (by omega))).mono ?_
    rintro e w1 ⟨rfl, rfl⟩
    go_wp2_with fail
    refine (liesC false a 4096 256 4352 _ (by decide) (decide_eq_false (by omega))).mono ?_
    rintro e w1 ⟨rfl, rfl⟩
    go_wp2_with fail
    refine (liesC false a 32768 256 33024 _ (by decide) (decide_eq_false (by omega))).mono ?_
    rintro e w1 ⟨rfl, rfl⟩
    go_wp2
    go_ret
    exact ⟨rfl, rfl⟩
  · rw [show znN a = 2 by unfold znN; repeat' (split <;> try omega)]
    go_enter Try.func9, Try.ntmps9
    go_wp2_with fail
    refine (liesC false a 16384 4096 20480 _ (by decide) (decide_eq_false (by omega))).mono ?_
    rintro e w1 ⟨rfl, rfl⟩
    go_wp2_with fail
    refine (liesC true a 12288 4096 16384 _ (by decide) (decide_eq_true (by omega))).mono ?_
    rintro e w1 ⟨rfl, rfl⟩
    go_wp2
    go_ret
    exact ⟨rfl, rfl⟩
  · rw [show znN a = 1 by unfold znN; repeat' (split <;> try omega)]
    go_enter Try.func9, Try.ntmps9
    go_wp2_with fail
    refine (liesC true a 16384 4096 20480 _ (by decide) (decide_eq_true (by omega))).mono ?_
    rintro e w1 ⟨rfl, rfl⟩
    go_wp2
    go_ret
    exact ⟨rfl, rfl⟩
  · rw [show znN a = 2 by unfold znN; repeat' (split <;> try omega)]
    go_enter Try.func9, Try.ntmps9
    go_wp2_with fail
    refine (liesC false a 16384 4096 20480 _ (by decide) (decide_eq_false (by omega))).mono ?_
    rintro e w1 ⟨rfl, rfl⟩
    go_wp2_with fail
    refine (liesC false a 12288 4096 16384 _ (by decide) (decide_eq_false (by omega))).mono ?_
    rintro e w1 ⟨rfl, rfl⟩
    go_wp2_with fail
    refine (liesC true a 20480 4096 24576 _ (by decide) (decide_eq_true (by omega))).mono ?_
    rintro e w1 ⟨rfl, rfl⟩
    go_wp2
    go_ret
    exact ⟨rfl, rfl⟩
  · rw [show znN a = 0 by unfold znN; repeat' (split <;> try omega)]
    go_enter Try.func9, Try.ntmps9
    go_wp2_with fail
    refine (liesC false a 16384 4096 20480 _ (by decide) (decide_eq_false (by omega))).mono ?_
    rintro e w1 ⟨rfl, rfl⟩
    go_wp2_with fail
    refine (liesC false a 12288 4096 16384 _ (by decide) (decide_eq_false (by omega))).mono ?_
    rintro e w1 ⟨rfl, rfl⟩
    go_wp2_with fail
    refine (liesC false a 20480 4096 24576 _ (by decide) (decide_eq_false (by omega))).mono ?_
    rintro e w1 ⟨rfl, rfl⟩
    go_wp2_with fail
    refine (liesC false a 4096 256 4352 _ (by decide) (decide_eq_false (by omega))).mono ?_
    rintro e w1 ⟨rfl, rfl⟩
    go_wp2_with fail
    refine (liesC false a 32768 256 33024 _ (by decide) (decide_eq_false (by omega))).mono ?_
    rintro e w1 ⟨rfl, rfl⟩
    go_wp2
    go_ret
    exact ⟨rfl, rfl⟩
  · rw [show znN a = 3 by unfold znN; repeat' (split <;> try omega)]
    go_enter Try.func9, Try.ntmps9
    go_wp2_with fail
    refine (liesC false a 16384 4096 20480 _ (by decide) (decide_eq_false (by omega))).mono ?_
    rintro e w1 ⟨rfl, rfl⟩
    go_wp2_with fail
    refine (liesC false a 12288 4096 16384 _ (by decide) (decide_eq_false (by omega))).mono ?_
    rintro e w1 ⟨rfl, rfl⟩
    go_wp2_with fail
    refine (liesC false a 20480 4096 24576 _ (by decide) (decide_eq_false (by omega))).mono ?_
    rintro e w1 ⟨rfl, rfl⟩
    go_wp2_with fail
    refine (liesC false a 4096 256 4352 _ (by decide) (decide_eq_false (by omega))).mono ?_
    rintro e w1 ⟨rfl, rfl⟩
    go_wp2_with fail
    refine (liesC true a 32768 256 33024 _ (by decide) (decide_eq_true (by omega))).mono ?_
    rintro e w1 ⟨rfl, rfl⟩
    go_wp2
    go_ret
    exact ⟨rfl, rfl⟩
  · rw [show znN a = 0 by unfold znN; repeat' (split <;> try omega)]
    go_enter Try.func9, Try.ntmps9
    go_wp2_with fail
    refine (liesC false a 16384 4096 20480 _ (by decide) (decide_eq_false (by omega))).mono ?_
    rintro e w1 ⟨rfl, rfl⟩
    go_wp2_with fail
    refine (liesC false a 12288 4096 16384 _ (by decide) (decide_eq_false (by omega))).mono ?_
    rintro e w1 ⟨rfl, rfl⟩
    go_wp2_with fail
    refine (liesC false a 20480 4096 24576 _ (by decide) (decide_eq_false (by omega))).mono ?_
    rintro e w1 ⟨rfl, rfl⟩
    go_wp2_with fail
    refine (liesC false a 4096 256 4352 _ (by decide) (decide_eq_false (by omega))).mono ?_
    rintro e w1 ⟨rfl, rfl⟩
    go_wp2_with fail
    refine (liesC false a 32768 256 33024 _ (by decide) (decide_eq_false (by omega))).mono ?_
    rintro e w1 ⟨rfl, rfl⟩
    go_wp2
    go_ret
    exact ⟨rfl, rfl⟩
end Go.Proofs.Ytbecfkbilpbihaa
