/-
  What impl.TrampolineOf and spec.TrampolineOf answer; no condition.
-/
import Derived.Test.YtbecfkbilpbihaaWalkZone
namespace Go.Proofs.Ytbecfkbilpbihaa
open Go.RowKit
set_option linter.unusedVariables false
set_option linter.unusedSimpArgs false
set_option maxHeartbeats 1000000 in
theorem trampSYes (a : Int) (K : Nat) (w : World) (hK : K < 8) (ha : a = 16640 + 32 * (K : Int)) : Calls Try.prog 12 #[.int .i64 a] w fun e w' => e = .returned (.tuple #[.int .i64 (K : Int), .bool true]) ∧ w = w' := by
  have HA := Lib.hid ha
  have a0 : 16640 ≤ a := by omega
  have a1 : a ≤ 16864 := by omega
  clear ha
  go_enter Try.func12, Try.ntmps12
  go_wp2
  go_loop [4] (fun i => ∃ k : Nat, k ≤ K ∧ i = .int .i64 (k : Int)) (fun i => K + 1 - (intOf i).toNat)
  case atStart => exact ⟨0, Nat.zero_le _, rfl⟩
  case round =>
    obtain ⟨k, hk, rfl⟩ := hrel
    by_cases he : k = K
    · subst he
      have hb : (a == 16640 + 32 * (k : Int)) = true := beq_iff_eq.mpr HA.out
      go_wp2
      go_ret2
      exact ⟨rfl, rfl⟩
    · have hb : (a == 16640 + 32 * (k : Int)) = false := beq_eq_false_iff_ne.mpr (by have := HA.out; omega)
      have hlt : k < K := by omega
      go_wp2
      go_round
      case rel => exact ⟨k + 1, by omega, by go_num⟩
      case measure => simp [intOf]; omega
set_option maxHeartbeats 1000000 in
theorem trampSNo (a : Int) (w : World) (ha : ∀ k : Nat, k < 8 → a ≠ 16640 + 32 * (k : Int)) : Calls Try.prog 12 #[.int .i64 a] w fun e w' => e = .returned (.tuple #[.int .i64 0, .bool false]) ∧ w = w' := by
  have HA := Lib.hid ha
  clear ha
  go_enter Try.func12, Try.ntmps12
  go_wp2
  go_loop [4] (fun i => ∃ k : Nat, k ≤ 8 ∧ i = .int .i64 (k : Int)) (fun i => 8 - (intOf i).toNat)
  case atStart => exact ⟨0, Nat.zero_le _, rfl⟩
  case round =>
    obtain ⟨k, hk, rfl⟩ := hrel
    by_cases he : k < 8
    · have hb : (a == 16640 + 32 * (k : Int)) = false := beq_eq_false_iff_ne.mpr (HA.out k he)
      go_wp2
      go_round
      case rel => exact ⟨k + 1, by omega, by go_num⟩
      case measure => simp [intOf]; omega
    · obtain rfl : k = 8 := by omega
      go_wp2
      go_ret2
      exact ⟨rfl, rfl⟩
set_option maxHeartbeats 1000000 in
theorem trampIYes (a : Int) (K : Nat) (w : World) (hK : K < 8) (ha : a = 16640 + 32 * (K : Int)) : Calls Try.prog 13 #[.int .i64 a] w fun e w' => e = .returned (.tuple #[.int .i64 (K : Int), .bool true]) ∧ w = w' := by
  have a0 : 16640 ≤ a := by omega
  have a1 : a ≤ 16864 := by omega
  have hm : a % 32 = 0 := by omega
  have hd : (a - 16384 - 256) / 32 = (K : Int) := by omega
  have e1 : a - 16384 - 256 = a - 16640 := by omega
  have HD := Lib.hid hd
  clear ha hK hd e1
  go_enter Try.func13, Try.ntmps13
  go_wp2_with fail
  refine (liesC true a 16640 256 16896 _ (by decide) (decide_eq_true (by omega))).mono ?_
  rintro e w1 ⟨rfl, rfl⟩
  go_wp2
  go_ret2
  refine ⟨?_, rfl⟩
  show Ending.returned (.tuple #[.int .i64 ((a - 16384 - 256) / 32), .bool true]) = _
  rw [HD.out]
set_option maxHeartbeats 1000000 in
theorem trampINo (a : Int) (w : World) (ha : ∀ k : Nat, k < 8 → a ≠ 16640 + 32 * (k : Int)) : Calls Try.prog 13 #[.int .i64 a] w fun e w' => e = .returned (.tuple #[.int .i64 0, .bool false]) ∧ w = w' := by
  by_cases h : 16640 ≤ a ∧ a < 16896
  · have a0 := h.1; have a1 := h.2
    have hm : (a % 32 == 0) = false := beq_eq_false_iff_ne.mpr (by
      intro hm
      obtain ⟨k, hk⟩ := Int.eq_ofNat_of_zero_le (show 0 ≤ (a - 16640) / 32 by omega)
      exact ha k (by omega) (by omega))
    clear ha h
    go_enter Try.func13, Try.ntmps13
    go_wp2_with fail
    refine (liesC true a 16640 256 16896 _ (by decide) (decide_eq_true (by omega))).mono ?_
    rintro e w1 ⟨rfl, rfl⟩
    go_wp2
    go_ret2
    exact ⟨rfl, rfl⟩
  · have C := Lib.hid (liesC false a 16640 256 16896 w (by decide) (decide_eq_false h))
    clear ha h
    go_enter Try.func13, Try.ntmps13
    go_wp2_with fail
    refine (C.out).mono ?_
    rintro e w1 ⟨rfl, rfl⟩
    go_wp2
    go_ret2
    exact ⟨rfl, rfl⟩
/-- the number of the trampoline that begins at an address, and whether one does -/
theorem trampBoth (a : Int) : ∃ n : Int, ∃ b : Bool, (∀ w, Calls Try.prog 12 #[.int .i64 a] w fun e w' => e = .returned (.tuple #[.int .i64 n, .bool b]) ∧ w = w') ∧ (∀ w, Calls Try.prog 13 #[.int .i64 a] w fun e w' => e = .returned (.tuple #[.int .i64 n, .bool b]) ∧ w = w') := by
  by_cases h : ∃ k : Nat, k < 8 ∧ a = 16640 + 32 * (k : Int)
  · obtain ⟨k, hk, ha⟩ := h
    exact ⟨k, true, fun w => trampSYes a k w hk ha, fun w => trampIYes a k w hk ha⟩
  · have h' : ∀ k : Nat, k < 8 → a ≠ 16640 + 32 * (k : Int) := fun k hk e => h ⟨k, hk, e⟩
    exact ⟨0, false, fun w => trampSNo a w h', fun w => trampINo a w h'⟩
end Go.Proofs.Ytbecfkbilpbihaa
