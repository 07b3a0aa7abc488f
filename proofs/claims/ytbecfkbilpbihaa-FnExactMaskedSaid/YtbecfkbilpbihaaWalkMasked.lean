/-
  What spec.l01Zero, spec.Masked and impl.Masked answer; conditions: those in each head.
-/
import Derived.Test.YtbecfkbilpbihaaProg
import Derived.Test.YtbecfkbilpbihaaMathTake
import Derived.Test.YtbecfkbilpbihaaMathCr
import Derived.WalkKit
import Derived.WalkSpells
import Derived.IntWalk
import Derived.Lib.Hide
namespace Go.Proofs.Ytbecfkbilpbihaa.Zr
open Go.RowKit
set_option linter.unusedVariables false
set_option linter.unusedSimpArgs false
theorem wrapU (n : Int) : IntKind.u64.wrap n = n % 18446744073709551616 := IntKind.wrap_u64 n
theorem ret_ii {a b c d : Int} (h1 : a = c) (h2 : b = d) : Ending.returned (.tuple #[.int .i64 a, .int .i64 b]) = .returned (.tuple #[.int .i64 c, .int .i64 d]) := by rw [h1, h2]
theorem ret_i {a b : Int} (h1 : a = b) : Ending.returned (.int .i64 a) = .returned (.int .i64 b) := by rw [h1]
theorem bitI (X i : Nat) : (((X : Int) / 2 ^ i).tmod 2) = ((X / 2 ^ i % 2 : Nat) : Int) := by
  have e : ((X : Int) / 2 ^ i) = ((X / 2 ^ i : Nat) : Int) := by simp
  rw [e, Int.tmod_eq_emod_of_nonneg (Int.natCast_nonneg _)]; omega
set_option maxHeartbeats 400000 in
theorem bitC (v : Int) (X i : Nat) (w : World) (hX : IntKind.u64.wrap v = (X : Int)) (hi : i < 64) :
    Calls Try.prog 30 #[.int .i64 v, .int .i64 (i : Int)] w fun e w' => e = .returned (.int .i64 ((X / 2 ^ i % 2 : Nat) : Int)) ∧ w = w' := by
  have hb := bitI X i
  rcases Nat.mod_two_eq_zero_or_one (X / 2 ^ i) with h | h
  · rw [h] at hb
    have hb' : (((X : Int) / 2 ^ i).tmod 2 == 1) = false := by rw [hb]; rfl
    have H := Lib.hid h
    clear hb h
    go_enter Try.func30, Try.ntmps30
    go_wp2
    go_ret
    exact ⟨ret_i (by rw [H.out]; rfl), rfl⟩
  · rw [h] at hb
    have hb' : (((X : Int) / 2 ^ i).tmod 2 == 1) = true := by rw [hb]; rfl
    have H := Lib.hid h
    clear hb h
    go_enter Try.func30, Try.ntmps30
    go_wp2
    go_ret
    exact ⟨ret_i (by rw [H.out]; rfl), rfl⟩
theorem bitCI (v : Int) (X n : Nat) (i : Int) (b : Nat) (w : World) (hX : IntKind.u64.wrap v = (X : Int)) (hi : n < 64) (hn : i = (n : Int)) (hb : b = X / 2 ^ n % 2) :
    Calls Try.prog 30 #[.int .i64 v, .int .i64 i] w fun e w' => e = .returned (.int .i64 (b : Int)) ∧ w = w' := by
  subst hn hb; exact bitC v X n w hX hi
theorem cast_dp (U k : Nat) : ((U / 2 ^ k : Nat) : Int) = (U : Int) / 2 ^ k := by simp
theorem step_w {U k b : Nat} (hU : U < 18446744073709551616) (hk : 1 ≤ k) (hb : b = U / 2 ^ (k - 1) % 2) : IntKind.u64.wrap (IntKind.u64.wrap (2 * ((U : Int) / 2 ^ k)) + (b : Int)) = (U : Int) / 2 ^ (k - 1) := by
  have h1 := half_step U k hk
  have h2 : U / 2 ^ (k - 1) ≤ U := Nat.div_le_self _ _
  rw [← hb] at h1
  rw [← cast_dp, ← cast_dp]
  generalize U / 2 ^ (k - 1) = a at *
  generalize U / 2 ^ k = c at *
  rw [wrapU, wrapU]; omega
theorem bit_le {X n b : Nat} (hb : b = X / 2 ^ n % 2) : b ≤ 1 := by omega
set_option maxHeartbeats 1000000 in
theorem specZeroL (v : Int) (X size : Nat) (w : World) (hX : IntKind.u64.wrap v = (X : Int)) (hs : 1 ≤ size) (hs8 : size ≤ 8) :
    Calls Try.prog 23 #[.int .i64 v, .int .i64 (size : Int)] w fun e w' => e = .returned (.int .i64 (wrap64 ((X % 2 ^ (8 * size) : Nat) : Int))) ∧ w = w' := by
  have HX := Lib.hid hX
  have hX' : X < 18446744073709551616 := by have := wrapU v; omega
  clear hX
  obtain ⟨U, hU⟩ : ∃ U, U = X % 2 ^ (8 * size) := ⟨_, rfl⟩
  have hU64 : U < 18446744073709551616 := by have := Nat.mod_le X (2 ^ (8 * size)); omega
  have hU2 : U / 2 ^ (8 * size) = 0 := Nat.div_eq_of_lt (by rw [hU]; exact Nat.mod_lt _ (Nat.pow_pos (by decide)))
  rw [← hU]
  have HU := Lib.hid hU; have HU2 := Lib.hid hU2
  clear hU hU2
  go_enter Try.func23, Try.ntmps23
  go_wp2
  go_loop [5, 6] (fun o i => ∃ k : Nat, k ≤ 8 * size ∧ i = .int .i64 ((k : Int) - 1) ∧ o = .int .u64 ((U : Int) / 2 ^ k)) (fun _ i => (intOf i + 1).toNat)
  case atStart =>
    refine ⟨8 * size, Nat.le_refl _, by go_num, ?_⟩
    have e := HU2.out
    rw [← cast_dp, e] <;> rfl
  case round =>
    obtain ⟨k, hk, rfl, rfl⟩ := hrel
    by_cases h0 : 1 ≤ k
    · obtain ⟨b, hb⟩ : ∃ b : Nat, b = X / 2 ^ (k - 1) % 2 := ⟨_, rfl⟩
      have hst := step_w (b := b) hU64 h0 (by rw [HU.out, zer_bit X size (k - 1) (by omega)]; exact hb)
      have hb1 := bit_le hb
      have HB := Lib.hid hb; have HST := Lib.hid hst
      clear hb hst
      go_wp2_with fail
      refine (bitCI v X (k - 1) _ b _ HX.out (by omega) (by omega) HB.out).mono ?_
      rintro e w' ⟨rfl, rfl⟩
      go_wp2
      go_round
      case rel => exact ⟨k - 1, by omega, by go_num, by rw [HST.out]⟩
      case measure => simp [intOf]; omega
    · obtain rfl : k = 0 := by omega
      go_wp2
      go_ret
      exact ⟨ret_i (by simp), rfl⟩
theorem zinYes (v lo hi : Int) (w : World) (h : lo ≤ v) (h2 : v ≤ hi) : Calls Try.prog 21 #[.int .i64 v, .int .i64 lo, .int .i64 hi] w fun e w' => e = .returned (.bool true) ∧ w = w' := by
  go_enter Try.func21, Try.ntmps21
  go_wp2
  go_ret
  exact ⟨rfl, rfl⟩
theorem zinNo (v lo hi : Int) (w : World) (h : v < lo ∨ hi < v) : Calls Try.prog 21 #[.int .i64 v, .int .i64 lo, .int .i64 hi] w fun e w' => e = .returned (.bool false) ∧ w = w' := by
  by_cases h1 : v < lo
  · clear h
    go_enter Try.func21, Try.ntmps21
    go_wp2
    go_ret
    exact ⟨rfl, rfl⟩
  · have h2 : decide (v ≤ hi) = false := decide_eq_false (by omega)
    have h3 : lo ≤ v := by omega
    clear h h1
    go_enter Try.func21, Try.ntmps21
    go_wp2
    go_ret
    exact ⟨rfl, rfl⟩
theorem and_both (v : Int) (m X : Nat) (hX : IntKind.u64.wrap v = (X : Int)) (hm : m ≤ 4095) : ∃ r : Int, 0 ≤ r ∧ r ≤ 4095 ∧ bits .and .i64 v (m : Int) = r ∧ bits .and .i64 (wrap64 ((X % 2 ^ (8 * 4) : Nat) : Int)) (m : Int) = r := by
  have hl : X &&& m ≤ m := Nat.and_le_right
  have e1 := andI v X hX m (by omega)
  have e2 := andI (wrap64 ((X % 2 ^ (8 * 4) : Nat) : Int)) (X % 2 ^ (8 * 4)) (by
    have h : X % 2 ^ (8 * 4) < 2 ^ (8 * 4) := Nat.mod_lt _ (by decide)
    generalize X % 2 ^ (8 * 4) = y at h
    have h' : y < 4294967296 := h
    exact uw_c (by omega) (by omega)) m (by omega)
  have e3 : X % 2 ^ (8 * 4) &&& m = X &&& m := by
    have h := @Nat.and_mod_two_pow X m 32
    rw [Nat.mod_eq_of_lt (show X &&& m < 2 ^ 32 by have : (4096 : Nat) < 2 ^ 32 := by decide
                                                   omega), Nat.mod_eq_of_lt (show m < 2 ^ 32 by have : (4096 : Nat) < 2 ^ 32 := by decide
                                                                                                omega)] at h
    exact h.symm
  rw [e3] at e2
  refine ⟨((X &&& m : Nat) : Int), by omega, by omega, ?_, ?_⟩
  · rw [e1]; unfold wrap64; omega
  · rw [e2]; unfold wrap64; omega
set_option maxHeartbeats 1000000 in
theorem maskedBoth (v m : Int) : ∃ r : Int, (∀ w, Calls Try.prog 10 #[.int .i64 v, .int .i64 m] w fun e w' => e = .returned (.int .i64 r) ∧ w = w') ∧ (∀ w, Calls Try.prog 11 #[.int .i64 v, .int .i64 m] w fun e w' => e = .returned (.int .i64 r) ∧ w = w') := by
  by_cases h : 0 ≤ m ∧ m ≤ 4095
  · obtain ⟨k, rfl⟩ := Int.eq_ofNat_of_zero_le h.1
    obtain ⟨X, hX⟩ : ∃ X : Nat, IntKind.u64.wrap v = (X : Int) := Int.eq_ofNat_of_zero_le (by rw [wrapUc]; omega)
    obtain ⟨r, r0, r1, e1, e2⟩ := and_both v k X hX (by omega)
    have h1 := h.1; have h2 := h.2
    refine ⟨16384 + r, fun w => ?_, fun w => ?_⟩
    · have C := Lib.hid (specZeroL v X 4 w hX (by decide) (by decide))
      clear e1 hX h
      generalize wrap64 ((X % 2 ^ (8 * 4) : Nat) : Int) = y at e2 C
      have E := Lib.hid e2
      clear e2
      go_enter Try.func10, Try.ntmps10
      go_wp2_with fail
      refine (zinYes _ 0 4095 _ h1 h2).mono ?_
      rintro e w1 ⟨rfl, rfl⟩
      go_wp2_with fail
      refine (C.out).mono ?_
      rintro e w1 ⟨rfl, rfl⟩
      have E2 := E.out
      go_wp2
      go_ret
      exact ⟨rfl, rfl⟩
    · clear e2 hX h
      go_enter Try.func11, Try.ntmps11
      go_wp2
      go_ret
      exact ⟨rfl, rfl⟩
  · refine ⟨0, fun w => ?_, fun w => ?_⟩
    · have C := Lib.hid (zinNo m 0 4095 w (by omega))
      clear h
      go_enter Try.func10, Try.ntmps10
      go_wp2_with fail
      refine (C.out).mono ?_
      rintro e w1 ⟨rfl, rfl⟩
      go_wp2
      go_ret
      exact ⟨rfl, rfl⟩
    · by_cases h0 : m < 0
      · clear h
        go_enter Try.func11, Try.ntmps11
        go_wp2
        go_ret
        exact ⟨rfl, rfl⟩
      · have h1 : 0 ≤ m := by omega
        have h2 : 4095 < m := by omega
        clear h h0
        go_enter Try.func11, Try.ntmps11
        go_wp2
        go_ret
        exact ⟨rfl, rfl⟩
end Go.Proofs.Ytbecfkbilpbihaa.Zr
