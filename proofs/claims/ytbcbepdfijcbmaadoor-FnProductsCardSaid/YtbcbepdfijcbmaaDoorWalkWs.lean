/-
  What the specification's products do: l06Size, l06Product; conditions: those in each head.
-/
import Derived.Test.YtbcbepdfijcbmaaDoorWalkMul
import Derived.Test.YtbcbepdfijcbmaaDoorWalkSign
import Derived.Test.YtbcbepdfijcbmaaDoorMathAl
namespace Go.Proofs.YtbcbepdfijcbmaaDoor
open Go.RowKit
set_option linter.unusedVariables false
/-- how great a number is -/
def absU (a : Int) : Int := (a.natAbs : Int)
theorem specSize (a : Int) (w : World) (ha : (Lit.int .i64 a).wf = true) : Calls Tryd.prog 80 #[.int .i64 a] w fun e w' => e = .returned (.int .u64 (absU a)) ∧ w = w' := by
  have bd := bounds_i64 ha
  have e1 : a < 0 → IntKind.u64.wrap (-IntKind.u64.wrap a) = absU a := by intro h; rw [wrapU, wrapU]; unfold absU; omega
  have e2 : ¬ a < 0 → IntKind.u64.wrap a = absU a := by intro h; rw [wrapU]; unfold absU; omega
  by_cases h : a < 0
  · have E1 := Lib.hid (e1 h)
    clear e1 e2 bd ha
    go_enter Tryd.func80, Tryd.ntmps80
    go_wp2
    go_ret
    exact ⟨congrArg (fun z => Ending.returned (.int .u64 z)) E1.out, rfl⟩
  · have E2 := Lib.hid (e2 h)
    clear e1 e2 bd ha
    go_enter Tryd.func80, Tryd.ntmps80
    go_wp2
    go_ret
    exact ⟨congrArg (fun z => Ending.returned (.int .u64 z)) E2.out, rfl⟩
set_option maxHeartbeats 1000000 in
theorem specProdU (a b : Int) (w : World) : Calls Tryd.prog 88 #[.int .i64 a, .int .i64 b, .bool false] w fun e w' => e = .returned (.tuple #[.int .u64 (hiW (IntKind.u64.wrap a) (IntKind.u64.wrap b)), .int .u64 (loW (IntKind.u64.wrap a) (IntKind.u64.wrap b))]) ∧ w = w' := by
  go_enter Tryd.func88, Tryd.ntmps88
  go_wp2_with (go_at_call 101; refine (wide_any _ _ _ (u64_lo a) (u64_hi a) (u64_lo b) (u64_hi b)).mono ?_; rintro e w' ⟨rfl, rfl⟩)
  go_ret2
  exact ⟨rfl, rfl⟩
theorem abs_pos {a b : Int} (h : (a < 0 ∧ b < 0) ∨ (¬ a < 0 ∧ ¬ b < 0)) : absU a * absU b = a * b := by
  unfold absU
  rw [← Int.natCast_mul, ← Int.natAbs_mul]
  have : 0 ≤ a * b := by
    rcases h with ⟨h1, h2⟩ | ⟨h1, h2⟩
    · exact Int.le_of_lt (Int.mul_pos_of_neg_of_neg h1 h2)
    · exact Int.mul_nonneg (by omega) (by omega)
  omega
theorem abs_neg {a b : Int} (h : (a < 0 ∧ ¬ b < 0) ∨ (¬ a < 0 ∧ b < 0)) : absU a * absU b = -(a * b) := by
  unfold absU
  rw [← Int.natCast_mul, ← Int.natAbs_mul]
  have : a * b ≤ 0 := by
    rcases h with ⟨h1, h2⟩ | ⟨h1, h2⟩
    · exact Int.mul_nonpos_of_nonpos_of_nonneg (by omega) (by omega)
    · exact Int.mul_nonpos_of_nonneg_of_nonpos (by omega) (by omega)
  omega
theorem abs_lt {a b : Int} (ha : -9223372036854775808 ≤ a ∧ a ≤ 9223372036854775807) (hb : -9223372036854775808 ≤ b ∧ b ≤ 9223372036854775807) : 0 ≤ absU a * absU b ∧ absU a * absU b < 340282366920938463463374607431768211456 := by
  have h1 : 0 ≤ absU a ∧ absU a ≤ 9223372036854775808 := by unfold absU; omega
  have h2 : 0 ≤ absU b ∧ absU b ≤ 9223372036854775808 := by unfold absU; omega
  generalize absU a = x at *
  generalize absU b = y at *
  have h3 : x * y ≤ 9223372036854775808 * 9223372036854775808 := Int.mul_le_mul h1.2 h2.2 h2.1 (by decide)
  exact ⟨Int.mul_nonneg h1.1 h2.1, by omega⟩
theorem not_u64 {x : Int} (h0 : 0 ≤ x) (h1 : x < 18446744073709551616) : bits .xor .u64 IntKind.u64.max x = 18446744073709551615 - x := by
  obtain ⟨n, rfl⟩ := Int.eq_ofNat_of_zero_le h0
  have hb : IntKind.u64.bits = 64 := rfl
  have h := bNot (k := .u64) rfl (A := n) (by rw [hb]; omega)
  rw [h, hb]; omega
theorem neg_parts {N : Int} (h0 : 0 ≤ N) (h1 : N < 340282366920938463463374607431768211456) :
    IntKind.u64.wrap (-(N % 18446744073709551616)) = (-N) % 18446744073709551616 ∧
    ((IntKind.u64.wrap (-(N % 18446744073709551616)) == 0) = true → IntKind.u64.wrap (bits .xor .u64 IntKind.u64.max (N / 18446744073709551616) + 1) = (-N) / 18446744073709551616 % 18446744073709551616) ∧
    ((IntKind.u64.wrap (-(N % 18446744073709551616)) == 0) = false → bits .xor .u64 IntKind.u64.max (N / 18446744073709551616) = (-N) / 18446744073709551616 % 18446744073709551616) := by
  rw [not_u64 (by omega) (by omega), wrapU, wrapU]
  refine ⟨by omega, fun h => ?_, fun h => ?_⟩
  · have := eq_of_beq h; omega
  · have := beq_eq_false_iff_ne.mp h; omega
set_option maxHeartbeats 1000000 in
theorem specProdS (a b : Int) (w : World) (ha : (Lit.int .i64 a).wf = true) (hb : (Lit.int .i64 b).wf = true) : Calls Tryd.prog 88 #[.int .i64 a, .int .i64 b, .bool true] w fun e w' => e = .returned (.tuple #[.int .u64 (a * b / 18446744073709551616 % 18446744073709551616), .int .u64 (a * b % 18446744073709551616)]) ∧ w = w' := by
  have CA := Lib.hid fun w => specSize a w ha
  have CB := Lib.hid fun w => specSize b w hb
  have ba := bounds_i64 ha; have bb := bounds_i64 hb
  have CW := Lib.hid fun w => wide_any (absU a) (absU b) w (by unfold absU; omega) (by unfold absU; omega) (by unfold absU; omega) (by unfold absU; omega)
  have hl := abs_lt ba bb
  clear ba bb ha hb
  rcases (by omega : ((a < 0 ∧ b < 0) ∨ (¬ a < 0 ∧ ¬ b < 0)) ∨ ((a < 0 ∧ ¬ b < 0) ∨ (¬ a < 0 ∧ b < 0))) with hs | hs
  · have hp := abs_pos hs
    rw [hp] at hl
    have E1 : Hid (hiW (absU a) (absU b) = a * b / 18446744073709551616 % 18446744073709551616) := Lib.hid (by unfold hiW; rw [hp]; generalize a * b = N at *; omega)
    have E2 : Hid (loW (absU a) (absU b) = a * b % 18446744073709551616) := Lib.hid (by unfold loW; rw [hp])
    clear hp hl
    have ks : (decide (a < 0) = true ∧ decide (b < 0) = true) ∨ (decide (a < 0) = false ∧ decide (b < 0) = false) := hs.imp (fun h => ⟨decide_eq_true h.1, decide_eq_true h.2⟩) (fun h => ⟨decide_eq_false h.1, decide_eq_false h.2⟩)
    clear hs
    rcases ks with ⟨k1, k2⟩ | ⟨k1, k2⟩
    all_goals
      go_enter Tryd.func88, Tryd.ntmps88
      go_wp2_with fail
      refine (CA.out _).mono ?_
      rintro e w1 ⟨rfl, rfl⟩
      go_wp2_with fail
      refine (CB.out _).mono ?_
      rintro e w1 ⟨rfl, rfl⟩
      go_wp2_with fail
      refine (CW.out _).mono ?_
      rintro e w1 ⟨rfl, rfl⟩
      go_wp2
      go_ret2
      exact ⟨ret_two E1.out E2.out, rfl⟩
  · have hp := abs_neg hs
    have np := neg_parts hl.1 hl.2
    rw [hp, Int.neg_neg] at np
    have hh : hiW (absU a) (absU b) = -(a * b) / 18446744073709551616 := by unfold hiW; rw [hp]
    have hw : loW (absU a) (absU b) = -(a * b) % 18446744073709551616 := by unfold loW; rw [hp]
    rw [← hh, ← hw] at np
    obtain ⟨n1, n2, n3⟩ := np
    have E2 := Lib.hid n1
    clear hh hw hp hl n1
    cases hz : (IntKind.u64.wrap (-loW (absU a) (absU b)) == 0)
    · have E1 := Lib.hid (n3 hz)
      clear n2 n3
      have ks : (decide (a < 0) = true ∧ decide (b < 0) = false) ∨ (decide (a < 0) = false ∧ decide (b < 0) = true) := hs.imp (fun h => ⟨decide_eq_true h.1, decide_eq_false h.2⟩) (fun h => ⟨decide_eq_false h.1, decide_eq_true h.2⟩)
      clear hs
      rcases ks with ⟨k1, k2⟩ | ⟨k1, k2⟩
      all_goals
        go_enter Tryd.func88, Tryd.ntmps88
        go_wp2_with fail
        refine (CA.out _).mono ?_
        rintro e w1 ⟨rfl, rfl⟩
        go_wp2_with fail
        refine (CB.out _).mono ?_
        rintro e w1 ⟨rfl, rfl⟩
        go_wp2_with fail
        refine (CW.out _).mono ?_
        rintro e w1 ⟨rfl, rfl⟩
        go_wp2
        go_ret2
        exact ⟨ret_two E1.out E2.out, rfl⟩
    · have E1 := Lib.hid (n2 hz)
      clear n2 n3
      have ks : (decide (a < 0) = true ∧ decide (b < 0) = false) ∨ (decide (a < 0) = false ∧ decide (b < 0) = true) := hs.imp (fun h => ⟨decide_eq_true h.1, decide_eq_false h.2⟩) (fun h => ⟨decide_eq_false h.1, decide_eq_true h.2⟩)
      clear hs
      rcases ks with ⟨k1, k2⟩ | ⟨k1, k2⟩
      all_goals
        go_enter Tryd.func88, Tryd.ntmps88
        go_wp2_with fail
        refine (CA.out _).mono ?_
        rintro e w1 ⟨rfl, rfl⟩
        go_wp2_with fail
        refine (CB.out _).mono ?_
        rintro e w1 ⟨rfl, rfl⟩
        go_wp2_with fail
        refine (CW.out _).mono ?_
        rintro e w1 ⟨rfl, rfl⟩
        go_wp2
        go_ret2
        exact ⟨ret_two E1.out E2.out, rfl⟩
end Go.Proofs.YtbcbepdfijcbmaaDoor
