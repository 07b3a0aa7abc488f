/-
  What is multiplied and divided again is what it was: the numbers that impl.MulWide and impl.DivideWide answer with, put together; conditions: numbers of kind int, as each head says.
-/
import Derived.Test.YtplgeelhkldkcaaWalkDiv2
import Derived.OpenShut
namespace Go.Proofs.Ytplgeelhkldkcaa
open Go.RowKit
set_option linter.unusedVariables false
theorem u_w {n : Int} (h0 : 0 ≤ n) (h1 : n < 18446744073709551616) : IntKind.u64.wrap (wrap64 n) = n := by rw [wrapU]; unfold wrap64; omega
theorem w_u {a : Int} (h : (Lit.int .i64 a).wf = true) : wrap64 (IntKind.u64.wrap a) = a := by
  have := bounds_i64 h
  rw [wrapU]; unfold wrap64; omega
theorem mod_bd (n : Int) : 0 ≤ n % 18446744073709551616 ∧ n % 18446744073709551616 < 18446744073709551616 := by omega
theorem times_eq (a b : Int) : wrap64 (IntKind.u64.wrap (IntKind.u64.wrap a * IntKind.u64.wrap b)) = mulLo a b := by
  unfold mulLo loW; rw [wrapU (IntKind.u64.wrap a * IntKind.u64.wrap b)]
theorem hi_bd {x y : Int} (x0 : 0 ≤ x) (x1 : x < 18446744073709551616) (y0 : 0 ≤ y) (y1 : y < 18446744073709551616) : 0 ≤ x * y / 18446744073709551616 ∧ (0 < y → x * y / 18446744073709551616 < y) ∧ x * y / 18446744073709551616 < 18446744073709551616 := by
  have h1 : 0 ≤ x * y := Int.mul_nonneg x0 y0
  have h2 : x * y ≤ 18446744073709551615 * y := Int.mul_le_mul_of_nonneg_right (by omega) y0
  generalize x * y = P at *
  omega
theorem wide_back {a b : Int} (ha : (Lit.int .i64 a).wf = true) (hb : IntKind.u64.wrap b ≠ 0) :
    IntKind.u64.wrap (mulHi a b) < IntKind.u64.wrap b ∧ dwQ (mulHi a b) (mulLo a b) b = a ∧ dwR (mulHi a b) (mulLo a b) b = 0 := by
  have x0 := u64_lo a; have x1 := u64_hi a; have y0 := u64_lo b; have y1 := u64_hi b
  have hw := w_u ha
  unfold dwQ dwR mulHi mulLo hiW loW dq dr
  generalize IntKind.u64.wrap a = x at *
  generalize IntKind.u64.wrap b = y at *
  obtain ⟨p1, p2, p3⟩ := hi_bd x0 x1 y0 y1
  have e : x * y / 18446744073709551616 * 18446744073709551616 + x * y % 18446744073709551616 = x * y := by
    have := Int.mul_ediv_add_emod (x * y) 18446744073709551616; omega
  rw [u_w p1 p3, u_w (mod_bd _).1 (mod_bd _).2, e]
  refine ⟨p2 (by omega), ?_, ?_⟩
  · rw [Int.mul_ediv_cancel _ hb]; exact hw
  · rw [Int.mul_emod_left]; unfold wrap64; omega
/-- K and R: quotient and rest of h and a by b, h below b -/
theorem div_facts {h x y : Int} (h0 : 0 ≤ h) (hlt : h < y) (x0 : 0 ≤ x) (x1 : x < 18446744073709551616) :
    0 ≤ dq h x y ∧ dq h x y < 18446744073709551616 ∧ 0 ≤ dr h x y ∧ dr h x y < y ∧ dq h x y * y + dr h x y = h * 18446744073709551616 + x := by
  unfold dq dr
  have hy : 0 < y := by omega
  have h1 : (h + 1) * 18446744073709551616 ≤ y * 18446744073709551616 := Int.mul_le_mul_of_nonneg_right (by omega) (by decide)
  refine ⟨Int.ediv_nonneg (by omega) (by omega), ?_, Int.emod_nonneg _ (by omega), Int.emod_lt_of_pos _ hy, ?_⟩
  · exact Int.ediv_lt_of_lt_mul hy (by rw [Int.mul_comm]; omega)
  · have := Int.mul_ediv_add_emod (h * 18446744073709551616 + x) y
    rw [Int.mul_comm y] at this; exact this
theorem wide_again {h a b : Int} (ha : (Lit.int .i64 a).wf = true) (h0 : 0 ≤ h) (h8 : h ≤ 8) (hlt : h < IntKind.u64.wrap b) :
    wrap64 (IntKind.u64.wrap (IntKind.u64.wrap (mulLo (wrap64 (dq h (IntKind.u64.wrap a) (IntKind.u64.wrap b))) b) + IntKind.u64.wrap (wrap64 (dr h (IntKind.u64.wrap a) (IntKind.u64.wrap b))))) = a ∧
    IntKind.u64.wrap (wrap64 (dr h (IntKind.u64.wrap a) (IntKind.u64.wrap b))) < IntKind.u64.wrap b ∧
    (IntKind.u64.wrap a < IntKind.u64.wrap (mulLo (wrap64 (dq h (IntKind.u64.wrap a) (IntKind.u64.wrap b))) b) → wrap64 (IntKind.u64.wrap (IntKind.u64.wrap (mulHi (wrap64 (dq h (IntKind.u64.wrap a) (IntKind.u64.wrap b))) b) + IntKind.u64.wrap 1)) = h) ∧
    (¬ IntKind.u64.wrap a < IntKind.u64.wrap (mulLo (wrap64 (dq h (IntKind.u64.wrap a) (IntKind.u64.wrap b))) b) → mulHi (wrap64 (dq h (IntKind.u64.wrap a) (IntKind.u64.wrap b))) b = h) := by
  have x0 := u64_lo a; have x1 := u64_hi a; have y0 := u64_lo b; have y1 := u64_hi b
  have hw := w_u ha
  have e1 : IntKind.u64.wrap 1 = 1 := by rw [wrapU]; rfl
  rw [e1]
  unfold mulHi mulLo hiW loW
  generalize IntKind.u64.wrap a = x at *
  generalize IntKind.u64.wrap b = y at *
  obtain ⟨k0, k1, r0, r1, e⟩ := div_facts h0 hlt x0 x1
  generalize dq h x y = K at *
  generalize dr h x y = R at *
  obtain ⟨p1, _, p3⟩ := hi_bd k0 k1 y0 y1
  rw [u_w k0 k1, u_w p1 p3, u_w (mod_bd _).1 (mod_bd _).2, u_w r0 (by omega)]
  generalize K * y = P at *
  refine ⟨?_, r1, fun hc => ?_, fun hc => ?_⟩
  · have : IntKind.u64.wrap (P % 18446744073709551616 + R) = x := by rw [wrapU]; omega
    rw [this]; exact hw
  · have : P / 18446744073709551616 + 1 = h := by omega
    rw [this, wrapU]; unfold wrap64; omega
  · have : P / 18446744073709551616 = h := by omega
    rw [this]; unfold wrap64; omega
set_option maxHeartbeats 400000 in
theorem specBelow (a b : Int) (w : World) :
    Calls Try.prog 22 #[.int .i64 a, .int .i64 b] w fun e w' => e = .returned (.bool (decide (IntKind.u64.wrap a < IntKind.u64.wrap b))) ∧ w = w' := by
  go_enter Try.func22, Try.ntmps22
  go_wp2
  go_ret
  exact ⟨rfl, rfl⟩
set_option maxHeartbeats 400000 in
theorem lawPlus (a b : Int) (w : World) :
    Calls Try.prog 23 #[.int .i64 a, .int .i64 b] w fun e w' => e = .returned (.int .i64 (wrap64 (IntKind.u64.wrap (IntKind.u64.wrap a + IntKind.u64.wrap b)))) ∧ w = w' := by
  go_enter Try.func23, Try.ntmps23
  go_wp2
  go_ret
  exact ⟨rfl, rfl⟩
set_option maxHeartbeats 400000 in
theorem lawTimes (a b : Int) (w : World) :
    Calls Try.prog 19 #[.int .i64 a, .int .i64 b] w fun e w' => e = .returned (.int .i64 (wrap64 (IntKind.u64.wrap (IntKind.u64.wrap a * IntKind.u64.wrap b)))) ∧ w = w' := by
  go_enter Try.func19, Try.ntmps19
  go_wp2
  go_ret
  exact ⟨rfl, rfl⟩
end Go.Proofs.Ytplgeelhkldkcaa
