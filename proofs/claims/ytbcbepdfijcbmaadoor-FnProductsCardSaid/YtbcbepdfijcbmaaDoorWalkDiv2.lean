/-
  What math/bits.Div64, spec.l01Divide, impl.DivideWide and spec.DivideWide do: quotient and rest of a number of 128 bits by a divisor above its upper half (else code 16), changing nothing; no other condition.
-/
import Derived.Test.YtbcbepdfijcbmaaDoorWalkDiv
import Derived.Test.YtbcbepdfijcbmaaDoorWalkMul
namespace Go.Proofs.YtbcbepdfijcbmaaDoor
open Go.RowKit
theorem and32 (a : Nat) (ha : a < 18446744073709551616) : bits .and .u64 (a : Int) 4294967295 = ((a % 4294967296 : Nat) : Int) := by
  have h := bits_and_u64_nat a 4294967295 ha (by omega)
  have e : a &&& 4294967295 = a % 4294967296 := Nat.and_two_pow_sub_one_eq_mod a 32
  rw [e] at h
  exact h
theorem pow_split (s : Nat) (hs : s ≤ 64) : 2 ^ s * 2 ^ (64 - s) = 18446744073709551616 := by
  rw [← Nat.pow_add, show s + (64 - s) = 64 from by omega]
theorem shl_lo (lo s : Nat) (hs : s ≤ 64) : lo * 2 ^ s = lo / 2 ^ (64 - s) * 18446744073709551616 + lo * 2 ^ s % 18446744073709551616 := by
  have e : lo * 2 ^ s / 18446744073709551616 = lo / 2 ^ (64 - s) := by
    rw [← pow_split s hs, Nat.mul_comm lo, Nat.mul_div_mul_left _ _ (Nat.pow_pos (by decide))]
  have := Nat.div_add_mod (lo * 2 ^ s) 18446744073709551616
  rw [e] at this
  rw [Nat.mul_comm (lo / _)]; exact this.symm
theorem top_lt (lo s : Nat) (hs : s ≤ 64) (hl : lo < 18446744073709551616) : lo / 2 ^ (64 - s) < 2 ^ s := by
  rw [Nat.div_lt_iff_lt_mul (Nat.pow_pos (by decide)), pow_split s hs]; exact hl
theorem zeros (y : Nat) (h0 : 0 < y) (hy : y < 18446744073709551616) : ∃ s : Nat, s ≤ 63 ∧ (64 - (Lib.bitLen y : Int)) = (s : Int) ∧ y * 2 ^ s < 18446744073709551616 ∧ 9223372036854775808 ≤ y * 2 ^ s := by
  obtain ⟨h1, h2, h3⟩ := Lib.bitLenAux_bounds 64 y hy (by omega)
  have h4 : Lib.bitLen y ≤ 64 := Lib.bitLen_le y 64 (by omega) hy
  change 1 ≤ Lib.bitLen y at h1
  change 2 ^ (Lib.bitLen y - 1) ≤ y at h2
  change y < 2 ^ Lib.bitLen y at h3
  generalize Lib.bitLen y = n at *
  refine ⟨64 - n, by omega, by omega, ?_, ?_⟩
  · have := Nat.mul_lt_mul_of_pos_right h3 (show 0 < 2 ^ (64 - n) from Nat.pow_pos (by decide))
    rw [pow_split n h4] at this; exact this
  · have := Nat.mul_le_mul_right (2 ^ (64 - n)) h2
    have e : 2 ^ (n - 1) * 2 ^ (64 - n) = 9223372036854775808 := by
      rw [← Nat.pow_add, show n - 1 + (64 - n) = 63 from by omega]
    rw [e] at this; exact this
theorem Dig.ex {y1 y0 u n : Nat} (h1 : 2147483648 ≤ y1) (h2 : y1 < 4294967296) (h3 : y0 < 4294967296) (h4 : n < 4294967296) (h5 : u < y1 * 4294967296 + y0) : ∃ Q, Dig y1 y0 u n Q := ⟨_, Dig.mk' h1 h2 h3 h4 h5⟩
theorem Dig.restV {y1 y0 u n Q V : Nat} (h : Dig y1 y0 u n Q) (hV : y1 * 4294967296 + y0 = V) : ∃ R : Nat, R < V ∧ Q * V + R = u * 4294967296 + n ∧
    IntKind.u64.wrap (IntKind.u64.wrap (IntKind.u64.wrap ((u : Int) * 4294967296) + (n : Int)) - IntKind.u64.wrap ((Q : Int) * (V : Int))) = (R : Int) := by
  subst hV; exact h.rest
theorem glue (x t : Nat) : (x * 4294967296 + t / 4294967296) * 4294967296 + t % 4294967296 = x * 18446744073709551616 + t := by
  have e : (4294967296 * 4294967296 : Nat) = 18446744073709551616 := by decide
  rw [Nat.add_mul, Nat.mul_assoc, e]
  have := Nat.div_add_mod t 4294967296
  omega
theorem div64_pos (hi lo y : Nat) (w : World) (h0 : 0 < hi) (hh : hi < y) (hl : lo < 18446744073709551616) (hd : y < 18446744073709551616) :
    Calls Tryd.prog 96 #[.int .u64 hi, .int .u64 lo, .int .u64 y] w fun e w' => e = .returned (.tuple #[.int .u64 (((hi * 18446744073709551616 + lo) / y : Nat) : Int), .int .u64 (((hi * 18446744073709551616 + lo) % y : Nat) : Int)]) ∧ w = w' := by
  obtain ⟨s, hs, es, hV, hV2⟩ := zeros y (by omega) hd
  have hc : ∀ w, Calls Tryd.prog 102 #[.int .u64 (y : Int)] w fun e w' => e = .returned (.int .i64 (s : Int)) ∧ w = w' := fun w =>
    (Tryd.bits_LeadingZeros64 (y : Int) w (by omega) (by omega)).mono fun e w' ⟨he, hw⟩ => ⟨by rw [he, ← es]; rfl, hw.symm⟩
  have hp : 0 < 2 ^ s := Nat.pow_pos (by decide)
  have hhi : hi * 2 ^ s + 2 ^ s ≤ y * 2 ^ s := by
    have := Nat.mul_le_mul_right (2 ^ s) (show hi + 1 ≤ y from hh)
    rw [Nat.add_mul, Nat.one_mul] at this; exact this
  have htop := top_lt lo s (by omega) hl
  have hsh := shl_lo lo s (by omega)
  have hUs : (hi * 18446744073709551616 + lo) * 2 ^ s = (hi * 2 ^ s + lo / 2 ^ (64 - s)) * 18446744073709551616 + lo * 2 ^ s % 18446744073709551616 := by
    rw [Nat.add_mul, hsh, Nat.add_mul]
    have : hi * 18446744073709551616 * 2 ^ s = hi * 2 ^ s * 18446744073709551616 := by rw [Nat.mul_assoc, Nat.mul_comm 18446744073709551616, ← Nat.mul_assoc]
    rw [this]; omega
  have hor : (hi * 2 ^ s) ||| (lo / 2 ^ (64 - s)) = hi * 2 ^ s + lo / 2 ^ (64 - s) := by
    have := Nat.two_pow_add_eq_or_of_lt htop hi
    rw [Nat.mul_comm (2 ^ s) hi] at this; exact this.symm
  have c1 : ((y : Int) * 2 ^ s) = ((y * 2 ^ s : Nat) : Int) := by simp
  have c2 : ((hi : Int) * 2 ^ s) = ((hi * 2 ^ s : Nat) : Int) := by simp
  have c3 : ((lo : Int) * 2 ^ s) = ((lo * 2 ^ s : Nat) : Int) := by simp
  have c4 : ((lo : Int) / 2 ^ (64 - s)) = ((lo / 2 ^ (64 - s) : Nat) : Int) := by simp
  generalize hVd : y * 2 ^ s = V at *
  generalize hAd : hi * 2 ^ s = A at *
  generalize hTd : lo * 2 ^ s = T at *
  generalize hbd : lo / 2 ^ (64 - s) = b at *
  have hyV : V / 4294967296 * 4294967296 + V % 4294967296 = V := by omega
  obtain ⟨Q, hD1⟩ := Dig.ex (y1 := V / 4294967296) (y0 := V % 4294967296) (u := A + b) (n := T % 18446744073709551616 / 4294967296) (by omega) (by omega) (by omega) (by omega) (by omega)
  obtain ⟨R1, hR1, eR1, rr1⟩ := hD1.restV hyV
  have hQ := hD1.small
  obtain ⟨Q0, hD2⟩ := Dig.ex (y1 := V / 4294967296) (y0 := V % 4294967296) (u := R1) (n := T % 18446744073709551616 % 4294967296) (by omega) (by omega) (by omega) (by omega) (by omega)
  obtain ⟨R0, hR0, eR0, rr0⟩ := hD2.restV hyV
  have hQ0 := hD2.small
  have fin := two_digits (U := hi * 18446744073709551616 + lo) (s := s) (y := y) hVd.symm (by omega) eR1 eR0 hR0 ((glue (A + b) (T % 18446744073709551616)).trans hUs.symm)
  refine (div64_hi hi lo y s V (V / 4294967296) (V % 4294967296) (A + b) (T % 18446744073709551616) (T % 18446744073709551616 / 4294967296) (T % 18446744073709551616 % 4294967296) Q R1 Q0 R0 w h0 hh hs hc
    (by rw [c1, wrapU]; omega) (by omega) (and32 V (by omega)) ?_ (by rw [c3, wrapU]; omega) (by omega) (and32 _ (by omega)) hD1 hD2 (by omega) (by omega) (by omega) (by omega) (by omega) (by omega) rr1 rr0 (by omega) (by omega)).mono fun e w' ⟨he, hw⟩ => ⟨?_, hw⟩
  · rw [c2, c4, wrapU]
    have e1 : ((A : Int) % 18446744073709551616) = (A : Int) := by omega
    have := bits_or_u64_nat A b (by omega) (by omega)
    rw [hor] at this
    rw [e1]; exact this
  · rw [he]
    refine ret_two' ?_ ?_
    · rw [← fin.1]; omega
    · rw [← fin.2]; simp
set_option maxRecDepth 100000 in
set_option maxHeartbeats 1000000 in
theorem div64_zero (lo y : Nat) (w : World) (hy : 0 < y) (hl : lo < 18446744073709551616) (hd : y < 18446744073709551616) :
    Calls Tryd.prog 96 #[.int .u64 0, .int .u64 lo, .int .u64 y] w fun e w' => e = .returned (.tuple #[.int .u64 ((lo / y : Nat) : Int), .int .u64 ((lo % y : Nat) : Int)]) ∧ ∃ n, w' = w.drewN n := by
  have e1 : ((y : Int) == 0) = false := beq_eq_false_iff_ne.mpr (by omega)
  have e3 : decide ((y : Int) ≤ 0) = false := decide_eq_false (by omega)
  have e5 : ¬ y = 0 := by omega
  go_enter Tryd.func96, Tryd.ntmps96
  go_wp2
  go_quiet (fail)
  go_wp2
  go_ret2
  refine ⟨ret_two' (quo0 lo y hl) (by simp), _, rfl⟩
def dq (x l d : Int) : Int := (x * 18446744073709551616 + l) / d
def dr (x l d : Int) : Int := (x * 18446744073709551616 + l) % d
theorem dq_nat (x l d : Nat) : (((x * 18446744073709551616 + l) / d : Nat) : Int) = dq x l d := by unfold dq; simp
theorem dr_nat (x l d : Nat) : (((x * 18446744073709551616 + l) % d : Nat) : Int) = dr x l d := by unfold dr; simp
theorem div64_any (x l d : Int) (w : World) (h0 : 0 ≤ x) (h1 : x < d) (h2 : 0 ≤ l) (h3 : l < 18446744073709551616) (h4 : d < 18446744073709551616) :
    Calls Tryd.prog 96 #[.int .u64 x, .int .u64 l, .int .u64 d] w fun e w' => e = .returned (.tuple #[.int .u64 (dq x l d), .int .u64 (dr x l d)]) ∧ Below w.heap.size w w' := by
  obtain ⟨a, rfl⟩ := Int.eq_ofNat_of_zero_le h0
  obtain ⟨b, rfl⟩ := Int.eq_ofNat_of_zero_le h2
  obtain ⟨c, rfl⟩ := Int.eq_ofNat_of_zero_le (show 0 ≤ d by omega)
  rw [← dq_nat, ← dr_nat]
  by_cases h : a = 0
  · subst h
    refine (div64_zero b c w (by omega) (by omega) (by omega)).mono fun e w' ⟨he, n, hw⟩ => ⟨?_, ?_⟩
    · rw [he, Nat.zero_mul, Nat.zero_add]
    · rw [hw]; exact below_drewN (Below.refl _ _) _
  · refine (div64_pos a b c w (by omega) (by omega) (by omega) (by omega)).mono fun e w' ⟨he, hw⟩ => ⟨he, ?_⟩
    rw [← hw]; exact Below.refl _ _
set_option maxHeartbeats 400000 in
theorem divide_nat (h l d : Nat) (w : World) (hh : h < d) (hl : l < 18446744073709551616) (hd : d < 18446744073709551616) :
    Calls Tryd.prog 82 #[.int .u64 h, .int .u64 l, .int .u64 d] w fun e w' => e = .returned (.tuple #[.int .u64 ((divX h l 0 / d : Nat) : Int), .int .u64 ((divX h l 0 % d : Nat) : Int)]) ∧ w = w' := by
  go_enter Tryd.func82, Tryd.ntmps82
  go_wp2
  go_loop [8, 9, 10] (fun q r i => ∃ (k Q R : Nat), k ≤ 64 ∧ i = .int .i64 ((k : Int) - 1) ∧ q = .int .u64 Q ∧ r = .int .u64 R ∧ R < d ∧ Q < 18446744073709551616 ∧ Hid (Q * d + R = divX h l k)) (fun _ _ i => (intOf i + 1).toNat)
  case atStart =>
    refine ⟨64, 0, h, by omega, rfl, rfl, rfl, hh, by omega, ?_⟩
    have e : l / 2 ^ 64 = 0 := Nat.div_eq_of_lt (by omega)
    have h' : 0 * d + h = divX h l 64 := by unfold divX; rw [e]; simp
    exact Lib.hid h'
  case round =>
    obtain ⟨k, Q, R, hk, rfl, rfl, rfl, hR, hQ, HP⟩ := hrel
    by_cases h0 : 1 ≤ k
    · go_wp2
      · obtain ⟨Q', R', b1, b2, b3, e1, e2⟩ := div_top h0 hk hh hl hd hR HP.out ‹_›
        go_round
        case rel => exact ⟨k - 1, Q', R', by omega, by go_num, by rw [e1], by rw [e2], b1, b2, Lib.hid b3⟩
        case measure => simp [intOf]; omega
      · obtain ⟨Q', R', b1, b2, b3, e1, e2⟩ := div_ge h0 hk hh hl hd hR HP.out ‹_› ‹_›
        go_round
        case rel => exact ⟨k - 1, Q', R', by omega, by go_num, by rw [e1], by rw [e2], b1, b2, Lib.hid b3⟩
        case measure => simp [intOf]; omega
      · obtain ⟨Q', R', b1, b2, b3, e1, e2⟩ := div_lt h0 hk hh hl hd hR HP.out ‹_› ‹_›
        go_round
        case rel => exact ⟨k - 1, Q', R', by omega, by go_num, by rw [e1], by rw [e2], b1, b2, Lib.hid b3⟩
        case measure => simp [intOf]; omega
    · obtain rfl : k = 0 := by omega
      obtain ⟨e1, e2⟩ := div_end hR HP.out
      have E1 := Lib.hid e1; have E2 := Lib.hid e2; clear e1 e2
      go_wp2
      go_ret2
      exact ⟨ret_two' (congrArg Nat.cast E1.out) (congrArg Nat.cast E2.out), rfl⟩
theorem divX0 (h l : Nat) : divX h l 0 = h * 18446744073709551616 + l := by unfold divX; simp
theorem divide_any (x l d : Int) (w : World) (h0 : 0 ≤ x) (h1 : x < d) (h2 : 0 ≤ l) (h3 : l < 18446744073709551616) (h4 : d < 18446744073709551616) :
    Calls Tryd.prog 82 #[.int .u64 x, .int .u64 l, .int .u64 d] w fun e w' => e = .returned (.tuple #[.int .u64 (dq x l d), .int .u64 (dr x l d)]) ∧ w = w' := by
  obtain ⟨a, rfl⟩ := Int.eq_ofNat_of_zero_le h0
  obtain ⟨b, rfl⟩ := Int.eq_ofNat_of_zero_le h2
  obtain ⟨c, rfl⟩ := Int.eq_ofNat_of_zero_le (show 0 ≤ d by omega)
  have := divide_nat a b c w (by omega) (by omega) (by omega)
  rw [divX0, dq_nat, dr_nat] at this
  exact this
def dwQ (h l d : Int) : Int := wrap64 (dq (IntKind.u64.wrap h) (IntKind.u64.wrap l) (IntKind.u64.wrap d))
def dwR (h l d : Int) : Int := wrap64 (dr (IntKind.u64.wrap h) (IntKind.u64.wrap l) (IntKind.u64.wrap d))
theorem ret_three {a b c : Int} {v : Value} (h : v = .tuple #[.int .i64 a, .int .i64 b, .int .i64 c]) : Ending.returned v = .returned (.tuple #[.int .i64 a, .int .i64 b, .int .i64 c]) := by rw [h]
set_option maxHeartbeats 400000 in
theorem implBelow (a b : Int) (w : World) :
    Calls Tryd.prog 95 #[.int .i64 a, .int .i64 b] w fun e w' => e = .returned (.bool (decide (IntKind.u64.wrap a < IntKind.u64.wrap b))) ∧ w = w' := by
  go_enter Tryd.func95, Tryd.ntmps95
  go_wp2
  go_ret
  exact ⟨rfl, rfl⟩
set_option maxHeartbeats 400000 in
theorem implDivide (h l d : Int) (w : World) (hlt : IntKind.u64.wrap h < IntKind.u64.wrap d) :
    Calls Tryd.prog 83 #[.int .i64 h, .int .i64 l, .int .i64 d] w fun e w' => e = .returned (.tuple #[.int .i64 (dwQ h l d), .int .i64 (dwR h l d), .int .i64 0]) ∧ Below w.heap.size w w' := by
  go_enter Tryd.func83, Tryd.ntmps83
  go_wp2_with (first | (go_at_call 95; refine (implBelow _ _ _).mono ?_; rintro e w' ⟨rfl, rfl⟩) | (go_at_call 96; refine (div64_any _ _ _ _ (u64_lo h) hlt (u64_lo l) (u64_hi l) (u64_hi d)).mono ?_; rintro e w' ⟨rfl, hb⟩))
  go_ret3
  exact ⟨rfl, hb⟩
set_option maxHeartbeats 400000 in
theorem implDivideNo (h l d : Int) (w : World) (hlt : ¬ IntKind.u64.wrap h < IntKind.u64.wrap d) :
    Calls Tryd.prog 83 #[.int .i64 h, .int .i64 l, .int .i64 d] w fun e w' => e = .returned (.tuple #[.int .i64 0, .int .i64 0, .int .i64 16]) ∧ Below w.heap.size w w' := by
  have hdec : decide (IntKind.u64.wrap h < IntKind.u64.wrap d) = false := decide_eq_false hlt
  go_enter Tryd.func83, Tryd.ntmps83
  go_wp2_with (go_at_call 95; refine (implBelow _ _ _).mono ?_; rintro e w' ⟨rfl, rfl⟩)
  go_ret3
  exact ⟨rfl, Below.refl _ _⟩
end Go.Proofs.YtbcbepdfijcbmaaDoor
