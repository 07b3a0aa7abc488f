/-
  What impl.MulWide and spec.MulWide do: for every two numbers both return the upper and the lower half of the product without signs and change nothing; no condition.
-/
import Derived.Test.YtbcbepdfijcbmaaDoorRows
import Derived.Test.YtbcbepdfijcbmaaDoorShelf
import Derived.Test.YtbcbepdfijcbmaaDoorMathWide
import Derived.WalkKit
import Derived.WalkSpells
import Derived.WalkLawsBesides
import Derived.Lib.Hide
namespace Go.Proofs.YtbcbepdfijcbmaaDoor
open Go.RowKit
def hiW (x y : Int) : Int := x * y / 18446744073709551616
def loW (x y : Int) : Int := x * y % 18446744073709551616
theorem hiW_nat (a b : Nat) : ((a * b / 18446744073709551616 : Nat) : Int) = hiW a b := by unfold hiW; simp
theorem loW_nat (a b : Nat) : ((a * b % 18446744073709551616 : Nat) : Int) = loW a b := by unfold loW; simp
theorem ret_two {k : IntKind} {a b c d : Int} (h1 : a = c) (h2 : b = d) : Ending.returned (.tuple #[.int k a, .int k b]) = .returned (.tuple #[.int k c, .int k d]) := by rw [h1, h2]
theorem u64_lo (a : Int) : 0 ≤ IntKind.u64.wrap a := by rw [wrapU]; omega
theorem u64_hi (a : Int) : IntKind.u64.wrap a < 18446744073709551616 := by rw [wrapU]; omega
set_option maxHeartbeats 400000 in
theorem wide_nat (a b : Nat) (w : World) (ha : a < 18446744073709551616) (hb : b < 18446744073709551616) :
    Calls Tryd.prog 101 #[.int .u64 a, .int .u64 b] w fun e w' => e = .returned (.tuple #[.int .u64 ((a * b / 18446744073709551616 : Nat) : Int), .int .u64 ((a * b % 18446744073709551616 : Nat) : Int)]) ∧ w = w' := by
  go_enter Tryd.func101, Tryd.ntmps101
  go_wp2
  go_loop [6, 7, 8] (fun h l i => ∃ (k H L : Nat), k ≤ 64 ∧ i = .int .i64 ((k : Int) - 1) ∧ h = .int .u64 H ∧ l = .int .u64 L ∧ H < 18446744073709551616 ∧ L < 18446744073709551616 ∧ Hid (18446744073709551616 * H + L = a * (b / 2 ^ k))) (fun _ _ i => (intOf i + 1).toNat)
  case atStart =>
    refine ⟨64, 0, 0, by omega, rfl, rfl, rfl, by omega, by omega, ?_⟩
    have e : b / 2 ^ 64 = 0 := Nat.div_eq_of_lt (by omega)
    have h : 18446744073709551616 * 0 + 0 = a * (b / 2 ^ 64) := by rw [e]; omega
    exact Lib.hid h
  case round =>
    obtain ⟨k, H, L, hk, rfl, rfl, rfl, hH, hL, HP⟩ := hrel
    by_cases h0 : 1 ≤ k
    · go_wp2
      · obtain ⟨H', L', b1, b2, b3, e1, e2⟩ := (wide1 h0 ha hb hH hL HP.out (bit_true ‹_›)).1 ‹_›
        go_round
        case rel => exact ⟨k - 1, H', L', by omega, by go_num, by rw [e1], by rw [e2], b1, b2, Lib.hid b3⟩
        case measure => simp [intOf]; omega
      · obtain ⟨H', L', b1, b2, b3, e1, e2⟩ := (wide1 h0 ha hb hH hL HP.out (bit_true ‹_›)).2 ‹_›
        go_round
        case rel => exact ⟨k - 1, H', L', by omega, by go_num, by rw [e1], by rw [e2], b1, b2, Lib.hid b3⟩
        case measure => simp [intOf]; omega
      · obtain ⟨H', L', b1, b2, b3, e1, e2⟩ := wide0 h0 ha hb hH hL HP.out (bit_false ‹_›)
        go_round
        case rel => exact ⟨k - 1, H', L', by omega, by go_num, by rw [e1], by rw [e2], b1, b2, Lib.hid b3⟩
        case measure => simp [intOf]; omega
    · obtain rfl : k = 0 := by omega
      obtain ⟨e1, e2⟩ := wide_end hL HP.out
      have E1 := Lib.hid e1; have E2 := Lib.hid e2; clear e1 e2
      go_wp2
      go_ret2
      exact ⟨ret_two (congrArg Nat.cast E1.out) (congrArg Nat.cast E2.out), rfl⟩
theorem wide_any (x y : Int) (w : World) (h0 : 0 ≤ x) (h1 : x < 18446744073709551616) (h2 : 0 ≤ y) (h3 : y < 18446744073709551616) :
    Calls Tryd.prog 101 #[.int .u64 x, .int .u64 y] w fun e w' => e = .returned (.tuple #[.int .u64 (hiW x y), .int .u64 (loW x y)]) ∧ w = w' := by
  obtain ⟨a, rfl⟩ := Int.eq_ofNat_of_zero_le h0
  obtain ⟨b, rfl⟩ := Int.eq_ofNat_of_zero_le h2
  rw [← hiW_nat, ← loW_nat]
  exact wide_nat a b w (by omega) (by omega)
theorem mul64_any (x y : Int) (w : World) (h0 : 0 ≤ x) (h1 : x < 18446744073709551616) (h2 : 0 ≤ y) (h3 : y < 18446744073709551616) :
    Calls Tryd.prog 100 #[.int .u64 x, .int .u64 y] w fun e w' => e = .returned (.tuple #[.int .u64 (hiW x y), .int .u64 (loW x y)]) ∧ w = w' := by
  obtain ⟨a, rfl⟩ := Int.eq_ofNat_of_zero_le h0
  obtain ⟨b, rfl⟩ := Int.eq_ofNat_of_zero_le h2
  rw [← hiW_nat, ← loW_nat]
  exact (Tryd.bits_Mul64 a b (by omega) (by omega) w).mono fun e w' ⟨he, hw⟩ => ⟨he, hw.symm⟩
def mulHi (a b : Int) : Int := wrap64 (hiW (IntKind.u64.wrap a) (IntKind.u64.wrap b))
def mulLo (a b : Int) : Int := wrap64 (loW (IntKind.u64.wrap a) (IntKind.u64.wrap b))
set_option maxHeartbeats 400000 in
theorem implMulWide (a b : Int) (w : World) :
    Calls Tryd.prog 86 #[.int .i64 a, .int .i64 b] w fun e w' => e = .returned (.tuple #[.int .i64 (mulHi a b), .int .i64 (mulLo a b)]) ∧ w = w' := by
  go_enter Tryd.func86, Tryd.ntmps86
  go_wp2_with (go_at_call 100; refine (mul64_any _ _ _ (u64_lo a) (u64_hi a) (u64_lo b) (u64_hi b)).mono ?_; rintro e w' ⟨rfl, rfl⟩)
  go_ret2
  exact ⟨rfl, rfl⟩
end Go.Proofs.YtbcbepdfijcbmaaDoor
