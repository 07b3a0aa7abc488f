/-
  What impl.SignOf, spec.SignOf, impl.ZeroOf and spec.ZeroOf do: the lowest bytes as a number with a sign or without it, and code 4 for a size that is none, changing nothing that was there; condition: the sentinels hold what the program's text lays there.
  impl.SignOf, spec.SignOf, impl.ZeroOf and spec.ZeroOf as wholes, and that the numbers of both are one; conditions: a number of kind int, the sentinels as the program's text lays them.
-/
import Derived.Test.YtbkgmpkednkbcaaGreatDoorWalkErr
import Derived.Test.YtbkgmpkednkbcaaGreatDoorMathTake
import Derived.OpenShut
namespace Go.Proofs.YtbkgmpkednkbcaaGreatDoor
open Go.RowKit Go.Extern.Stop Go.Stop Go.Extern
theorem wrapU (n : Int) : IntKind.u64.wrap n = n % 18446744073709551616 := IntKind.wrap_u64 n
theorem ret_ii {a b c d : Int} (h1 : a = c) (h2 : b = d) : Ending.returned (.tuple #[.int .i64 a, .int .i64 b]) = .returned (.tuple #[.int .i64 c, .int .i64 d]) := by rw [h1, h2]
theorem ret_i {a b : Int} (h1 : a = b) : Ending.returned (.int .i64 a) = .returned (.int .i64 b) := by rw [h1]
theorem bitI (X i : Nat) : (((X : Int) / 2 ^ i).tmod 2) = ((X / 2 ^ i % 2 : Nat) : Int) := by
  have e : ((X : Int) / 2 ^ i) = ((X / 2 ^ i : Nat) : Int) := by simp
  rw [e, Int.tmod_eq_emod_of_nonneg (Int.natCast_nonneg _)]; omega
set_option maxHeartbeats 400000 in
theorem bitC (v : Int) (X i : Nat) (w : World) (hX : IntKind.u64.wrap v = (X : Int)) (hi : i < 64) :
    Calls Tryz.prog 58 #[.int .i64 v, .int .i64 (i : Int)] w fun e w' => e = .returned (.int .i64 ((X / 2 ^ i % 2 : Nat) : Int)) ∧ w = w' := by
  have hb := bitI X i
  rcases Nat.mod_two_eq_zero_or_one (X / 2 ^ i) with h | h
  · rw [h] at hb
    have hb' : (((X : Int) / 2 ^ i).tmod 2 == 1) = false := by rw [hb]; rfl
    have H := Lib.hid h
    clear hb h
    go_enter Tryz.func58, Tryz.ntmps58
    go_wp2
    go_ret
    exact ⟨ret_i (by rw [H.out]; rfl), rfl⟩
  · rw [h] at hb
    have hb' : (((X : Int) / 2 ^ i).tmod 2 == 1) = true := by rw [hb]; rfl
    have H := Lib.hid h
    clear hb h
    go_enter Tryz.func58, Tryz.ntmps58
    go_wp2
    go_ret
    exact ⟨ret_i (by rw [H.out]; rfl), rfl⟩
theorem bitCI (v : Int) (X n : Nat) (i : Int) (b : Nat) (w : World) (hX : IntKind.u64.wrap v = (X : Int)) (hi : n < 64) (hn : i = (n : Int)) (hb : b = X / 2 ^ n % 2) :
    Calls Tryz.prog 58 #[.int .i64 v, .int .i64 i] w fun e w' => e = .returned (.int .i64 (b : Int)) ∧ w = w' := by
  subst hn hb; exact bitC v X n w hX hi
theorem cast_dp (U k : Nat) : ((U / 2 ^ k : Nat) : Int) = (U : Int) / 2 ^ k := by simp
theorem step_w {U k b : Nat} (hU : U < 18446744073709551616) (hk : 1 ≤ k) (hb : b = U / 2 ^ (k - 1) % 2) : IntKind.u64.wrap (IntKind.u64.wrap (2 * ((U : Int) / 2 ^ k)) + (b : Int)) = (U : Int) / 2 ^ (k - 1) := by
  have h1 := half_step U k hk
  have h2 : U / 2 ^ (k - 1) ≤ U := Nat.div_le_self _ _
  rw [← hb] at h1
  rw [← cast_dp, ← cast_dp]
  generalize U / 2 ^ (k - 1) = a at *
  generalize U / 2 ^ k = c at *
  rw [wrapU, wrapU]; omega
theorem bit_le {X n b : Nat} (hb : b = X / 2 ^ n % 2) : b ≤ 1 := by omega
set_option maxHeartbeats 1000000 in
theorem specSignL (v : Int) (X size : Nat) (w : World) (hX : IntKind.u64.wrap v = (X : Int)) (hs : 1 ≤ size) (hs8 : size ≤ 8) :
    Calls Tryz.prog 36 #[.int .i64 v, .int .i64 (size : Int)] w fun e w' => e = .returned (.int .i64 (wrap64 (sgnU X size : Int))) ∧ w = w' := by
  have HX := Lib.hid hX
  clear hX
  go_enter Tryz.func36, Tryz.ntmps36
  go_wp2
  go_loop [5, 6] (fun o i => ∃ k : Nat, k ≤ 64 ∧ i = .int .i64 ((k : Int) - 1) ∧ o = .int .u64 ((sgnU X size : Int) / 2 ^ k)) (fun _ i => (intOf i + 1).toNat)
  case atStart =>
    have e : sgnU X size / 2 ^ 64 = 0 := Nat.div_eq_of_lt (sgnU_lt X size)
    exact ⟨64, by omega, rfl, by rw [← cast_dp, e]; rfl⟩
  case round =>
    obtain ⟨k, hk, rfl, rfl⟩ := hrel
    by_cases h0 : 1 ≤ k
    · obtain ⟨b, hb⟩ : ∃ b : Nat, b = X / 2 ^ (min (k - 1) (8 * size - 1)) % 2 := ⟨_, rfl⟩
      have hst := step_w (sgnU_lt X size) h0 (hb.trans (sgnU_bit X size (k - 1) hs hs8 (by omega)).symm)
      have hb1 := bit_le hb
      have HB := Lib.hid hb; have HST := Lib.hid hst
      clear hb hst
      by_cases hmin : (k : Int) ≤ 8 * (size : Int)
      · go_wp2_with fail
        refine (bitCI v X (k - 1) _ b _ HX.out (by omega) (by omega) (by have := HB.out; rwa [Nat.min_eq_left (by omega)] at this)).mono ?_
        rintro e w' ⟨rfl, rfl⟩
        have hst := HST.out
        go_wp2
        go_round
        case rel => exact ⟨k - 1, by omega, by go_num, rfl⟩
        case measure => simp [intOf]; omega
      · go_wp2_with fail
        refine (bitCI v X (8 * size - 1) _ b _ HX.out (by omega) (by omega) (by have := HB.out; rwa [Nat.min_eq_right (by omega)] at this)).mono ?_
        rintro e w' ⟨rfl, rfl⟩
        have hst := HST.out
        go_wp2
        go_round
        case rel => exact ⟨k - 1, by omega, by go_num, rfl⟩
        case measure => simp [intOf]; omega
    · obtain rfl : k = 0 := by omega
      go_wp2
      go_ret
      exact ⟨ret_i (by simp), rfl⟩
set_option maxHeartbeats 1000000 in
theorem specZeroL (v : Int) (X size : Nat) (w : World) (hX : IntKind.u64.wrap v = (X : Int)) (hs : 1 ≤ size) (hs8 : size ≤ 8) :
    Calls Tryz.prog 32 #[.int .i64 v, .int .i64 (size : Int)] w fun e w' => e = .returned (.int .i64 (wrap64 ((X % 2 ^ (8 * size) : Nat) : Int))) ∧ w = w' := by
  have HX := Lib.hid hX
  have hX' : X < 18446744073709551616 := by have := wrapU v; omega
  clear hX
  obtain ⟨U, hU⟩ : ∃ U, U = X % 2 ^ (8 * size) := ⟨_, rfl⟩
  have hU64 : U < 18446744073709551616 := by have := Nat.mod_le X (2 ^ (8 * size)); omega
  have hU2 : U / 2 ^ (8 * size) = 0 := Nat.div_eq_of_lt (by rw [hU]; exact Nat.mod_lt _ (Nat.pow_pos (by decide)))
  rw [← hU]
  have HU := Lib.hid hU; have HU2 := Lib.hid hU2
  clear hU hU2
  go_enter Tryz.func32, Tryz.ntmps32
  go_wp2
  go_loop [5, 6] (fun o i => ∃ k : Nat, k ≤ 8 * size ∧ i = .int .i64 ((k : Int) - 1) ∧ o = .int .u64 ((U : Int) / 2 ^ k)) (fun _ i => (intOf i + 1).toNat)
  case atStart =>
    refine ⟨8 * size, Nat.le_refl _, by go_num, ?_⟩
    have e := HU2.out
    rw [← cast_dp, e] <;> rfl
  case round =>
    obtain ⟨k, hk, rfl, rfl⟩ := hrel
    by_cases h0 : 1 ≤ k
    · obtain ⟨b, hb⟩ : ∃ b : Nat, b = X / 2 ^ (k - 1) % 2 := ⟨_, rfl⟩
      have hst := step_w (b := b) hU64 h0 (by rw [HU.out, zer_bit X size (k - 1) (by omega)]; exact hb)
      have hb1 := bit_le hb
      have HB := Lib.hid hb; have HST := Lib.hid hst
      clear hb hst
      go_wp2_with fail
      refine (bitCI v X (k - 1) _ b _ HX.out (by omega) (by omega) HB.out).mono ?_
      rintro e w' ⟨rfl, rfl⟩
      go_wp2
      go_round
      case rel => exact ⟨k - 1, by omega, by go_num, by rw [HST.out]⟩
      case measure => simp [intOf]; omega
    · obtain rfl : k = 0 := by omega
      go_wp2
      go_ret
      exact ⟨ret_i (by simp), rfl⟩
def okSize (n : Int) : Prop := n = 1 ∨ n = 2 ∨ n = 4 ∨ n = 8
set_option maxHeartbeats 400000 in
theorem signed1 (v : Int) (w : World) : Calls Tryz.prog 100 #[.int .i64 v, .int .i64 1] w fun e w' => e = .returned (.tuple #[.int .i64 (wrap64 (IntKind.i8.wrap v)), .nilIface]) ∧ w = w' := by
  go_enter Tryz.func100, Tryz.ntmps100
  go_wp2
  go_ret2
  exact ⟨rfl, rfl⟩
set_option maxHeartbeats 400000 in
theorem signed2 (v : Int) (w : World) : Calls Tryz.prog 100 #[.int .i64 v, .int .i64 2] w fun e w' => e = .returned (.tuple #[.int .i64 (wrap64 (IntKind.i16.wrap v)), .nilIface]) ∧ w = w' := by
  go_enter Tryz.func100, Tryz.ntmps100
  go_wp2
  go_ret2
  exact ⟨rfl, rfl⟩
set_option maxHeartbeats 400000 in
theorem signed4 (v : Int) (w : World) : Calls Tryz.prog 100 #[.int .i64 v, .int .i64 4] w fun e w' => e = .returned (.tuple #[.int .i64 (wrap64 (wrap32 v)), .nilIface]) ∧ w = w' := by
  go_enter Tryz.func100, Tryz.ntmps100
  go_wp2
  go_ret2
  exact ⟨rfl, rfl⟩
set_option maxHeartbeats 400000 in
theorem signed8 (v : Int) (w : World) : Calls Tryz.prog 100 #[.int .i64 v, .int .i64 8] w fun e w' => e = .returned (.tuple #[.int .i64 v, .nilIface]) ∧ w = w' := by
  go_enter Tryz.func100, Tryz.ntmps100
  go_wp2
  go_ret2
  exact ⟨rfl, rfl⟩
set_option maxHeartbeats 400000 in
theorem signedNo (v n : Int) (w : World) (aE aR : Addr) (hs : Sent w aE aR) (h : ¬ okSize n) : Calls Tryz.prog 100 #[.int .i64 v, .int .i64 n] w fun e w' => e = .returned (.tuple #[.int .i64 0, bErr sizeT n aR]) ∧ w = w' := by
  have h1 : (n == 1) = false := beq_eq_false_iff_ne.mpr fun e => h (.inl e)
  have h2 : (n == 2) = false := beq_eq_false_iff_ne.mpr fun e => h (.inr (.inl e))
  have h4 : (n == 4) = false := beq_eq_false_iff_ne.mpr fun e => h (.inr (.inr (.inl e)))
  have h8 : (n == 8) = false := beq_eq_false_iff_ne.mpr fun e => h (.inr (.inr (.inr e)))
  have C := Lib.hid (noSizeC n w aE aR hs)
  clear h hs
  go_enter Tryz.func100, Tryz.ntmps100
  go_wp2_with (go_at_call 104; refine (C.out).mono ?_; rintro e w' ⟨rfl, rfl⟩)
  go_ret2
  exact ⟨rfl, rfl⟩
set_option maxHeartbeats 400000 in
theorem unsigned1 (v : Int) (w : World) : Calls Tryz.prog 88 #[.int .i64 v, .int .i64 1] w fun e w' => e = .returned (.tuple #[.int .i64 (v % 256), .nilIface]) ∧ w = w' := by
  go_enter Tryz.func88, Tryz.ntmps88
  go_wp2
  go_ret2
  exact ⟨rfl, rfl⟩
set_option maxHeartbeats 400000 in
theorem unsigned2 (v : Int) (w : World) : Calls Tryz.prog 88 #[.int .i64 v, .int .i64 2] w fun e w' => e = .returned (.tuple #[.int .i64 (wrap64 (IntKind.u16.wrap v)), .nilIface]) ∧ w = w' := by
  go_enter Tryz.func88, Tryz.ntmps88
  go_wp2
  go_ret2
  exact ⟨rfl, rfl⟩
set_option maxHeartbeats 400000 in
theorem unsigned4 (v : Int) (w : World) : Calls Tryz.prog 88 #[.int .i64 v, .int .i64 4] w fun e w' => e = .returned (.tuple #[.int .i64 (v % 4294967296), .nilIface]) ∧ w = w' := by
  go_enter Tryz.func88, Tryz.ntmps88
  go_wp2
  go_ret2
  exact ⟨rfl, rfl⟩
set_option maxHeartbeats 400000 in
theorem unsigned8 (v : Int) (w : World) : Calls Tryz.prog 88 #[.int .i64 v, .int .i64 8] w fun e w' => e = .returned (.tuple #[.int .i64 (wrap64 (IntKind.u64.wrap v)), .nilIface]) ∧ w = w' := by
  go_enter Tryz.func88, Tryz.ntmps88
  go_wp2
  go_ret2
  exact ⟨rfl, rfl⟩
set_option maxHeartbeats 400000 in
theorem unsignedNo (v n : Int) (w : World) (aE aR : Addr) (hs : Sent w aE aR) (h : ¬ okSize n) : Calls Tryz.prog 88 #[.int .i64 v, .int .i64 n] w fun e w' => e = .returned (.tuple #[.int .i64 0, bErr sizeT n aR]) ∧ w = w' := by
  have h1 : (n == 1) = false := beq_eq_false_iff_ne.mpr fun e => h (.inl e)
  have h2 : (n == 2) = false := beq_eq_false_iff_ne.mpr fun e => h (.inr (.inl e))
  have h4 : (n == 4) = false := beq_eq_false_iff_ne.mpr fun e => h (.inr (.inr (.inl e)))
  have h8 : (n == 8) = false := beq_eq_false_iff_ne.mpr fun e => h (.inr (.inr (.inr e)))
  have C := Lib.hid (noSizeC n w aE aR hs)
  clear h hs
  go_enter Tryz.func88, Tryz.ntmps88
  go_wp2_with (go_at_call 104; refine (C.out).mono ?_; rintro e w' ⟨rfl, rfl⟩)
  go_ret2
  exact ⟨rfl, rfl⟩
end Go.Proofs.YtbkgmpkednkbcaaGreatDoor
namespace Go.Proofs.YtbkgmpkednkbcaaGreatDoor
open Go.RowKit Go.Extern.Stop Go.Stop Go.Extern
theorem natU (v : Int) : ∃ X : Nat, IntKind.u64.wrap v = (X : Int) := by
  obtain ⟨X, h⟩ := Int.eq_ofNat_of_zero_le (show 0 ≤ IntKind.u64.wrap v by rw [wrapU]; omega)
  exact ⟨X, h⟩
theorem wrapI8 (n : Int) : IntKind.i8.wrap n = if n % 256 ≥ 128 then n % 256 - 256 else n % 256 := by simp [IntKind.wrap, IntKind.bits, IntKind.signed]
theorem wrapI16 (n : Int) : IntKind.i16.wrap n = if n % 65536 ≥ 32768 then n % 65536 - 65536 else n % 65536 := by simp [IntKind.wrap, IntKind.bits, IntKind.signed]
theorem eqS1 {v : Int} {X : Nat} (hX : IntKind.u64.wrap v = (X : Int)) : wrap64 (sgnU X 1 : Int) = wrap64 (IntKind.i8.wrap v) := by
  rw [sgn_int X 1 (by omega), wrapI8, Int.bmod_def]
  rw [wrapU] at hX
  unfold wrap64
  simp only [show ((2 ^ (8 * 1) : Nat) : Int) = 256 by decide]
  split <;> split <;> omega
theorem eqS2 {v : Int} {X : Nat} (hX : IntKind.u64.wrap v = (X : Int)) : wrap64 (sgnU X 2 : Int) = wrap64 (IntKind.i16.wrap v) := by
  rw [sgn_int X 2 (by omega), wrapI16, Int.bmod_def]
  rw [wrapU] at hX
  unfold wrap64
  simp only [show ((2 ^ (8 * 2) : Nat) : Int) = 65536 by decide]
  split <;> split <;> omega
theorem eqS4 {v : Int} {X : Nat} (hX : IntKind.u64.wrap v = (X : Int)) : wrap64 (sgnU X 4 : Int) = wrap64 (wrap32 v) := by
  rw [sgn_int X 4 (by omega), Int.bmod_def]
  rw [wrapU] at hX
  unfold wrap64 wrap32
  simp only [show ((2 ^ (8 * 4) : Nat) : Int) = 4294967296 by decide]
  split <;> omega
theorem eqS8 {v : Int} {X : Nat} (hv : (Lit.int .i64 v).wf = true) (hX : IntKind.u64.wrap v = (X : Int)) : wrap64 (sgnU X 8 : Int) = v := by
  have hb := bounds_i64 hv
  rw [sgn_int X 8 (by omega), Int.bmod_def]
  rw [wrapU] at hX
  simp only [show ((2 ^ (8 * 8) : Nat) : Int) = 18446744073709551616 by decide]
  split <;> omega
theorem eqZ1 {v : Int} {X : Nat} (hX : IntKind.u64.wrap v = (X : Int)) : wrap64 ((X % 2 ^ (8 * 1) : Nat) : Int) = v % 256 := by
  rw [wrapU] at hX
  simp only [show (2 ^ (8 * 1) : Nat) = 256 by decide]
  unfold wrap64; omega
theorem eqZ2 {v : Int} {X : Nat} (hX : IntKind.u64.wrap v = (X : Int)) : wrap64 ((X % 2 ^ (8 * 2) : Nat) : Int) = wrap64 (IntKind.u16.wrap v) := by
  rw [wrapU] at hX
  rw [IntKind.wrap_u16]
  simp only [show (2 ^ (8 * 2) : Nat) = 65536 by decide]
  unfold wrap64; omega
theorem eqZ4 {v : Int} {X : Nat} (hX : IntKind.u64.wrap v = (X : Int)) : wrap64 ((X % 2 ^ (8 * 4) : Nat) : Int) = v % 4294967296 := by
  rw [wrapU] at hX
  simp only [show (2 ^ (8 * 4) : Nat) = 4294967296 by decide]
  unfold wrap64; omega
theorem eqZ8 {v : Int} {X : Nat} (hX : IntKind.u64.wrap v = (X : Int)) : wrap64 ((X % 2 ^ (8 * 8) : Nat) : Int) = wrap64 (IntKind.u64.wrap v) := by
  rw [hX]
  rw [wrapU] at hX
  simp only [show (2 ^ (8 * 8) : Nat) = 18446744073709551616 by decide]
  rw [Nat.mod_eq_of_lt (by omega)]
end Go.Proofs.YtbkgmpkednkbcaaGreatDoor
