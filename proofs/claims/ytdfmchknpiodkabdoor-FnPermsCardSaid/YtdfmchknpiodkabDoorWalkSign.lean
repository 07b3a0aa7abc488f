/-
  What impl.SignOf, spec.SignOf, impl.ZeroOf and spec.ZeroOf do: the lowest bytes as a number with a sign or without it, and code 4 for a size that is none, changing nothing that was there; condition: the sentinels hold what the program's text lays there.
-/
import Derived.Test.YtdfmchknpiodkabDoorWalkErr
import Derived.Test.YtdfmchknpiodkabDoorMathSign
import Derived.OpenShut
namespace Go.Proofs.YtdfmchknpiodkabDoor
open Go.RowKit Go.Extern.Stop Go.Stop Go.Extern
theorem wrapU (n : Int) : IntKind.u64.wrap n = n % 18446744073709551616 := IntKind.wrap_u64 n
theorem ret_ii {a b c d : Int} (h1 : a = c) (h2 : b = d) : Ending.returned (.tuple #[.int .i64 a, .int .i64 b]) = .returned (.tuple #[.int .i64 c, .int .i64 d]) := by rw [h1, h2]
theorem ret_i {a b : Int} (h1 : a = b) : Ending.returned (.int .i64 a) = .returned (.int .i64 b) := by rw [h1]
theorem bitI (X i : Nat) : (((X : Int) / 2 ^ i).tmod 2) = ((X / 2 ^ i % 2 : Nat) : Int) := by
  have e : ((X : Int) / 2 ^ i) = ((X / 2 ^ i : Nat) : Int) := by simp
  rw [e, Int.tmod_eq_emod_of_nonneg (Int.natCast_nonneg _)]; omega
theorem cast_dp (U k : Nat) : ((U / 2 ^ k : Nat) : Int) = (U : Int) / 2 ^ k := by simp
theorem step_w {U k b : Nat} (hU : U < 18446744073709551616) (hk : 1 ≤ k) (hb : b = U / 2 ^ (k - 1) % 2) : IntKind.u64.wrap (IntKind.u64.wrap (2 * ((U : Int) / 2 ^ k)) + (b : Int)) = (U : Int) / 2 ^ (k - 1) := by
  have h1 := half_step U k hk
  have h2 : U / 2 ^ (k - 1) ≤ U := Nat.div_le_self _ _
  rw [← hb] at h1
  rw [← cast_dp, ← cast_dp]
  generalize U / 2 ^ (k - 1) = a at *
  generalize U / 2 ^ k = c at *
  rw [wrapU, wrapU]; omega
theorem bit_le {X n b : Nat} (hb : b = X / 2 ^ n % 2) : b ≤ 1 := by omega
def okSize (n : Int) : Prop := n = 1 ∨ n = 2 ∨ n = 4 ∨ n = 8
set_option maxHeartbeats 400000 in
theorem unsigned1 (v : Int) (w : World) : Calls Tryd.prog 38 #[.int .i64 v, .int .i64 1] w fun e w' => e = .returned (.tuple #[.int .i64 (v % 256), .nilIface]) ∧ w = w' := by
  go_enter Tryd.func38, Tryd.ntmps38
  go_wp2
  go_ret2
  exact ⟨rfl, rfl⟩
set_option maxHeartbeats 400000 in
theorem unsigned2 (v : Int) (w : World) : Calls Tryd.prog 38 #[.int .i64 v, .int .i64 2] w fun e w' => e = .returned (.tuple #[.int .i64 (wrap64 (IntKind.u16.wrap v)), .nilIface]) ∧ w = w' := by
  go_enter Tryd.func38, Tryd.ntmps38
  go_wp2
  go_ret2
  exact ⟨rfl, rfl⟩
set_option maxHeartbeats 400000 in
theorem unsigned4 (v : Int) (w : World) : Calls Tryd.prog 38 #[.int .i64 v, .int .i64 4] w fun e w' => e = .returned (.tuple #[.int .i64 (v % 4294967296), .nilIface]) ∧ w = w' := by
  go_enter Tryd.func38, Tryd.ntmps38
  go_wp2
  go_ret2
  exact ⟨rfl, rfl⟩
set_option maxHeartbeats 400000 in
theorem unsigned8 (v : Int) (w : World) : Calls Tryd.prog 38 #[.int .i64 v, .int .i64 8] w fun e w' => e = .returned (.tuple #[.int .i64 (wrap64 (IntKind.u64.wrap v)), .nilIface]) ∧ w = w' := by
  go_enter Tryd.func38, Tryd.ntmps38
  go_wp2
  go_ret2
  exact ⟨rfl, rfl⟩
set_option maxHeartbeats 400000 in
theorem unsignedNo (v n : Int) (w : World) (aE aR : Addr) (hs : Sent w aE aR) (h : ¬ okSize n) : Calls Tryd.prog 38 #[.int .i64 v, .int .i64 n] w fun e w' => e = .returned (.tuple #[.int .i64 0, bErr sizeT n aR]) ∧ w = w' := by
  have h1 : (n == 1) = false := beq_eq_false_iff_ne.mpr fun e => h (.inl e)
  have h2 : (n == 2) = false := beq_eq_false_iff_ne.mpr fun e => h (.inr (.inl e))
  have h4 : (n == 4) = false := beq_eq_false_iff_ne.mpr fun e => h (.inr (.inr (.inl e)))
  have h8 : (n == 8) = false := beq_eq_false_iff_ne.mpr fun e => h (.inr (.inr (.inr e)))
  have C := Lib.hid (noSizeC n w aE aR hs)
  clear h hs
  go_enter Tryd.func38, Tryd.ntmps38
  go_wp2_with (go_at_call 59; refine (C.out).mono ?_; rintro e w' ⟨rfl, rfl⟩)
  go_ret2
  exact ⟨rfl, rfl⟩
set_option maxHeartbeats 400000 in
theorem sizeNo (n : Int) (w : World) (h : ¬ okSize n) : Calls Tryd.prog 30 #[.int .i64 n] w fun e w' => e = .returned (.bool false) ∧ w = w' := by
  have h1 : (n == 1) = false := beq_eq_false_iff_ne.mpr fun e => h (.inl e)
  have h2 : (n == 2) = false := beq_eq_false_iff_ne.mpr fun e => h (.inr (.inl e))
  have h4 : (n == 4) = false := beq_eq_false_iff_ne.mpr fun e => h (.inr (.inr (.inl e)))
  have h8 : (n == 8) = false := beq_eq_false_iff_ne.mpr fun e => h (.inr (.inr (.inr e)))
  clear h
  go_enter Tryd.func30, Tryd.ntmps30
  go_wp2
  go_ret
  exact ⟨rfl, rfl⟩
set_option maxHeartbeats 400000 in
theorem sizeYes (n : Int) (w : World) (h : okSize n) : Calls Tryd.prog 30 #[.int .i64 n] w fun e w' => e = .returned (.bool true) ∧ w = w' := by
  rcases h with rfl | rfl | rfl | rfl
  all_goals
    go_enter Tryd.func30, Tryd.ntmps30
    go_wp2
    go_ret
    exact ⟨rfl, rfl⟩
end Go.Proofs.YtdfmchknpiodkabDoor
