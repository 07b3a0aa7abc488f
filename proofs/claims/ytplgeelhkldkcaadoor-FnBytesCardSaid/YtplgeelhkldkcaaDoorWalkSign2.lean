/-
  impl.SignOf, spec.SignOf, impl.ZeroOf and spec.ZeroOf as wholes, and that the numbers of both are one; conditions: a number of kind int, the sentinels as the program's text lays them.
-/
import Derived.Test.YtplgeelhkldkcaaDoorWalkSign
namespace Go.Proofs.YtplgeelhkldkcaaDoor
open Go.RowKit Go.Extern.Stop Go.Stop Go.Extern
theorem natU (v : Int) : ∃ X : Nat, IntKind.u64.wrap v = (X : Int) := by
  obtain ⟨X, h⟩ := Int.eq_ofNat_of_zero_le (show 0 ≤ IntKind.u64.wrap v by rw [wrapU]; omega)
  exact ⟨X, h⟩
theorem wrapI8 (n : Int) : IntKind.i8.wrap n = if n % 256 ≥ 128 then n % 256 - 256 else n % 256 := by simp [IntKind.wrap, IntKind.bits, IntKind.signed]
theorem wrapI16 (n : Int) : IntKind.i16.wrap n = if n % 65536 ≥ 32768 then n % 65536 - 65536 else n % 65536 := by simp [IntKind.wrap, IntKind.bits, IntKind.signed]
theorem eqS1 {v : Int} {X : Nat} (hX : IntKind.u64.wrap v = (X : Int)) : wrap64 (sgnU X 1 : Int) = wrap64 (IntKind.i8.wrap v) := by
  rw [sgn_int X 1 (by omega), wrapI8, Int.bmod_def]
  rw [wrapU] at hX
  unfold wrap64
  simp only [show ((2 ^ (8 * 1) : Nat) : Int) = 256 by decide]
  split <;> split <;> omega
theorem eqS2 {v : Int} {X : Nat} (hX : IntKind.u64.wrap v = (X : Int)) : wrap64 (sgnU X 2 : Int) = wrap64 (IntKind.i16.wrap v) := by
  rw [sgn_int X 2 (by omega), wrapI16, Int.bmod_def]
  rw [wrapU] at hX
  unfold wrap64
  simp only [show ((2 ^ (8 * 2) : Nat) : Int) = 65536 by decide]
  split <;> split <;> omega
theorem eqS4 {v : Int} {X : Nat} (hX : IntKind.u64.wrap v = (X : Int)) : wrap64 (sgnU X 4 : Int) = wrap64 (wrap32 v) := by
  rw [sgn_int X 4 (by omega), Int.bmod_def]
  rw [wrapU] at hX
  unfold wrap64 wrap32
  simp only [show ((2 ^ (8 * 4) : Nat) : Int) = 4294967296 by decide]
  split <;> omega
theorem eqS8 {v : Int} {X : Nat} (hv : (Lit.int .i64 v).wf = true) (hX : IntKind.u64.wrap v = (X : Int)) : wrap64 (sgnU X 8 : Int) = v := by
  have hb := bounds_i64 hv
  rw [sgn_int X 8 (by omega), Int.bmod_def]
  rw [wrapU] at hX
  simp only [show ((2 ^ (8 * 8) : Nat) : Int) = 18446744073709551616 by decide]
  split <;> omega
theorem eqZ1 {v : Int} {X : Nat} (hX : IntKind.u64.wrap v = (X : Int)) : wrap64 ((X % 2 ^ (8 * 1) : Nat) : Int) = v % 256 := by
  rw [wrapU] at hX
  simp only [show (2 ^ (8 * 1) : Nat) = 256 by decide]
  unfold wrap64; omega
theorem eqZ2 {v : Int} {X : Nat} (hX : IntKind.u64.wrap v = (X : Int)) : wrap64 ((X % 2 ^ (8 * 2) : Nat) : Int) = wrap64 (IntKind.u16.wrap v) := by
  rw [wrapU] at hX
  rw [IntKind.wrap_u16]
  simp only [show (2 ^ (8 * 2) : Nat) = 65536 by decide]
  unfold wrap64; omega
theorem eqZ4 {v : Int} {X : Nat} (hX : IntKind.u64.wrap v = (X : Int)) : wrap64 ((X % 2 ^ (8 * 4) : Nat) : Int) = v % 4294967296 := by
  rw [wrapU] at hX
  simp only [show (2 ^ (8 * 4) : Nat) = 4294967296 by decide]
  unfold wrap64; omega
theorem eqZ8 {v : Int} {X : Nat} (hX : IntKind.u64.wrap v = (X : Int)) : wrap64 ((X % 2 ^ (8 * 8) : Nat) : Int) = wrap64 (IntKind.u64.wrap v) := by
  rw [hX]
  rw [wrapU] at hX
  simp only [show (2 ^ (8 * 8) : Nat) = 18446744073709551616 by decide]
  rw [Nat.mod_eq_of_lt (by omega)]
set_option maxHeartbeats 400000 in
theorem implSignYes (v n x : Int) (w : World) (h : Calls Tryd.prog 26 #[.int .i64 v, .int .i64 n] w fun e w' => e = .returned (.tuple #[.int .i64 x, .nilIface]) ∧ w = w') :
    Calls Tryd.prog 14 #[.int .i64 v, .int .i64 n] w fun e w' => e = .returned (.tuple #[.int .i64 x, .int .i64 0]) ∧ Below w.heap.size w w' := by
  have C := Lib.hid h
  clear h
  go_enter Tryd.func14, Tryd.ntmps14
  go_wp2_with (first | (go_at_call 26; refine (C.out).mono ?_; rintro e w' ⟨rfl, rfl⟩) | (go_at_call 24; refine (codeNil _).mono ?_; rintro e w' ⟨rfl, rfl⟩))
  go_ret2
  exact ⟨rfl, Below.refl _ _⟩
set_option maxHeartbeats 400000 in
theorem implSignNo (v n : Int) (w : World) (aE aR : Addr) (hs : Sent w aE aR) (h : ¬ okSize n) :
    Calls Tryd.prog 14 #[.int .i64 v, .int .i64 n] w fun e w' => e = .returned (.tuple #[.int .i64 0, .int .i64 4]) ∧ Below w.heap.size w w' := by
  have C := Lib.hid (signedNo v n w aE aR hs h)
  have C2 := Lib.hid (codeRange sizeT n w aE aR hs)
  clear h hs
  go_enter Tryd.func14, Tryd.ntmps14
  go_wp2_with (first | (go_at_call 26; refine (C.out).mono ?_; rintro e w' ⟨rfl, rfl⟩) | (go_at_call 24; refine (C2.out).mono ?_; rintro e w1 ⟨rfl, hb⟩))
  go_ret2
  exact ⟨rfl, hb⟩
set_option maxHeartbeats 400000 in
theorem specSignYes (v : Int) (X size : Nat) (n : Int) (w : World) (hn : n = (size : Int)) (hX : IntKind.u64.wrap v = (X : Int)) (h : okSize n) :
    Calls Tryd.prog 17 #[.int .i64 v, .int .i64 n] w fun e w' => e = .returned (.tuple #[.int .i64 (wrap64 (sgnU X size : Int)), .int .i64 0]) ∧ w = w' := by
  have C := Lib.hid (sizeYes n w h)
  have C2 : Hid (Calls Tryd.prog 30 #[.int .i64 v, .int .i64 n] w fun e w' => e = .returned (.int .i64 (wrap64 (sgnU X size : Int))) ∧ w = w') := Lib.hid (by
    rcases h with rfl | rfl | rfl | rfl
    all_goals
      rw [hn]
      exact specSignL v X size w hX (by omega) (by omega))
  clear h hX hn
  go_enter Tryd.func17, Tryd.ntmps17
  go_wp2_with (first | (go_at_call 28; refine (C.out).mono ?_; rintro e w' ⟨rfl, rfl⟩) | (go_at_call 30; refine (C2.out).mono ?_; rintro e w' ⟨rfl, rfl⟩))
  go_ret2
  exact ⟨rfl, rfl⟩
set_option maxHeartbeats 400000 in
theorem specSignNo (v n : Int) (w : World) (h : ¬ okSize n) :
    Calls Tryd.prog 17 #[.int .i64 v, .int .i64 n] w fun e w' => e = .returned (.tuple #[.int .i64 0, .int .i64 4]) ∧ w = w' := by
  have C := Lib.hid (sizeNo n w h)
  clear h
  go_enter Tryd.func17, Tryd.ntmps17
  go_wp2_with (go_at_call 28; refine (C.out).mono ?_; rintro e w' ⟨rfl, rfl⟩)
  go_ret2
  exact ⟨rfl, rfl⟩
set_option maxHeartbeats 400000 in
theorem implZeroYes (v n x : Int) (w : World) (h : Calls Tryd.prog 27 #[.int .i64 v, .int .i64 n] w fun e w' => e = .returned (.tuple #[.int .i64 x, .nilIface]) ∧ w = w') :
    Calls Tryd.prog 15 #[.int .i64 v, .int .i64 n] w fun e w' => e = .returned (.tuple #[.int .i64 x, .int .i64 0]) ∧ Below w.heap.size w w' := by
  have C := Lib.hid h
  clear h
  go_enter Tryd.func15, Tryd.ntmps15
  go_wp2_with (first | (go_at_call 27; refine (C.out).mono ?_; rintro e w' ⟨rfl, rfl⟩) | (go_at_call 24; refine (codeNil _).mono ?_; rintro e w' ⟨rfl, rfl⟩))
  go_ret2
  exact ⟨rfl, Below.refl _ _⟩
set_option maxHeartbeats 400000 in
theorem implZeroNo (v n : Int) (w : World) (aE aR : Addr) (hs : Sent w aE aR) (h : ¬ okSize n) :
    Calls Tryd.prog 15 #[.int .i64 v, .int .i64 n] w fun e w' => e = .returned (.tuple #[.int .i64 0, .int .i64 4]) ∧ Below w.heap.size w w' := by
  have C := Lib.hid (unsignedNo v n w aE aR hs h)
  have C2 := Lib.hid (codeRange sizeT n w aE aR hs)
  clear h hs
  go_enter Tryd.func15, Tryd.ntmps15
  go_wp2_with (first | (go_at_call 27; refine (C.out).mono ?_; rintro e w' ⟨rfl, rfl⟩) | (go_at_call 24; refine (C2.out).mono ?_; rintro e w1 ⟨rfl, hb⟩))
  go_ret2
  exact ⟨rfl, hb⟩
set_option maxHeartbeats 400000 in
theorem specZeroYes (v : Int) (X size : Nat) (n : Int) (w : World) (hn : n = (size : Int)) (hX : IntKind.u64.wrap v = (X : Int)) (h : okSize n) :
    Calls Tryd.prog 16 #[.int .i64 v, .int .i64 n] w fun e w' => e = .returned (.tuple #[.int .i64 (wrap64 ((X % 2 ^ (8 * size) : Nat) : Int)), .int .i64 0]) ∧ w = w' := by
  have C := Lib.hid (sizeYes n w h)
  have C2 : Hid (Calls Tryd.prog 29 #[.int .i64 v, .int .i64 n] w fun e w' => e = .returned (.int .i64 (wrap64 ((X % 2 ^ (8 * size) : Nat) : Int))) ∧ w = w') := Lib.hid (by
    rcases h with rfl | rfl | rfl | rfl
    all_goals
      rw [hn]
      exact specZeroL v X size w hX (by omega) (by omega))
  clear h hX hn
  go_enter Tryd.func16, Tryd.ntmps16
  go_wp2_with (first | (go_at_call 28; refine (C.out).mono ?_; rintro e w' ⟨rfl, rfl⟩) | (go_at_call 29; refine (C2.out).mono ?_; rintro e w' ⟨rfl, rfl⟩))
  go_ret2
  exact ⟨rfl, rfl⟩
set_option maxHeartbeats 400000 in
theorem specZeroNo (v n : Int) (w : World) (h : ¬ okSize n) :
    Calls Tryd.prog 16 #[.int .i64 v, .int .i64 n] w fun e w' => e = .returned (.tuple #[.int .i64 0, .int .i64 4]) ∧ w = w' := by
  have C := Lib.hid (sizeNo n w h)
  clear h
  go_enter Tryd.func16, Tryd.ntmps16
  go_wp2_with (go_at_call 28; refine (C.out).mono ?_; rintro e w' ⟨rfl, rfl⟩)
  go_ret2
  exact ⟨rfl, rfl⟩
end Go.Proofs.YtplgeelhkldkcaaDoor
