/-
  What one and shift of impl/l06_flags.go answer for numbers of 16 bits; conditions: those in each head.
-/
import Derived.Test.YtifpcfhfglkbcaaDoorWalkFlB16
import Derived.Test.YtifpcfhfglkbcaaDoorWalkFlC8
import Derived.Great.Walk
namespace Go.Proofs.YtifpcfhfglkbcaaDoor
open Go.RowKit
set_option linter.unusedVariables false
set_option linter.unusedSimpArgs false
set_option maxHeartbeats 400000 in
theorem turn_u16 (X : Nat) (f : Int) (hX : X < 2 ^ 16) (w : World) : Calls Tryd.prog 114 #[.int .u16 (X : Int), .int .i64 f] w fun e w' => e = .returned (.tuple #[.int .u16 ((2 ^ 16 - 1 - X : Nat) : Int), .int .i64 (f)]) ∧ w = w' := by
  obtain ⟨x, hx⟩ : ∃ x : Int, x = (X : Int) := ⟨_, rfl⟩
  rw [← hx]
  have x0 : 0 ≤ x := by omega
  have x1 : x ≤ 65535 := by omega
  have HX := Lib.hid hx; have LX := Lib.hid hX
  clear hx hX
  go_enter Tryd.func114, Tryd.ntmps114
  go_wp2
  go_ret2
  exact ⟨ret_kf (by rw [HX.out]; exact bNot (k := .u16) rfl LX.out), rfl⟩
set_option maxHeartbeats 400000 in
theorem negate_u16 (X : Nat) (f : Int) (hX : X < 2 ^ 16) (w : World) : Calls Tryd.prog 115 #[.int .u16 (X : Int), .int .i64 f] w fun e w' => e = .returned (.tuple #[.int .u16 ((difN 16 0 X 0 : Nat) : Int), .int .i64 (difF 16 0 X 0)]) ∧ w = w' := by
  have CP := Lib.hid (show ∀ w, Calls Tryd.prog 178 #[.int .u16 0, .int .u16 (X : Int), .int .u16 0] w fun e w' => e = .returned (.tuple #[.int .u16 ((difN 16 0 X 0 : Nat) : Int), .int .i64 (difF 16 0 X 0)]) ∧ w = w' from fun w => minus_u16 0 X 0 (by decide) hX (by decide) w)
  clear hX
  go_enter Tryd.func115, Tryd.ntmps115
  go_wp2_with fail
  refine (CP.out _).mono ?_
  rintro e w1 ⟨rfl, rfl⟩
  go_wp2
  go_ret2
  exact ⟨rfl, rfl⟩
set_option maxHeartbeats 400000 in
theorem increase_u16 (X : Nat) (f : Int) (hX : X < 2 ^ 16) (w : World) : Calls Tryd.prog 116 #[.int .u16 (X : Int), .int .i64 f] w fun e w' => e = .returned (.tuple #[.int .u16 ((sumN 16 X 1 0 : Nat) : Int), .int .i64 (keepF (sumF 16 X 1 0) f)]) ∧ w = w' := by
  have CP := Lib.hid (show ∀ w, Calls Tryd.prog 177 #[.int .u16 (X : Int), .int .u16 1, .int .u16 0] w fun e w' => e = .returned (.tuple #[.int .u16 ((sumN 16 X 1 0 : Nat) : Int), .int .i64 (sumF 16 X 1 0)]) ∧ w = w' from fun w => plus_u16 X 1 0 hX (by decide) (by decide) w)
  clear hX
  go_enter Tryd.func116, Tryd.ntmps116
  go_wp2_with fail
  refine (CP.out _).mono ?_
  rintro e w1 ⟨rfl, rfl⟩
  go_wp2
  go_ret2
  exact ⟨rfl, rfl⟩
set_option maxHeartbeats 400000 in
theorem decrease_u16 (X : Nat) (f : Int) (hX : X < 2 ^ 16) (w : World) : Calls Tryd.prog 117 #[.int .u16 (X : Int), .int .i64 f] w fun e w' => e = .returned (.tuple #[.int .u16 ((difN 16 X 1 0 : Nat) : Int), .int .i64 (keepF (difF 16 X 1 0) f)]) ∧ w = w' := by
  have CP := Lib.hid (show ∀ w, Calls Tryd.prog 178 #[.int .u16 (X : Int), .int .u16 1, .int .u16 0] w fun e w' => e = .returned (.tuple #[.int .u16 ((difN 16 X 1 0 : Nat) : Int), .int .i64 (difF 16 X 1 0)]) ∧ w = w' from fun w => minus_u16 X 1 0 hX (by decide) (by decide) w)
  clear hX
  go_enter Tryd.func117, Tryd.ntmps117
  go_wp2_with fail
  refine (CP.out _).mono ?_
  rintro e w1 ⟨rfl, rfl⟩
  go_wp2
  go_ret2
  exact ⟨rfl, rfl⟩
set_option maxHeartbeats 400000 in
theorem shiftLeft_u16 (X : Nat) (f : Int) (hX : X < 2 ^ 16) (w : World) : Calls Tryd.prog 136 #[.int .u16 (X : Int), .int .i64 f] w fun e w' => e = .returned (.tuple #[.int .u16 ((shlN 16 X : Nat) : Int), .int .i64 (shF 16 (shlN 16 X) (hiB 16 X) (hiB 16 (shlN 16 X) != hiB 16 X))]) ∧ w = w' := by
  obtain ⟨x, hx⟩ : ∃ x : Int, x = (X : Int) := ⟨_, rfl⟩
  rw [← hx]
  have x0 : 0 ≤ x := by omega
  have x1 : x ≤ 65535 := by omega
  have HX := Lib.hid hx; have LX := Lib.hid hX
  clear hx hX
  have CH := Lib.hid isHigh_u16
  go_enter Tryd.func136, Tryd.ntmps136
  go_wp2_with fail
  refine (CH.out _ _).mono ?_
  rintro e w1 ⟨rfl, rfl⟩
  go_wp2_with fail
  refine (flagsOf_u16 _ (by first | omega | (rw [wU16]; omega) | exact (bits_bd _ .u16 rfl _ _).1) (by first | omega | (rw [wU16]; omega) | exact Int.le_of_lt_add_one (bits_bd _ .u16 rfl _ _).2) _).mono ?_
  rintro e w1 ⟨rfl, rfl⟩
  go_wp2_with fail
  refine (CH.out _ _).mono ?_
  rintro e w1 ⟨rfl, rfl⟩
  go_wp2_with fail
  refine (withCarryC _ _ _ _).mono ?_
  rintro e w1 ⟨rfl, rfl⟩
  go_wp2
  go_ret2
  have hm : x * 2 % 65536 = ((shlN 16 X : Nat) : Int) := by unfold shlN; rw [HX.out]; omega
  have hi := hi_dec (w := 16) (h := 32768) (by decide +kernel) HX.out
  try simp only [wU16]
  rw [hm, hi, szp_eq (w := 16) (by decide +kernel) rfl, hi_dec (w := 16) (h := 32768) (by decide +kernel) rfl, szf_eq]
  exact ⟨rfl, by first | rfl | trivial⟩
set_option maxHeartbeats 400000 in
theorem shiftRight_u16 (X : Nat) (f : Int) (hX : X < 2 ^ 16) (w : World) : Calls Tryd.prog 137 #[.int .u16 (X : Int), .int .i64 f] w fun e w' => e = .returned (.tuple #[.int .u16 ((X / 2 : Nat) : Int), .int .i64 (shF 16 (X / 2) (odB X) (hiB 16 X))]) ∧ w = w' := by
  have hod := Lib.hid (od_and (k := .u16) rfl (by decide) hX)
  obtain ⟨x, hx⟩ : ∃ x : Int, x = (X : Int) := ⟨_, rfl⟩
  rw [← hx]
  have x0 : 0 ≤ x := by omega
  have x1 : x ≤ 65535 := by omega
  have HX := Lib.hid hx; have LX := Lib.hid hX
  clear hx hX
  rw [← HX.out] at hod
  have CH := Lib.hid isHigh_u16
  have CO := Lib.hid isOdd_u16
  go_enter Tryd.func137, Tryd.ntmps137
  go_wp2_with (first | (go_at_call 72; refine (flagsOf_u16 _ (by first | omega | (rw [wU16]; omega) | exact (bits_bd _ .u16 rfl _ _).1) (by first | omega | (rw [wU16]; omega) | exact Int.le_of_lt_add_one (bits_bd _ .u16 rfl _ _).2) _).mono ?_; rintro e w1 ⟨rfl, rfl⟩) | (go_at_call 187; refine (CO.out _ _).mono ?_; rintro e w1 ⟨rfl, rfl⟩) | (go_at_call 170; refine (CH.out _ _).mono ?_; rintro e w1 ⟨rfl, rfl⟩) | (go_at_call 59; refine (withCarryC _ _ _ _).mono ?_; rintro e w1 ⟨rfl, rfl⟩))
  go_ret2
  have hv : x / 2 = ((X / 2 : Nat) : Int) := by rw [HX.out]; omega
  have hi := hi_dec (w := 16) (h := 32768) (by decide +kernel) HX.out
  refine ⟨ret_kt hv ?_, by first | rfl | trivial⟩
  rw [hv, hi, szp_eq (w := 16) (by decide +kernel) rfl, szf_eq, hod.out]
set_option maxHeartbeats 400000 in
theorem shiftRightSigned_u16 (X : Nat) (f : Int) (hX : X < 2 ^ 16) (w : World) : Calls Tryd.prog 138 #[.int .u16 (X : Int), .int .i64 f] w fun e w' => e = .returned (.tuple #[.int .u16 ((sarN 16 X : Nat) : Int), .int .i64 (shF 16 (sarN 16 X) (odB X) false)]) ∧ w = w' := by
  have hod := Lib.hid (od_and (k := .u16) rfl (by decide) hX)
  have hs : bits .or .u16 ((X / 2 : Nat) : Int) (bits .and .u16 (X : Int) ((2 ^ 15 : Nat) : Int)) = ((sarN 16 X : Nat) : Int) := by
    have h2 := half_lt (w := 16) (by decide) hX
    rw [bAnd (k := .u16) rfl hX (by decide), bOr (k := .u16) rfl (Nat.lt_of_lt_of_le h2 (by decide)) (Nat.and_lt_two_pow X (by decide : 2 ^ 15 < 2 ^ 16)), and_top (w := 16) (by decide) hX]
    unfold sarN; cases hiB 16 X
    · simp
    · exact pow_n _ _ (or_top h2)
  have hs := Lib.hid hs
  obtain ⟨x, hx⟩ : ∃ x : Int, x = (X : Int) := ⟨_, rfl⟩
  rw [← hx]
  have x0 : 0 ≤ x := by omega
  have x1 : x ≤ 65535 := by omega
  have HX := Lib.hid hx; have LX := Lib.hid hX
  clear hx hX
  rw [← HX.out] at hod hs
  have CH := Lib.hid isHigh_u16
  have CO := Lib.hid isOdd_u16
  go_enter Tryd.func138, Tryd.ntmps138
  go_wp2_with (first | (go_at_call 72; refine (flagsOf_u16 _ (by first | omega | (rw [wU16]; omega) | exact (bits_bd _ .u16 rfl _ _).1) (by first | omega | (rw [wU16]; omega) | exact Int.le_of_lt_add_one (bits_bd _ .u16 rfl _ _).2) _).mono ?_; rintro e w1 ⟨rfl, rfl⟩) | (go_at_call 187; refine (CO.out _ _).mono ?_; rintro e w1 ⟨rfl, rfl⟩) | (go_at_call 170; refine (CH.out _ _).mono ?_; rintro e w1 ⟨rfl, rfl⟩) | (go_at_call 59; refine (withCarryC _ _ _ _).mono ?_; rintro e w1 ⟨rfl, rfl⟩) | (go_at_call 139; refine (highest_u16 _).mono ?_; rintro e w1 ⟨rfl, rfl⟩))
  go_ret2
  have hv : x / 2 = ((X / 2 : Nat) : Int) := by rw [HX.out]; omega
  have hs2 : bits .or .u16 (x / 2) (bits .and .u16 x 32768) = ((sarN 16 X : Nat) : Int) := by rw [hv]; exact hs.out
  refine ⟨ret_kt hs2 ?_, by first | rfl | trivial⟩
  rw [hs2, szp_eq (w := 16) (by decide +kernel) rfl, szf_eq, hod.out]
set_option maxHeartbeats 400000 in
theorem rotateLeft_u16 (X : Nat) (f : Int) (hX : X < 2 ^ 16) (w : World) : Calls Tryd.prog 134 #[.int .u16 (X : Int), .int .i64 f] w fun e w' => e = .returned (.tuple #[.int .u16 ((rolN 16 X : Nat) : Int), .int .i64 (wCar f (hiB 16 X) (hiB 16 (rolN 16 X) != hiB 16 X))]) ∧ w = w' := by
  have hr : hiB 16 X = true → bits .or .u16 ((shlN 16 X : Nat) : Int) 1 = ((rolN 16 X : Nat) : Int) := by
    intro e
    have := bOr (k := .u16) rfl (shlN_lt 16 X) (show 1 < 2 ^ 16 by decide)
    refine this.trans (pow_n _ _ ?_)
    unfold rolN; rw [e]; exact or_one (dbl_even (by decide) X)
  have hn : hiB 16 X = false → shlN 16 X = rolN 16 X := by intro e; unfold rolN; rw [e]; rfl
  have hr := Lib.hid hr; have hn := Lib.hid hn
  obtain ⟨x, hx⟩ : ∃ x : Int, x = (X : Int) := ⟨_, rfl⟩
  rw [← hx]
  have x0 : 0 ≤ x := by omega
  have x1 : x ≤ 65535 := by omega
  have HX := Lib.hid hx; have LX := Lib.hid hX
  clear hx hX
  have CH := Lib.hid isHigh_u16
  have hm0 : x * 2 % 65536 = ((shlN 16 X : Nat) : Int) := by unfold shlN; rw [HX.out]; omega
  have hm := Lib.hid hm0; clear hm0
  have hi0 := hi_dec (w := 16) (h := 32768) (by decide +kernel) HX.out
  have hi := Lib.hid hi0; clear hi0
  obtain ⟨b, hb⟩ : ∃ b, b = hiB 16 X := ⟨_, rfl⟩
  have HB := Lib.hid hb
  clear hb
  cases b
  · have hd : decide (32768 ≤ x) = false := hi.out.trans HB.out.symm
    go_enter Tryd.func134, Tryd.ntmps134
    go_wp2_with (first | (go_at_call 72; refine (flagsOf_u16 _ (by first | omega | (rw [wU16]; omega) | exact (bits_bd _ .u16 rfl _ _).1) (by first | omega | (rw [wU16]; omega) | exact Int.le_of_lt_add_one (bits_bd _ .u16 rfl _ _).2) _).mono ?_; rintro e w1 ⟨rfl, rfl⟩) | (go_at_call 187; refine (CH.out _ _).mono ?_; rintro e w1 ⟨rfl, rfl⟩) | (go_at_call 170; refine (CH.out _ _).mono ?_; rintro e w1 ⟨rfl, rfl⟩) | (go_at_call 59; refine (withCarryC _ _ _ _).mono ?_; rintro e w1 ⟨rfl, rfl⟩) | (go_at_call 139; refine (highest_u16 _).mono ?_; rintro e w1 ⟨rfl, rfl⟩))
    go_ret2
    try simp only [wU16]
    have hN : x * 2 % 65536 = ((rolN 16 X : Nat) : Int) := hm.out.trans (pow_n _ _ (hn.out HB.out.symm))
    have eN := hi_dec (w := 16) (h := 32768) (by decide +kernel) hN
    refine ⟨ret_kt hN (wcar_c HB.out ?_), by first | rfl | trivial⟩
    rw [eN, ← HB.out]
    generalize hiB 16 (rolN 16 X) = u
    cases u <;> rfl
  · have hd : decide (32768 ≤ x) = true := hi.out.trans HB.out.symm
    go_enter Tryd.func134, Tryd.ntmps134
    go_wp2_with (first | (go_at_call 72; refine (flagsOf_u16 _ (by first | omega | (rw [wU16]; omega) | exact (bits_bd _ .u16 rfl _ _).1) (by first | omega | (rw [wU16]; omega) | exact Int.le_of_lt_add_one (bits_bd _ .u16 rfl _ _).2) _).mono ?_; rintro e w1 ⟨rfl, rfl⟩) | (go_at_call 187; refine (CH.out _ _).mono ?_; rintro e w1 ⟨rfl, rfl⟩) | (go_at_call 170; refine (CH.out _ _).mono ?_; rintro e w1 ⟨rfl, rfl⟩) | (go_at_call 59; refine (withCarryC _ _ _ _).mono ?_; rintro e w1 ⟨rfl, rfl⟩) | (go_at_call 139; refine (highest_u16 _).mono ?_; rintro e w1 ⟨rfl, rfl⟩))
    go_ret2
    try simp only [wU16]
    have hN : bits .or .u16 (x * 2 % 65536) 1 = ((rolN 16 X : Nat) : Int) := by rw [hm.out]; exact hr.out HB.out.symm
    have eN := hi_dec (w := 16) (h := 32768) (by decide +kernel) hN
    refine ⟨ret_kt hN (wcar_c HB.out ?_), by first | rfl | trivial⟩
    rw [eN, ← HB.out]
    generalize hiB 16 (rolN 16 X) = u
    cases u <;> rfl
set_option maxHeartbeats 400000 in
theorem rotateRight_u16 (X : Nat) (f : Int) (hX : X < 2 ^ 16) (w : World) : Calls Tryd.prog 135 #[.int .u16 (X : Int), .int .i64 f] w fun e w' => e = .returned (.tuple #[.int .u16 ((rorN 16 X : Nat) : Int), .int .i64 (wCar f (odB X) (hiB 16 (rorN 16 X) != hiB 16 (shlN 16 (rorN 16 X))))]) ∧ w = w' := by
  have hod := Lib.hid (od_and (k := .u16) rfl (by decide) hX)
  have hr : odB X = true → bits .or .u16 ((X / 2 : Nat) : Int) ((2 ^ 15 : Nat) : Int) = ((rorN 16 X : Nat) : Int) := by
    intro e
    have h2 := half_lt (w := 16) (by decide) hX
    refine (bOr (k := .u16) rfl (Nat.lt_of_lt_of_le h2 (by decide)) (by decide)).trans (pow_n _ _ ?_)
    unfold rorN; rw [e]; exact or_top h2
  have hn : odB X = false → X / 2 = rorN 16 X := by intro e; unfold rorN; rw [e]; rfl
  have hr := Lib.hid hr; have hn := Lib.hid hn
  obtain ⟨x, hx⟩ : ∃ x : Int, x = (X : Int) := ⟨_, rfl⟩
  rw [← hx]
  have x0 : 0 ≤ x := by omega
  have x1 : x ≤ 65535 := by omega
  have HX := Lib.hid hx; have LX := Lib.hid hX
  clear hx hX
  rw [← HX.out] at hod
  have CH := Lib.hid isHigh_u16
  have CO := Lib.hid isOdd_u16
  have hv0 : x / 2 = ((X / 2 : Nat) : Int) := by rw [HX.out]; omega
  have hv := Lib.hid hv0; clear hv0
  obtain ⟨b, hb⟩ : ∃ b, b = odB X := ⟨_, rfl⟩
  have HB := Lib.hid hb
  clear hb
  cases b
  · have hd : (bits .and .u16 x 1 == 1) = false := hod.out.trans HB.out.symm
    go_enter Tryd.func135, Tryd.ntmps135
    go_wp2_with (first | (go_at_call 72; refine (flagsOf_u16 _ (by first | omega | (rw [wU16]; omega) | exact (bits_bd _ .u16 rfl _ _).1) (by first | omega | (rw [wU16]; omega) | exact Int.le_of_lt_add_one (bits_bd _ .u16 rfl _ _).2) _).mono ?_; rintro e w1 ⟨rfl, rfl⟩) | (go_at_call 187; refine (CO.out _ _).mono ?_; rintro e w1 ⟨rfl, rfl⟩) | (go_at_call 170; refine (CH.out _ _).mono ?_; rintro e w1 ⟨rfl, rfl⟩) | (go_at_call 59; refine (withCarryC _ _ _ _).mono ?_; rintro e w1 ⟨rfl, rfl⟩) | (go_at_call 139; refine (highest_u16 _).mono ?_; rintro e w1 ⟨rfl, rfl⟩))
    go_ret2
    try simp only [wU16]
    have hN : x / 2 = ((rorN 16 X : Nat) : Int) := hv.out.trans (pow_n _ _ (hn.out HB.out.symm))
    have eN := hi_dec (w := 16) (h := 32768) (by decide +kernel) hN
    have hM : x / 2 * 2 = ((shlN 16 (rorN 16 X) : Nat) : Int) := by rw [show x / 2 * 2 = x / 2 * 2 % 65536 by omega]; unfold shlN; rw [hN]; omega
    have eM := hi_dec (w := 16) (h := 32768) (by decide +kernel) hM
    refine ⟨ret_kt hN (wcar_c HB.out ?_), by first | rfl | trivial⟩
    rw [eN, eM]
    generalize hiB 16 (rorN 16 X) = u
    generalize hiB 16 (shlN 16 (rorN 16 X)) = v
    cases u <;> cases v <;> rfl
  · have hd : (bits .and .u16 x 1 == 1) = true := hod.out.trans HB.out.symm
    go_enter Tryd.func135, Tryd.ntmps135
    go_wp2_with (first | (go_at_call 72; refine (flagsOf_u16 _ (by first | omega | (rw [wU16]; omega) | exact (bits_bd _ .u16 rfl _ _).1) (by first | omega | (rw [wU16]; omega) | exact Int.le_of_lt_add_one (bits_bd _ .u16 rfl _ _).2) _).mono ?_; rintro e w1 ⟨rfl, rfl⟩) | (go_at_call 187; refine (CO.out _ _).mono ?_; rintro e w1 ⟨rfl, rfl⟩) | (go_at_call 170; refine (CH.out _ _).mono ?_; rintro e w1 ⟨rfl, rfl⟩) | (go_at_call 59; refine (withCarryC _ _ _ _).mono ?_; rintro e w1 ⟨rfl, rfl⟩) | (go_at_call 139; refine (highest_u16 _).mono ?_; rintro e w1 ⟨rfl, rfl⟩))
    go_ret2
    try simp only [wU16]
    have hN : bits .or .u16 (x / 2) 32768 = ((rorN 16 X : Nat) : Int) := by rw [hv.out]; exact hr.out HB.out.symm
    have eN := hi_dec (w := 16) (h := 32768) (by decide +kernel) hN
    have hM : bits .or .u16 (x / 2) 32768 * 2 % 65536 = ((shlN 16 (rorN 16 X) : Nat) : Int) := by unfold shlN; rw [hN]; omega
    have eM := hi_dec (w := 16) (h := 32768) (by decide +kernel) hM
    refine ⟨ret_kt hN (wcar_c HB.out ?_), by first | rfl | trivial⟩
    rw [eN, eM]
    generalize hiB 16 (rorN 16 X) = u
    generalize hiB 16 (shlN 16 (rorN 16 X)) = v
    cases u <;> cases v <;> rfl
def oneRow_u16 : Array Value := #[.nilFunc, .nilFunc, .nilFunc, .nilFunc, .nilFunc, .nilFunc, .nilFunc, .nilFunc, .nilFunc, .nilFunc, .nilFunc, .func (.func 114) #[] #[], .func (.func 115) #[] #[], .nilFunc, .nilFunc, .nilFunc, .nilFunc, .nilFunc, .func (.func 116) #[] #[], .func (.func 117) #[] #[], .nilFunc, .nilFunc, .nilFunc, .nilFunc, .nilFunc, .nilFunc, .nilFunc, .nilFunc, .nilFunc, .nilFunc, .nilFunc, .nilFunc, .nilFunc, .nilFunc, .nilFunc, .nilFunc, .nilFunc, .nilFunc, .nilFunc, .nilFunc, .nilFunc, .nilFunc, .nilFunc, .nilFunc, .nilFunc]
structure oneW_u16 (w W : World) : Prop where
  row : W.heap[w.heap.size]? = some (.cells oneRow_u16 99 (0, 0))
  be : Below w.heap.size w W
theorem oneW_u16' (w : World) : oneW_u16 w ((w.alloc (.cells #[.nilFunc, .nilFunc, .nilFunc, .nilFunc, .nilFunc, .nilFunc, .nilFunc, .nilFunc, .nilFunc, .nilFunc, .nilFunc, .nilFunc, .nilFunc, .nilFunc, .nilFunc, .nilFunc, .nilFunc, .nilFunc, .nilFunc, .nilFunc, .nilFunc, .nilFunc, .nilFunc, .nilFunc, .nilFunc, .nilFunc, .nilFunc, .nilFunc, .nilFunc, .nilFunc, .nilFunc, .nilFunc, .nilFunc, .nilFunc, .nilFunc, .nilFunc, .nilFunc, .nilFunc, .nilFunc, .nilFunc, .nilFunc, .nilFunc, .nilFunc, .nilFunc, .nilFunc] 99)).setRow w.heap.size #[.nilFunc, .nilFunc, .nilFunc, .nilFunc, .nilFunc, .nilFunc, .nilFunc, .nilFunc, .nilFunc, .nilFunc, .nilFunc, .func (.func 114) #[] #[], .func (.func 115) #[] #[], .nilFunc, .nilFunc, .nilFunc, .nilFunc, .nilFunc, .func (.func 116) #[] #[], .func (.func 117) #[] #[], .nilFunc, .nilFunc, .nilFunc, .nilFunc, .nilFunc, .nilFunc, .nilFunc, .nilFunc, .nilFunc, .nilFunc, .nilFunc, .nilFunc, .nilFunc, .nilFunc, .nilFunc, .nilFunc, .nilFunc, .nilFunc, .nilFunc, .nilFunc, .nilFunc, .nilFunc, .nilFunc, .nilFunc, .nilFunc]) := by
  have HG : (w.alloc (.cells #[.nilFunc, .nilFunc, .nilFunc, .nilFunc, .nilFunc, .nilFunc, .nilFunc, .nilFunc, .nilFunc, .nilFunc, .nilFunc, .nilFunc, .nilFunc, .nilFunc, .nilFunc, .nilFunc, .nilFunc, .nilFunc, .nilFunc, .nilFunc, .nilFunc, .nilFunc, .nilFunc, .nilFunc, .nilFunc, .nilFunc, .nilFunc, .nilFunc, .nilFunc, .nilFunc, .nilFunc, .nilFunc, .nilFunc, .nilFunc, .nilFunc, .nilFunc, .nilFunc, .nilFunc, .nilFunc, .nilFunc, .nilFunc, .nilFunc, .nilFunc, .nilFunc, .nilFunc] 99)).heap[w.heap.size]? = some (.cells #[.nilFunc, .nilFunc, .nilFunc, .nilFunc, .nilFunc, .nilFunc, .nilFunc, .nilFunc, .nilFunc, .nilFunc, .nilFunc, .nilFunc, .nilFunc, .nilFunc, .nilFunc, .nilFunc, .nilFunc, .nilFunc, .nilFunc, .nilFunc, .nilFunc, .nilFunc, .nilFunc, .nilFunc, .nilFunc, .nilFunc, .nilFunc, .nilFunc, .nilFunc, .nilFunc, .nilFunc, .nilFunc, .nilFunc, .nilFunc, .nilFunc, .nilFunc, .nilFunc, .nilFunc, .nilFunc, .nilFunc, .nilFunc, .nilFunc, .nilFunc, .nilFunc, .nilFunc] 99 (0, 0)) := heap_alloc_new _ _
  exact ⟨setRow_heap _ _ _ _ _ _ HG, below_setRow ((Below.refl _ _).alloc (Nat.le_refl _) _) (Nat.le_refl _) _⟩
theorem one_nil_u16 (i : Nat) (h : i < 45) (hn : i ≠ 11 ∧ i ≠ 12 ∧ i ≠ 18 ∧ i ≠ 19) : oneRow_u16[i]? = some .nilFunc := by
  have K : ∀ i, i < 45 → (i ≠ 11 ∧ i ≠ 12 ∧ i ≠ 18 ∧ i ≠ 19) → oneRow_u16[i]? = some .nilFunc := by
    intro i h hn
    rcases (by omega : i = 0 ∨ i = 1 ∨ i = 2 ∨ i = 3 ∨ i = 4 ∨ i = 5 ∨ i = 6 ∨ i = 7 ∨ i = 8 ∨ i = 9 ∨ i = 10 ∨ i = 13 ∨ i = 14 ∨ i = 15 ∨ i = 16 ∨ i = 17 ∨ i = 20 ∨ i = 21 ∨ i = 22 ∨ i = 23 ∨ i = 24 ∨ i = 25 ∨ i = 26 ∨ i = 27 ∨ i = 28 ∨ i = 29 ∨ i = 30 ∨ i = 31 ∨ i = 32 ∨ i = 33 ∨ i = 34 ∨ i = 35 ∨ i = 36 ∨ i = 37 ∨ i = 38 ∨ i = 39 ∨ i = 40 ∨ i = 41 ∨ i = 42 ∨ i = 43 ∨ i = 44) with rfl | rfl | rfl | rfl | rfl | rfl | rfl | rfl | rfl | rfl | rfl | rfl | rfl | rfl | rfl | rfl | rfl | rfl | rfl | rfl | rfl | rfl | rfl | rfl | rfl | rfl | rfl | rfl | rfl | rfl | rfl | rfl | rfl | rfl | rfl | rfl | rfl | rfl | rfl | rfl | rfl
    all_goals rfl
  exact K i h hn
set_option maxRecDepth 100000 in
set_option maxHeartbeats 1000000 in
theorem oneNil_u16 (op a b f : Int) (h1 : 1 ≤ op) (h2 : op ≤ 44) (h3 : op ≠ 11 ∧ op ≠ 12 ∧ op ≠ 18 ∧ op ≠ 19) (w : World) : Calls Tryd.prog 44 #[.int .i64 op, .int .i64 a, .int .i64 b, .int .i64 f] w fun e w' => e = .returned (.tuple #[.int .i64 0, .int .i64 0, .int .i64 11]) ∧ Below w.heap.size w w' := by
  have CO := Lib.hid (fun w => isOpYes op w h1 h2)
  have HG := Lib.hid (show (w.alloc (.cells #[.nilFunc, .nilFunc, .nilFunc, .nilFunc, .nilFunc, .nilFunc, .nilFunc, .nilFunc, .nilFunc, .nilFunc, .nilFunc, .nilFunc, .nilFunc, .nilFunc, .nilFunc, .nilFunc, .nilFunc, .nilFunc, .nilFunc, .nilFunc, .nilFunc, .nilFunc, .nilFunc, .nilFunc, .nilFunc, .nilFunc, .nilFunc, .nilFunc, .nilFunc, .nilFunc, .nilFunc, .nilFunc, .nilFunc, .nilFunc, .nilFunc, .nilFunc, .nilFunc, .nilFunc, .nilFunc, .nilFunc, .nilFunc, .nilFunc, .nilFunc, .nilFunc, .nilFunc] 99)).heap[w.heap.size]? = some (.cells #[.nilFunc, .nilFunc, .nilFunc, .nilFunc, .nilFunc, .nilFunc, .nilFunc, .nilFunc, .nilFunc, .nilFunc, .nilFunc, .nilFunc, .nilFunc, .nilFunc, .nilFunc, .nilFunc, .nilFunc, .nilFunc, .nilFunc, .nilFunc, .nilFunc, .nilFunc, .nilFunc, .nilFunc, .nilFunc, .nilFunc, .nilFunc, .nilFunc, .nilFunc, .nilFunc, .nilFunc, .nilFunc, .nilFunc, .nilFunc, .nilFunc, .nilFunc, .nilFunc, .nilFunc, .nilFunc, .nilFunc, .nilFunc, .nilFunc, .nilFunc, .nilFunc, .nilFunc] 99 (0, 0)) from heap_alloc_new _ _)
  have HW := Lib.hid (oneW_u16' w)
  go_enter Tryd.func44, Tryd.ntmps44
  go_wp2_with (refine wpList_store_row rfl 99 (.tmp 11) (.tmp 13) rfl w.heap.size #[.nilFunc, .nilFunc, .nilFunc, .nilFunc, .nilFunc, .nilFunc, .nilFunc, .nilFunc, .nilFunc, .nilFunc, .nilFunc, .func (.func 114) #[] #[], .func (.func 115) #[] #[], .nilFunc, .nilFunc, .nilFunc, .nilFunc, .nilFunc, .func (.func 116) #[] #[], .func (.func 117) #[] #[], .nilFunc, .nilFunc, .nilFunc, .nilFunc, .nilFunc, .nilFunc, .nilFunc, .nilFunc, .nilFunc, .nilFunc, .nilFunc, .nilFunc, .nilFunc, .nilFunc, .nilFunc, .nilFunc, .nilFunc, .nilFunc, .nilFunc, .nilFunc, .nilFunc, .nilFunc, .nilFunc, .nilFunc, .nilFunc] rfl rfl 99 _ HG.out (by kernel_rfl) rfl (by simp [Value.oneCell']) ?_; generalize hW9 : ((w.alloc (.cells #[.nilFunc, .nilFunc, .nilFunc, .nilFunc, .nilFunc, .nilFunc, .nilFunc, .nilFunc, .nilFunc, .nilFunc, .nilFunc, .nilFunc, .nilFunc, .nilFunc, .nilFunc, .nilFunc, .nilFunc, .nilFunc, .nilFunc, .nilFunc, .nilFunc, .nilFunc, .nilFunc, .nilFunc, .nilFunc, .nilFunc, .nilFunc, .nilFunc, .nilFunc, .nilFunc, .nilFunc, .nilFunc, .nilFunc, .nilFunc, .nilFunc, .nilFunc, .nilFunc, .nilFunc, .nilFunc, .nilFunc, .nilFunc, .nilFunc, .nilFunc, .nilFunc, .nilFunc] 99)).setRow w.heap.size #[.nilFunc, .nilFunc, .nilFunc, .nilFunc, .nilFunc, .nilFunc, .nilFunc, .nilFunc, .nilFunc, .nilFunc, .nilFunc, .func (.func 114) #[] #[], .func (.func 115) #[] #[], .nilFunc, .nilFunc, .nilFunc, .nilFunc, .nilFunc, .func (.func 116) #[] #[], .func (.func 117) #[] #[], .nilFunc, .nilFunc, .nilFunc, .nilFunc, .nilFunc, .nilFunc, .nilFunc, .nilFunc, .nilFunc, .nilFunc, .nilFunc, .nilFunc, .nilFunc, .nilFunc, .nilFunc, .nilFunc, .nilFunc, .nilFunc, .nilFunc, .nilFunc, .nilFunc, .nilFunc, .nilFunc, .nilFunc, .nilFunc]) = W9 at *; clear hW9)
  clear HG
  have hc := (cell_of_row _ _ op.toNat _ _ _ HW.out.row).trans (one_nil_u16 op.toNat (by omega) (by omega))
  have KE := eqYes1_u16
  refine (CO.out _).mono ?_
  rintro e w2 ⟨rfl, rfl⟩
  go_wp2
  go_ret3
  exact ⟨rfl, HW.out.be⟩
set_option maxRecDepth 100000 in
set_option maxHeartbeats 1000000 in
theorem oneNo_u16 (op a b f : Int) (h : ¬ (1 ≤ op ∧ op ≤ 44)) (w : World) : Calls Tryd.prog 44 #[.int .i64 op, .int .i64 a, .int .i64 b, .int .i64 f] w fun e w' => e = .returned (.tuple #[.int .i64 0, .int .i64 0, .int .i64 11]) ∧ Below w.heap.size w w' := by
  have CO := Lib.hid (fun w => isOpNo op w h)
  clear h
  have HG := Lib.hid (show (w.alloc (.cells #[.nilFunc, .nilFunc, .nilFunc, .nilFunc, .nilFunc, .nilFunc, .nilFunc, .nilFunc, .nilFunc, .nilFunc, .nilFunc, .nilFunc, .nilFunc, .nilFunc, .nilFunc, .nilFunc, .nilFunc, .nilFunc, .nilFunc, .nilFunc, .nilFunc, .nilFunc, .nilFunc, .nilFunc, .nilFunc, .nilFunc, .nilFunc, .nilFunc, .nilFunc, .nilFunc, .nilFunc, .nilFunc, .nilFunc, .nilFunc, .nilFunc, .nilFunc, .nilFunc, .nilFunc, .nilFunc, .nilFunc, .nilFunc, .nilFunc, .nilFunc, .nilFunc, .nilFunc] 99)).heap[w.heap.size]? = some (.cells #[.nilFunc, .nilFunc, .nilFunc, .nilFunc, .nilFunc, .nilFunc, .nilFunc, .nilFunc, .nilFunc, .nilFunc, .nilFunc, .nilFunc, .nilFunc, .nilFunc, .nilFunc, .nilFunc, .nilFunc, .nilFunc, .nilFunc, .nilFunc, .nilFunc, .nilFunc, .nilFunc, .nilFunc, .nilFunc, .nilFunc, .nilFunc, .nilFunc, .nilFunc, .nilFunc, .nilFunc, .nilFunc, .nilFunc, .nilFunc, .nilFunc, .nilFunc, .nilFunc, .nilFunc, .nilFunc, .nilFunc, .nilFunc, .nilFunc, .nilFunc, .nilFunc, .nilFunc] 99 (0, 0)) from heap_alloc_new _ _)
  have HW := Lib.hid (oneW_u16' w)
  go_enter Tryd.func44, Tryd.ntmps44
  go_wp2_with (refine wpList_store_row rfl 99 (.tmp 11) (.tmp 13) rfl w.heap.size #[.nilFunc, .nilFunc, .nilFunc, .nilFunc, .nilFunc, .nilFunc, .nilFunc, .nilFunc, .nilFunc, .nilFunc, .nilFunc, .func (.func 114) #[] #[], .func (.func 115) #[] #[], .nilFunc, .nilFunc, .nilFunc, .nilFunc, .nilFunc, .func (.func 116) #[] #[], .func (.func 117) #[] #[], .nilFunc, .nilFunc, .nilFunc, .nilFunc, .nilFunc, .nilFunc, .nilFunc, .nilFunc, .nilFunc, .nilFunc, .nilFunc, .nilFunc, .nilFunc, .nilFunc, .nilFunc, .nilFunc, .nilFunc, .nilFunc, .nilFunc, .nilFunc, .nilFunc, .nilFunc, .nilFunc, .nilFunc, .nilFunc] rfl rfl 99 _ HG.out (by kernel_rfl) rfl (by simp [Value.oneCell']) ?_; generalize hW9 : ((w.alloc (.cells #[.nilFunc, .nilFunc, .nilFunc, .nilFunc, .nilFunc, .nilFunc, .nilFunc, .nilFunc, .nilFunc, .nilFunc, .nilFunc, .nilFunc, .nilFunc, .nilFunc, .nilFunc, .nilFunc, .nilFunc, .nilFunc, .nilFunc, .nilFunc, .nilFunc, .nilFunc, .nilFunc, .nilFunc, .nilFunc, .nilFunc, .nilFunc, .nilFunc, .nilFunc, .nilFunc, .nilFunc, .nilFunc, .nilFunc, .nilFunc, .nilFunc, .nilFunc, .nilFunc, .nilFunc, .nilFunc, .nilFunc, .nilFunc, .nilFunc, .nilFunc, .nilFunc, .nilFunc] 99)).setRow w.heap.size #[.nilFunc, .nilFunc, .nilFunc, .nilFunc, .nilFunc, .nilFunc, .nilFunc, .nilFunc, .nilFunc, .nilFunc, .nilFunc, .func (.func 114) #[] #[], .func (.func 115) #[] #[], .nilFunc, .nilFunc, .nilFunc, .nilFunc, .nilFunc, .func (.func 116) #[] #[], .func (.func 117) #[] #[], .nilFunc, .nilFunc, .nilFunc, .nilFunc, .nilFunc, .nilFunc, .nilFunc, .nilFunc, .nilFunc, .nilFunc, .nilFunc, .nilFunc, .nilFunc, .nilFunc, .nilFunc, .nilFunc, .nilFunc, .nilFunc, .nilFunc, .nilFunc, .nilFunc, .nilFunc, .nilFunc, .nilFunc, .nilFunc]) = W9 at *; clear hW9)
  clear HG
  refine (CO.out _).mono ?_
  rintro e w2 ⟨rfl, rfl⟩
  go_wp2
  go_ret3
  exact ⟨rfl, HW.out.be⟩
set_option maxRecDepth 100000 in
set_option maxHeartbeats 1000000 in
theorem one11_u16 (a b f : Int) (V F : Int) (CX : Hid (∀ w, Calls Tryd.prog 114 #[.int .u16 (IntKind.u16.wrap a), .int .i64 f] w fun e w' => e = .returned (.tuple #[.int .u16 V, .int .i64 F]) ∧ w = w')) (w : World) : Calls Tryd.prog 44 #[.int .i64 11, .int .i64 a, .int .i64 b, .int .i64 f] w fun e w' => e = .returned (.tuple #[.int .i64 (wrap64 V), .int .i64 F, .int .i64 0]) ∧ Below w.heap.size w w' := by
  have CO := Lib.hid (fun w => isOpYes 11 w (by decide) (by decide))
  have HG := Lib.hid (show (w.alloc (.cells #[.nilFunc, .nilFunc, .nilFunc, .nilFunc, .nilFunc, .nilFunc, .nilFunc, .nilFunc, .nilFunc, .nilFunc, .nilFunc, .nilFunc, .nilFunc, .nilFunc, .nilFunc, .nilFunc, .nilFunc, .nilFunc, .nilFunc, .nilFunc, .nilFunc, .nilFunc, .nilFunc, .nilFunc, .nilFunc, .nilFunc, .nilFunc, .nilFunc, .nilFunc, .nilFunc, .nilFunc, .nilFunc, .nilFunc, .nilFunc, .nilFunc, .nilFunc, .nilFunc, .nilFunc, .nilFunc, .nilFunc, .nilFunc, .nilFunc, .nilFunc, .nilFunc, .nilFunc] 99)).heap[w.heap.size]? = some (.cells #[.nilFunc, .nilFunc, .nilFunc, .nilFunc, .nilFunc, .nilFunc, .nilFunc, .nilFunc, .nilFunc, .nilFunc, .nilFunc, .nilFunc, .nilFunc, .nilFunc, .nilFunc, .nilFunc, .nilFunc, .nilFunc, .nilFunc, .nilFunc, .nilFunc, .nilFunc, .nilFunc, .nilFunc, .nilFunc, .nilFunc, .nilFunc, .nilFunc, .nilFunc, .nilFunc, .nilFunc, .nilFunc, .nilFunc, .nilFunc, .nilFunc, .nilFunc, .nilFunc, .nilFunc, .nilFunc, .nilFunc, .nilFunc, .nilFunc, .nilFunc, .nilFunc, .nilFunc] 99 (0, 0)) from heap_alloc_new _ _)
  have HW := Lib.hid (oneW_u16' w)
  go_enter Tryd.func44, Tryd.ntmps44
  go_wp2_with (refine wpList_store_row rfl 99 (.tmp 11) (.tmp 13) rfl w.heap.size #[.nilFunc, .nilFunc, .nilFunc, .nilFunc, .nilFunc, .nilFunc, .nilFunc, .nilFunc, .nilFunc, .nilFunc, .nilFunc, .func (.func 114) #[] #[], .func (.func 115) #[] #[], .nilFunc, .nilFunc, .nilFunc, .nilFunc, .nilFunc, .func (.func 116) #[] #[], .func (.func 117) #[] #[], .nilFunc, .nilFunc, .nilFunc, .nilFunc, .nilFunc, .nilFunc, .nilFunc, .nilFunc, .nilFunc, .nilFunc, .nilFunc, .nilFunc, .nilFunc, .nilFunc, .nilFunc, .nilFunc, .nilFunc, .nilFunc, .nilFunc, .nilFunc, .nilFunc, .nilFunc, .nilFunc, .nilFunc, .nilFunc] rfl rfl 99 _ HG.out (by kernel_rfl) rfl (by simp [Value.oneCell']) ?_; generalize hW9 : ((w.alloc (.cells #[.nilFunc, .nilFunc, .nilFunc, .nilFunc, .nilFunc, .nilFunc, .nilFunc, .nilFunc, .nilFunc, .nilFunc, .nilFunc, .nilFunc, .nilFunc, .nilFunc, .nilFunc, .nilFunc, .nilFunc, .nilFunc, .nilFunc, .nilFunc, .nilFunc, .nilFunc, .nilFunc, .nilFunc, .nilFunc, .nilFunc, .nilFunc, .nilFunc, .nilFunc, .nilFunc, .nilFunc, .nilFunc, .nilFunc, .nilFunc, .nilFunc, .nilFunc, .nilFunc, .nilFunc, .nilFunc, .nilFunc, .nilFunc, .nilFunc, .nilFunc, .nilFunc, .nilFunc] 99)).setRow w.heap.size #[.nilFunc, .nilFunc, .nilFunc, .nilFunc, .nilFunc, .nilFunc, .nilFunc, .nilFunc, .nilFunc, .nilFunc, .nilFunc, .func (.func 114) #[] #[], .func (.func 115) #[] #[], .nilFunc, .nilFunc, .nilFunc, .nilFunc, .nilFunc, .func (.func 116) #[] #[], .func (.func 117) #[] #[], .nilFunc, .nilFunc, .nilFunc, .nilFunc, .nilFunc, .nilFunc, .nilFunc, .nilFunc, .nilFunc, .nilFunc, .nilFunc, .nilFunc, .nilFunc, .nilFunc, .nilFunc, .nilFunc, .nilFunc, .nilFunc, .nilFunc, .nilFunc, .nilFunc, .nilFunc, .nilFunc, .nilFunc, .nilFunc]) = W9 at *; clear hW9)
  clear HG
  have hc := (cell_of_row _ _ 11 _ _ _ HW.out.row).trans (show oneRow_u16[11]? = some (.func (.func 114) #[] #[]) from rfl)
  have KE := fun W => eqNo1_u16 (.func 114) #[] #[] W
  refine (CO.out _).mono ?_
  rintro e w2 ⟨rfl, rfl⟩
  go_wp2_with fail
  refine (CX.out _).mono ?_
  rintro e w2 ⟨rfl, rfl⟩
  go_wp2
  go_ret3
  exact ⟨rfl, HW.out.be⟩
set_option maxRecDepth 100000 in
set_option maxHeartbeats 1000000 in
theorem one12_u16 (a b f : Int) (V F : Int) (CX : Hid (∀ w, Calls Tryd.prog 115 #[.int .u16 (IntKind.u16.wrap a), .int .i64 f] w fun e w' => e = .returned (.tuple #[.int .u16 V, .int .i64 F]) ∧ w = w')) (w : World) : Calls Tryd.prog 44 #[.int .i64 12, .int .i64 a, .int .i64 b, .int .i64 f] w fun e w' => e = .returned (.tuple #[.int .i64 (wrap64 V), .int .i64 F, .int .i64 0]) ∧ Below w.heap.size w w' := by
  have CO := Lib.hid (fun w => isOpYes 12 w (by decide) (by decide))
  have HG := Lib.hid (show (w.alloc (.cells #[.nilFunc, .nilFunc, .nilFunc, .nilFunc, .nilFunc, .nilFunc, .nilFunc, .nilFunc, .nilFunc, .nilFunc, .nilFunc, .nilFunc, .nilFunc, .nilFunc, .nilFunc, .nilFunc, .nilFunc, .nilFunc, .nilFunc, .nilFunc, .nilFunc, .nilFunc, .nilFunc, .nilFunc, .nilFunc, .nilFunc, .nilFunc, .nilFunc, .nilFunc, .nilFunc, .nilFunc, .nilFunc, .nilFunc, .nilFunc, .nilFunc, .nilFunc, .nilFunc, .nilFunc, .nilFunc, .nilFunc, .nilFunc, .nilFunc, .nilFunc, .nilFunc, .nilFunc] 99)).heap[w.heap.size]? = some (.cells #[.nilFunc, .nilFunc, .nilFunc, .nilFunc, .nilFunc, .nilFunc, .nilFunc, .nilFunc, .nilFunc, .nilFunc, .nilFunc, .nilFunc, .nilFunc, .nilFunc, .nilFunc, .nilFunc, .nilFunc, .nilFunc, .nilFunc, .nilFunc, .nilFunc, .nilFunc, .nilFunc, .nilFunc, .nilFunc, .nilFunc, .nilFunc, .nilFunc, .nilFunc, .nilFunc, .nilFunc, .nilFunc, .nilFunc, .nilFunc, .nilFunc, .nilFunc, .nilFunc, .nilFunc, .nilFunc, .nilFunc, .nilFunc, .nilFunc, .nilFunc, .nilFunc, .nilFunc] 99 (0, 0)) from heap_alloc_new _ _)
  have HW := Lib.hid (oneW_u16' w)
  go_enter Tryd.func44, Tryd.ntmps44
  go_wp2_with (refine wpList_store_row rfl 99 (.tmp 11) (.tmp 13) rfl w.heap.size #[.nilFunc, .nilFunc, .nilFunc, .nilFunc, .nilFunc, .nilFunc, .nilFunc, .nilFunc, .nilFunc, .nilFunc, .nilFunc, .func (.func 114) #[] #[], .func (.func 115) #[] #[], .nilFunc, .nilFunc, .nilFunc, .nilFunc, .nilFunc, .func (.func 116) #[] #[], .func (.func 117) #[] #[], .nilFunc, .nilFunc, .nilFunc, .nilFunc, .nilFunc, .nilFunc, .nilFunc, .nilFunc, .nilFunc, .nilFunc, .nilFunc, .nilFunc, .nilFunc, .nilFunc, .nilFunc, .nilFunc, .nilFunc, .nilFunc, .nilFunc, .nilFunc, .nilFunc, .nilFunc, .nilFunc, .nilFunc, .nilFunc] rfl rfl 99 _ HG.out (by kernel_rfl) rfl (by simp [Value.oneCell']) ?_; generalize hW9 : ((w.alloc (.cells #[.nilFunc, .nilFunc, .nilFunc, .nilFunc, .nilFunc, .nilFunc, .nilFunc, .nilFunc, .nilFunc, .nilFunc, .nilFunc, .nilFunc, .nilFunc, .nilFunc, .nilFunc, .nilFunc, .nilFunc, .nilFunc, .nilFunc, .nilFunc, .nilFunc, .nilFunc, .nilFunc, .nilFunc, .nilFunc, .nilFunc, .nilFunc, .nilFunc, .nilFunc, .nilFunc, .nilFunc, .nilFunc, .nilFunc, .nilFunc, .nilFunc, .nilFunc, .nilFunc, .nilFunc, .nilFunc, .nilFunc, .nilFunc, .nilFunc, .nilFunc, .nilFunc, .nilFunc] 99)).setRow w.heap.size #[.nilFunc, .nilFunc, .nilFunc, .nilFunc, .nilFunc, .nilFunc, .nilFunc, .nilFunc, .nilFunc, .nilFunc, .nilFunc, .func (.func 114) #[] #[], .func (.func 115) #[] #[], .nilFunc, .nilFunc, .nilFunc, .nilFunc, .nilFunc, .func (.func 116) #[] #[], .func (.func 117) #[] #[], .nilFunc, .nilFunc, .nilFunc, .nilFunc, .nilFunc, .nilFunc, .nilFunc, .nilFunc, .nilFunc, .nilFunc, .nilFunc, .nilFunc, .nilFunc, .nilFunc, .nilFunc, .nilFunc, .nilFunc, .nilFunc, .nilFunc, .nilFunc, .nilFunc, .nilFunc, .nilFunc, .nilFunc, .nilFunc]) = W9 at *; clear hW9)
  clear HG
  have hc := (cell_of_row _ _ 12 _ _ _ HW.out.row).trans (show oneRow_u16[12]? = some (.func (.func 115) #[] #[]) from rfl)
  have KE := fun W => eqNo1_u16 (.func 115) #[] #[] W
  refine (CO.out _).mono ?_
  rintro e w2 ⟨rfl, rfl⟩
  go_wp2_with fail
  refine (CX.out _).mono ?_
  rintro e w2 ⟨rfl, rfl⟩
  go_wp2
  go_ret3
  exact ⟨rfl, HW.out.be⟩
set_option maxRecDepth 100000 in
set_option maxHeartbeats 1000000 in
theorem one18_u16 (a b f : Int) (V F : Int) (CX : Hid (∀ w, Calls Tryd.prog 116 #[.int .u16 (IntKind.u16.wrap a), .int .i64 f] w fun e w' => e = .returned (.tuple #[.int .u16 V, .int .i64 F]) ∧ w = w')) (w : World) : Calls Tryd.prog 44 #[.int .i64 18, .int .i64 a, .int .i64 b, .int .i64 f] w fun e w' => e = .returned (.tuple #[.int .i64 (wrap64 V), .int .i64 F, .int .i64 0]) ∧ Below w.heap.size w w' := by
  have CO := Lib.hid (fun w => isOpYes 18 w (by decide) (by decide))
  have HG := Lib.hid (show (w.alloc (.cells #[.nilFunc, .nilFunc, .nilFunc, .nilFunc, .nilFunc, .nilFunc, .nilFunc, .nilFunc, .nilFunc, .nilFunc, .nilFunc, .nilFunc, .nilFunc, .nilFunc, .nilFunc, .nilFunc, .nilFunc, .nilFunc, .nilFunc, .nilFunc, .nilFunc, .nilFunc, .nilFunc, .nilFunc, .nilFunc, .nilFunc, .nilFunc, .nilFunc, .nilFunc, .nilFunc, .nilFunc, .nilFunc, .nilFunc, .nilFunc, .nilFunc, .nilFunc, .nilFunc, .nilFunc, .nilFunc, .nilFunc, .nilFunc, .nilFunc, .nilFunc, .nilFunc, .nilFunc] 99)).heap[w.heap.size]? = some (.cells #[.nilFunc, .nilFunc, .nilFunc, .nilFunc, .nilFunc, .nilFunc, .nilFunc, .nilFunc, .nilFunc, .nilFunc, .nilFunc, .nilFunc, .nilFunc, .nilFunc, .nilFunc, .nilFunc, .nilFunc, .nilFunc, .nilFunc, .nilFunc, .nilFunc, .nilFunc, .nilFunc, .nilFunc, .nilFunc, .nilFunc, .nilFunc, .nilFunc, .nilFunc, .nilFunc, .nilFunc, .nilFunc, .nilFunc, .nilFunc, .nilFunc, .nilFunc, .nilFunc, .nilFunc, .nilFunc, .nilFunc, .nilFunc, .nilFunc, .nilFunc, .nilFunc, .nilFunc] 99 (0, 0)) from heap_alloc_new _ _)
  have HW := Lib.hid (oneW_u16' w)
  go_enter Tryd.func44, Tryd.ntmps44
  go_wp2_with (refine wpList_store_row rfl 99 (.tmp 11) (.tmp 13) rfl w.heap.size #[.nilFunc, .nilFunc, .nilFunc, .nilFunc, .nilFunc, .nilFunc, .nilFunc, .nilFunc, .nilFunc, .nilFunc, .nilFunc, .func (.func 114) #[] #[], .func (.func 115) #[] #[], .nilFunc, .nilFunc, .nilFunc, .nilFunc, .nilFunc, .func (.func 116) #[] #[], .func (.func 117) #[] #[], .nilFunc, .nilFunc, .nilFunc, .nilFunc, .nilFunc, .nilFunc, .nilFunc, .nilFunc, .nilFunc, .nilFunc, .nilFunc, .nilFunc, .nilFunc, .nilFunc, .nilFunc, .nilFunc, .nilFunc, .nilFunc, .nilFunc, .nilFunc, .nilFunc, .nilFunc, .nilFunc, .nilFunc, .nilFunc] rfl rfl 99 _ HG.out (by kernel_rfl) rfl (by simp [Value.oneCell']) ?_; generalize hW9 : ((w.alloc (.cells #[.nilFunc, .nilFunc, .nilFunc, .nilFunc, .nilFunc, .nilFunc, .nilFunc, .nilFunc, .nilFunc, .nilFunc, .nilFunc, .nilFunc, .nilFunc, .nilFunc, .nilFunc, .nilFunc, .nilFunc, .nilFunc, .nilFunc, .nilFunc, .nilFunc, .nilFunc, .nilFunc, .nilFunc, .nilFunc, .nilFunc, .nilFunc, .nilFunc, .nilFunc, .nilFunc, .nilFunc, .nilFunc, .nilFunc, .nilFunc, .nilFunc, .nilFunc, .nilFunc, .nilFunc, .nilFunc, .nilFunc, .nilFunc, .nilFunc, .nilFunc, .nilFunc, .nilFunc] 99)).setRow w.heap.size #[.nilFunc, .nilFunc, .nilFunc, .nilFunc, .nilFunc, .nilFunc, .nilFunc, .nilFunc, .nilFunc, .nilFunc, .nilFunc, .func (.func 114) #[] #[], .func (.func 115) #[] #[], .nilFunc, .nilFunc, .nilFunc, .nilFunc, .nilFunc, .func (.func 116) #[] #[], .func (.func 117) #[] #[], .nilFunc, .nilFunc, .nilFunc, .nilFunc, .nilFunc, .nilFunc, .nilFunc, .nilFunc, .nilFunc, .nilFunc, .nilFunc, .nilFunc, .nilFunc, .nilFunc, .nilFunc, .nilFunc, .nilFunc, .nilFunc, .nilFunc, .nilFunc, .nilFunc, .nilFunc, .nilFunc, .nilFunc, .nilFunc]) = W9 at *; clear hW9)
  clear HG
  have hc := (cell_of_row _ _ 18 _ _ _ HW.out.row).trans (show oneRow_u16[18]? = some (.func (.func 116) #[] #[]) from rfl)
  have KE := fun W => eqNo1_u16 (.func 116) #[] #[] W
  refine (CO.out _).mono ?_
  rintro e w2 ⟨rfl, rfl⟩
  go_wp2_with fail
  refine (CX.out _).mono ?_
  rintro e w2 ⟨rfl, rfl⟩
  go_wp2
  go_ret3
  exact ⟨rfl, HW.out.be⟩
set_option maxRecDepth 100000 in
set_option maxHeartbeats 1000000 in
theorem one19_u16 (a b f : Int) (V F : Int) (CX : Hid (∀ w, Calls Tryd.prog 117 #[.int .u16 (IntKind.u16.wrap a), .int .i64 f] w fun e w' => e = .returned (.tuple #[.int .u16 V, .int .i64 F]) ∧ w = w')) (w : World) : Calls Tryd.prog 44 #[.int .i64 19, .int .i64 a, .int .i64 b, .int .i64 f] w fun e w' => e = .returned (.tuple #[.int .i64 (wrap64 V), .int .i64 F, .int .i64 0]) ∧ Below w.heap.size w w' := by
  have CO := Lib.hid (fun w => isOpYes 19 w (by decide) (by decide))
  have HG := Lib.hid (show (w.alloc (.cells #[.nilFunc, .nilFunc, .nilFunc, .nilFunc, .nilFunc, .nilFunc, .nilFunc, .nilFunc, .nilFunc, .nilFunc, .nilFunc, .nilFunc, .nilFunc, .nilFunc, .nilFunc, .nilFunc, .nilFunc, .nilFunc, .nilFunc, .nilFunc, .nilFunc, .nilFunc, .nilFunc, .nilFunc, .nilFunc, .nilFunc, .nilFunc, .nilFunc, .nilFunc, .nilFunc, .nilFunc, .nilFunc, .nilFunc, .nilFunc, .nilFunc, .nilFunc, .nilFunc, .nilFunc, .nilFunc, .nilFunc, .nilFunc, .nilFunc, .nilFunc, .nilFunc, .nilFunc] 99)).heap[w.heap.size]? = some (.cells #[.nilFunc, .nilFunc, .nilFunc, .nilFunc, .nilFunc, .nilFunc, .nilFunc, .nilFunc, .nilFunc, .nilFunc, .nilFunc, .nilFunc, .nilFunc, .nilFunc, .nilFunc, .nilFunc, .nilFunc, .nilFunc, .nilFunc, .nilFunc, .nilFunc, .nilFunc, .nilFunc, .nilFunc, .nilFunc, .nilFunc, .nilFunc, .nilFunc, .nilFunc, .nilFunc, .nilFunc, .nilFunc, .nilFunc, .nilFunc, .nilFunc, .nilFunc, .nilFunc, .nilFunc, .nilFunc, .nilFunc, .nilFunc, .nilFunc, .nilFunc, .nilFunc, .nilFunc] 99 (0, 0)) from heap_alloc_new _ _)
  have HW := Lib.hid (oneW_u16' w)
  go_enter Tryd.func44, Tryd.ntmps44
  go_wp2_with (refine wpList_store_row rfl 99 (.tmp 11) (.tmp 13) rfl w.heap.size #[.nilFunc, .nilFunc, .nilFunc, .nilFunc, .nilFunc, .nilFunc, .nilFunc, .nilFunc, .nilFunc, .nilFunc, .nilFunc, .func (.func 114) #[] #[], .func (.func 115) #[] #[], .nilFunc, .nilFunc, .nilFunc, .nilFunc, .nilFunc, .func (.func 116) #[] #[], .func (.func 117) #[] #[], .nilFunc, .nilFunc, .nilFunc, .nilFunc, .nilFunc, .nilFunc, .nilFunc, .nilFunc, .nilFunc, .nilFunc, .nilFunc, .nilFunc, .nilFunc, .nilFunc, .nilFunc, .nilFunc, .nilFunc, .nilFunc, .nilFunc, .nilFunc, .nilFunc, .nilFunc, .nilFunc, .nilFunc, .nilFunc] rfl rfl 99 _ HG.out (by kernel_rfl) rfl (by simp [Value.oneCell']) ?_; generalize hW9 : ((w.alloc (.cells #[.nilFunc, .nilFunc, .nilFunc, .nilFunc, .nilFunc, .nilFunc, .nilFunc, .nilFunc, .nilFunc, .nilFunc, .nilFunc, .nilFunc, .nilFunc, .nilFunc, .nilFunc, .nilFunc, .nilFunc, .nilFunc, .nilFunc, .nilFunc, .nilFunc, .nilFunc, .nilFunc, .nilFunc, .nilFunc, .nilFunc, .nilFunc, .nilFunc, .nilFunc, .nilFunc, .nilFunc, .nilFunc, .nilFunc, .nilFunc, .nilFunc, .nilFunc, .nilFunc, .nilFunc, .nilFunc, .nilFunc, .nilFunc, .nilFunc, .nilFunc, .nilFunc, .nilFunc] 99)).setRow w.heap.size #[.nilFunc, .nilFunc, .nilFunc, .nilFunc, .nilFunc, .nilFunc, .nilFunc, .nilFunc, .nilFunc, .nilFunc, .nilFunc, .func (.func 114) #[] #[], .func (.func 115) #[] #[], .nilFunc, .nilFunc, .nilFunc, .nilFunc, .nilFunc, .func (.func 116) #[] #[], .func (.func 117) #[] #[], .nilFunc, .nilFunc, .nilFunc, .nilFunc, .nilFunc, .nilFunc, .nilFunc, .nilFunc, .nilFunc, .nilFunc, .nilFunc, .nilFunc, .nilFunc, .nilFunc, .nilFunc, .nilFunc, .nilFunc, .nilFunc, .nilFunc, .nilFunc, .nilFunc, .nilFunc, .nilFunc, .nilFunc, .nilFunc]) = W9 at *; clear hW9)
  clear HG
  have hc := (cell_of_row _ _ 19 _ _ _ HW.out.row).trans (show oneRow_u16[19]? = some (.func (.func 117) #[] #[]) from rfl)
  have KE := fun W => eqNo1_u16 (.func 117) #[] #[] W
  refine (CO.out _).mono ?_
  rintro e w2 ⟨rfl, rfl⟩
  go_wp2_with fail
  refine (CX.out _).mono ?_
  rintro e w2 ⟨rfl, rfl⟩
  go_wp2
  go_ret3
  exact ⟨rfl, HW.out.be⟩
def shiftRow_u16 : Array Value := #[.nilFunc, .nilFunc, .nilFunc, .nilFunc, .nilFunc, .nilFunc, .nilFunc, .nilFunc, .nilFunc, .nilFunc, .nilFunc, .nilFunc, .nilFunc, .nilFunc, .nilFunc, .nilFunc, .nilFunc, .nilFunc, .nilFunc, .nilFunc, .func (.func 134) #[] #[], .func (.func 135) #[] #[], .func (.func 136) #[] #[], .func (.func 137) #[] #[], .func (.func 138) #[] #[], .nilFunc, .nilFunc, .nilFunc, .nilFunc, .nilFunc, .nilFunc, .nilFunc, .nilFunc, .nilFunc, .nilFunc, .nilFunc, .nilFunc, .nilFunc, .nilFunc, .nilFunc, .nilFunc, .nilFunc, .nilFunc, .nilFunc, .nilFunc]
structure shiftW_u16 (w W : World) : Prop where
  row : W.heap[w.heap.size]? = some (.cells shiftRow_u16 99 (0, 0))
  be : Below w.heap.size w W
theorem shiftW_u16' (w : World) : shiftW_u16 w ((w.alloc (.cells #[.nilFunc, .nilFunc, .nilFunc, .nilFunc, .nilFunc, .nilFunc, .nilFunc, .nilFunc, .nilFunc, .nilFunc, .nilFunc, .nilFunc, .nilFunc, .nilFunc, .nilFunc, .nilFunc, .nilFunc, .nilFunc, .nilFunc, .nilFunc, .nilFunc, .nilFunc, .nilFunc, .nilFunc, .nilFunc, .nilFunc, .nilFunc, .nilFunc, .nilFunc, .nilFunc, .nilFunc, .nilFunc, .nilFunc, .nilFunc, .nilFunc, .nilFunc, .nilFunc, .nilFunc, .nilFunc, .nilFunc, .nilFunc, .nilFunc, .nilFunc, .nilFunc, .nilFunc] 99)).setRow w.heap.size #[.nilFunc, .nilFunc, .nilFunc, .nilFunc, .nilFunc, .nilFunc, .nilFunc, .nilFunc, .nilFunc, .nilFunc, .nilFunc, .nilFunc, .nilFunc, .nilFunc, .nilFunc, .nilFunc, .nilFunc, .nilFunc, .nilFunc, .nilFunc, .func (.func 134) #[] #[], .func (.func 135) #[] #[], .func (.func 136) #[] #[], .func (.func 137) #[] #[], .func (.func 138) #[] #[], .nilFunc, .nilFunc, .nilFunc, .nilFunc, .nilFunc, .nilFunc, .nilFunc, .nilFunc, .nilFunc, .nilFunc, .nilFunc, .nilFunc, .nilFunc, .nilFunc, .nilFunc, .nilFunc, .nilFunc, .nilFunc, .nilFunc, .nilFunc]) := by
  have HG : (w.alloc (.cells #[.nilFunc, .nilFunc, .nilFunc, .nilFunc, .nilFunc, .nilFunc, .nilFunc, .nilFunc, .nilFunc, .nilFunc, .nilFunc, .nilFunc, .nilFunc, .nilFunc, .nilFunc, .nilFunc, .nilFunc, .nilFunc, .nilFunc, .nilFunc, .nilFunc, .nilFunc, .nilFunc, .nilFunc, .nilFunc, .nilFunc, .nilFunc, .nilFunc, .nilFunc, .nilFunc, .nilFunc, .nilFunc, .nilFunc, .nilFunc, .nilFunc, .nilFunc, .nilFunc, .nilFunc, .nilFunc, .nilFunc, .nilFunc, .nilFunc, .nilFunc, .nilFunc, .nilFunc] 99)).heap[w.heap.size]? = some (.cells #[.nilFunc, .nilFunc, .nilFunc, .nilFunc, .nilFunc, .nilFunc, .nilFunc, .nilFunc, .nilFunc, .nilFunc, .nilFunc, .nilFunc, .nilFunc, .nilFunc, .nilFunc, .nilFunc, .nilFunc, .nilFunc, .nilFunc, .nilFunc, .nilFunc, .nilFunc, .nilFunc, .nilFunc, .nilFunc, .nilFunc, .nilFunc, .nilFunc, .nilFunc, .nilFunc, .nilFunc, .nilFunc, .nilFunc, .nilFunc, .nilFunc, .nilFunc, .nilFunc, .nilFunc, .nilFunc, .nilFunc, .nilFunc, .nilFunc, .nilFunc, .nilFunc, .nilFunc] 99 (0, 0)) := heap_alloc_new _ _
  exact ⟨setRow_heap _ _ _ _ _ _ HG, below_setRow ((Below.refl _ _).alloc (Nat.le_refl _) _) (Nat.le_refl _) _⟩
theorem shift_nil_u16 (i : Nat) (h : i < 45) (hn : i ≠ 20 ∧ i ≠ 21 ∧ i ≠ 22 ∧ i ≠ 23 ∧ i ≠ 24) : shiftRow_u16[i]? = some .nilFunc := by
  have K : ∀ i, i < 45 → (i ≠ 20 ∧ i ≠ 21 ∧ i ≠ 22 ∧ i ≠ 23 ∧ i ≠ 24) → shiftRow_u16[i]? = some .nilFunc := by
    intro i h hn
    rcases (by omega : i = 0 ∨ i = 1 ∨ i = 2 ∨ i = 3 ∨ i = 4 ∨ i = 5 ∨ i = 6 ∨ i = 7 ∨ i = 8 ∨ i = 9 ∨ i = 10 ∨ i = 11 ∨ i = 12 ∨ i = 13 ∨ i = 14 ∨ i = 15 ∨ i = 16 ∨ i = 17 ∨ i = 18 ∨ i = 19 ∨ i = 25 ∨ i = 26 ∨ i = 27 ∨ i = 28 ∨ i = 29 ∨ i = 30 ∨ i = 31 ∨ i = 32 ∨ i = 33 ∨ i = 34 ∨ i = 35 ∨ i = 36 ∨ i = 37 ∨ i = 38 ∨ i = 39 ∨ i = 40 ∨ i = 41 ∨ i = 42 ∨ i = 43 ∨ i = 44) with rfl | rfl | rfl | rfl | rfl | rfl | rfl | rfl | rfl | rfl | rfl | rfl | rfl | rfl | rfl | rfl | rfl | rfl | rfl | rfl | rfl | rfl | rfl | rfl | rfl | rfl | rfl | rfl | rfl | rfl | rfl | rfl | rfl | rfl | rfl | rfl | rfl | rfl | rfl | rfl
    all_goals rfl
  exact K i h hn
set_option maxRecDepth 100000 in
set_option maxHeartbeats 1000000 in
theorem shiftNil_u16 (op a b f : Int) (h1 : 1 ≤ op) (h2 : op ≤ 44) (h3 : op ≠ 20 ∧ op ≠ 21 ∧ op ≠ 22 ∧ op ≠ 23 ∧ op ≠ 24) (w : World) : Calls Tryd.prog 49 #[.int .i64 op, .int .i64 a, .int .i64 b, .int .i64 f] w fun e w' => e = .returned (.tuple #[.int .i64 0, .int .i64 0, .int .i64 11]) ∧ Below w.heap.size w w' := by
  have CO := Lib.hid (fun w => isOpYes op w h1 h2)
  have HG := Lib.hid (show (w.alloc (.cells #[.nilFunc, .nilFunc, .nilFunc, .nilFunc, .nilFunc, .nilFunc, .nilFunc, .nilFunc, .nilFunc, .nilFunc, .nilFunc, .nilFunc, .nilFunc, .nilFunc, .nilFunc, .nilFunc, .nilFunc, .nilFunc, .nilFunc, .nilFunc, .nilFunc, .nilFunc, .nilFunc, .nilFunc, .nilFunc, .nilFunc, .nilFunc, .nilFunc, .nilFunc, .nilFunc, .nilFunc, .nilFunc, .nilFunc, .nilFunc, .nilFunc, .nilFunc, .nilFunc, .nilFunc, .nilFunc, .nilFunc, .nilFunc, .nilFunc, .nilFunc, .nilFunc, .nilFunc] 99)).heap[w.heap.size]? = some (.cells #[.nilFunc, .nilFunc, .nilFunc, .nilFunc, .nilFunc, .nilFunc, .nilFunc, .nilFunc, .nilFunc, .nilFunc, .nilFunc, .nilFunc, .nilFunc, .nilFunc, .nilFunc, .nilFunc, .nilFunc, .nilFunc, .nilFunc, .nilFunc, .nilFunc, .nilFunc, .nilFunc, .nilFunc, .nilFunc, .nilFunc, .nilFunc, .nilFunc, .nilFunc, .nilFunc, .nilFunc, .nilFunc, .nilFunc, .nilFunc, .nilFunc, .nilFunc, .nilFunc, .nilFunc, .nilFunc, .nilFunc, .nilFunc, .nilFunc, .nilFunc, .nilFunc, .nilFunc] 99 (0, 0)) from heap_alloc_new _ _)
  have HW := Lib.hid (shiftW_u16' w)
  go_enter Tryd.func49, Tryd.ntmps49
  go_wp2_with (refine wpList_store_row rfl 99 (.tmp 11) (.tmp 14) rfl w.heap.size #[.nilFunc, .nilFunc, .nilFunc, .nilFunc, .nilFunc, .nilFunc, .nilFunc, .nilFunc, .nilFunc, .nilFunc, .nilFunc, .nilFunc, .nilFunc, .nilFunc, .nilFunc, .nilFunc, .nilFunc, .nilFunc, .nilFunc, .nilFunc, .func (.func 134) #[] #[], .func (.func 135) #[] #[], .func (.func 136) #[] #[], .func (.func 137) #[] #[], .func (.func 138) #[] #[], .nilFunc, .nilFunc, .nilFunc, .nilFunc, .nilFunc, .nilFunc, .nilFunc, .nilFunc, .nilFunc, .nilFunc, .nilFunc, .nilFunc, .nilFunc, .nilFunc, .nilFunc, .nilFunc, .nilFunc, .nilFunc, .nilFunc, .nilFunc] rfl rfl 99 _ HG.out (by kernel_rfl) rfl (by simp [Value.oneCell']) ?_; generalize hW9 : ((w.alloc (.cells #[.nilFunc, .nilFunc, .nilFunc, .nilFunc, .nilFunc, .nilFunc, .nilFunc, .nilFunc, .nilFunc, .nilFunc, .nilFunc, .nilFunc, .nilFunc, .nilFunc, .nilFunc, .nilFunc, .nilFunc, .nilFunc, .nilFunc, .nilFunc, .nilFunc, .nilFunc, .nilFunc, .nilFunc, .nilFunc, .nilFunc, .nilFunc, .nilFunc, .nilFunc, .nilFunc, .nilFunc, .nilFunc, .nilFunc, .nilFunc, .nilFunc, .nilFunc, .nilFunc, .nilFunc, .nilFunc, .nilFunc, .nilFunc, .nilFunc, .nilFunc, .nilFunc, .nilFunc] 99)).setRow w.heap.size #[.nilFunc, .nilFunc, .nilFunc, .nilFunc, .nilFunc, .nilFunc, .nilFunc, .nilFunc, .nilFunc, .nilFunc, .nilFunc, .nilFunc, .nilFunc, .nilFunc, .nilFunc, .nilFunc, .nilFunc, .nilFunc, .nilFunc, .nilFunc, .func (.func 134) #[] #[], .func (.func 135) #[] #[], .func (.func 136) #[] #[], .func (.func 137) #[] #[], .func (.func 138) #[] #[], .nilFunc, .nilFunc, .nilFunc, .nilFunc, .nilFunc, .nilFunc, .nilFunc, .nilFunc, .nilFunc, .nilFunc, .nilFunc, .nilFunc, .nilFunc, .nilFunc, .nilFunc, .nilFunc, .nilFunc, .nilFunc, .nilFunc, .nilFunc]) = W9 at *; clear hW9)
  clear HG
  have hc := (cell_of_row _ _ op.toNat _ _ _ HW.out.row).trans (shift_nil_u16 op.toNat (by omega) (by omega))
  have KE := eqYes1_u16
  refine (CO.out _).mono ?_
  rintro e w2 ⟨rfl, rfl⟩
  go_wp2
  go_ret3
  exact ⟨rfl, HW.out.be⟩
set_option maxRecDepth 100000 in
set_option maxHeartbeats 1000000 in
theorem shiftNo_u16 (op a b f : Int) (h : ¬ (1 ≤ op ∧ op ≤ 44)) (w : World) : Calls Tryd.prog 49 #[.int .i64 op, .int .i64 a, .int .i64 b, .int .i64 f] w fun e w' => e = .returned (.tuple #[.int .i64 0, .int .i64 0, .int .i64 11]) ∧ Below w.heap.size w w' := by
  have CO := Lib.hid (fun w => isOpNo op w h)
  clear h
  have HG := Lib.hid (show (w.alloc (.cells #[.nilFunc, .nilFunc, .nilFunc, .nilFunc, .nilFunc, .nilFunc, .nilFunc, .nilFunc, .nilFunc, .nilFunc, .nilFunc, .nilFunc, .nilFunc, .nilFunc, .nilFunc, .nilFunc, .nilFunc, .nilFunc, .nilFunc, .nilFunc, .nilFunc, .nilFunc, .nilFunc, .nilFunc, .nilFunc, .nilFunc, .nilFunc, .nilFunc, .nilFunc, .nilFunc, .nilFunc, .nilFunc, .nilFunc, .nilFunc, .nilFunc, .nilFunc, .nilFunc, .nilFunc, .nilFunc, .nilFunc, .nilFunc, .nilFunc, .nilFunc, .nilFunc, .nilFunc] 99)).heap[w.heap.size]? = some (.cells #[.nilFunc, .nilFunc, .nilFunc, .nilFunc, .nilFunc, .nilFunc, .nilFunc, .nilFunc, .nilFunc, .nilFunc, .nilFunc, .nilFunc, .nilFunc, .nilFunc, .nilFunc, .nilFunc, .nilFunc, .nilFunc, .nilFunc, .nilFunc, .nilFunc, .nilFunc, .nilFunc, .nilFunc, .nilFunc, .nilFunc, .nilFunc, .nilFunc, .nilFunc, .nilFunc, .nilFunc, .nilFunc, .nilFunc, .nilFunc, .nilFunc, .nilFunc, .nilFunc, .nilFunc, .nilFunc, .nilFunc, .nilFunc, .nilFunc, .nilFunc, .nilFunc, .nilFunc] 99 (0, 0)) from heap_alloc_new _ _)
  have HW := Lib.hid (shiftW_u16' w)
  go_enter Tryd.func49, Tryd.ntmps49
  go_wp2_with (refine wpList_store_row rfl 99 (.tmp 11) (.tmp 14) rfl w.heap.size #[.nilFunc, .nilFunc, .nilFunc, .nilFunc, .nilFunc, .nilFunc, .nilFunc, .nilFunc, .nilFunc, .nilFunc, .nilFunc, .nilFunc, .nilFunc, .nilFunc, .nilFunc, .nilFunc, .nilFunc, .nilFunc, .nilFunc, .nilFunc, .func (.func 134) #[] #[], .func (.func 135) #[] #[], .func (.func 136) #[] #[], .func (.func 137) #[] #[], .func (.func 138) #[] #[], .nilFunc, .nilFunc, .nilFunc, .nilFunc, .nilFunc, .nilFunc, .nilFunc, .nilFunc, .nilFunc, .nilFunc, .nilFunc, .nilFunc, .nilFunc, .nilFunc, .nilFunc, .nilFunc, .nilFunc, .nilFunc, .nilFunc, .nilFunc] rfl rfl 99 _ HG.out (by kernel_rfl) rfl (by simp [Value.oneCell']) ?_; generalize hW9 : ((w.alloc (.cells #[.nilFunc, .nilFunc, .nilFunc, .nilFunc, .nilFunc, .nilFunc, .nilFunc, .nilFunc, .nilFunc, .nilFunc, .nilFunc, .nilFunc, .nilFunc, .nilFunc, .nilFunc, .nilFunc, .nilFunc, .nilFunc, .nilFunc, .nilFunc, .nilFunc, .nilFunc, .nilFunc, .nilFunc, .nilFunc, .nilFunc, .nilFunc, .nilFunc, .nilFunc, .nilFunc, .nilFunc, .nilFunc, .nilFunc, .nilFunc, .nilFunc, .nilFunc, .nilFunc, .nilFunc, .nilFunc, .nilFunc, .nilFunc, .nilFunc, .nilFunc, .nilFunc, .nilFunc] 99)).setRow w.heap.size #[.nilFunc, .nilFunc, .nilFunc, .nilFunc, .nilFunc, .nilFunc, .nilFunc, .nilFunc, .nilFunc, .nilFunc, .nilFunc, .nilFunc, .nilFunc, .nilFunc, .nilFunc, .nilFunc, .nilFunc, .nilFunc, .nilFunc, .nilFunc, .func (.func 134) #[] #[], .func (.func 135) #[] #[], .func (.func 136) #[] #[], .func (.func 137) #[] #[], .func (.func 138) #[] #[], .nilFunc, .nilFunc, .nilFunc, .nilFunc, .nilFunc, .nilFunc, .nilFunc, .nilFunc, .nilFunc, .nilFunc, .nilFunc, .nilFunc, .nilFunc, .nilFunc, .nilFunc, .nilFunc, .nilFunc, .nilFunc, .nilFunc, .nilFunc]) = W9 at *; clear hW9)
  clear HG
  refine (CO.out _).mono ?_
  rintro e w2 ⟨rfl, rfl⟩
  go_wp2
  go_ret3
  exact ⟨rfl, HW.out.be⟩
set_option maxRecDepth 100000 in
set_option maxHeartbeats 1000000 in
theorem shift20_u16 (a b f : Int) (n : Nat) (hn : bits .and .i64 b 31 = (n : Int)) (hn64 : n < 64) (g : Nat → Nat × Int) (g0 : (((g 0).1 : Nat) : Int) = (IntKind.u16.wrap a)) (g1 : (g 0).2 = f) (CX : Hid (∀ i w, i < n → Calls Tryd.prog 134 #[.int .u16 (((g i).1 : Nat) : Int), .int .i64 (g i).2] w fun e w' => e = .returned (.tuple #[.int .u16 (((g (i + 1)).1 : Nat) : Int), .int .i64 (g (i + 1)).2]) ∧ w = w')) (w : World) : Calls Tryd.prog 49 #[.int .i64 20, .int .i64 a, .int .i64 b, .int .i64 f] w fun e w' => e = .returned (.tuple #[.int .i64 (wrap64 (((g n).1 : Nat) : Int)), .int .i64 (g n).2, .int .i64 0]) ∧ Below w.heap.size w w' := by
  have CO := Lib.hid (fun w => isOpYes 20 w (by decide) (by decide))
  have CL := Lib.hid (fun W => Tryd.bits_Len64 32768 W (by decide) (by decide))
  have hL : Lib.bitLen 32768 = 16 := by decide +kernel
  have hmx : max (15 : Int) 31 = 31 := by decide
  have G0 := Lib.hid g0; have G1 := Lib.hid g1
  clear g0 g1
  have HG := Lib.hid (show (w.alloc (.cells #[.nilFunc, .nilFunc, .nilFunc, .nilFunc, .nilFunc, .nilFunc, .nilFunc, .nilFunc, .nilFunc, .nilFunc, .nilFunc, .nilFunc, .nilFunc, .nilFunc, .nilFunc, .nilFunc, .nilFunc, .nilFunc, .nilFunc, .nilFunc, .nilFunc, .nilFunc, .nilFunc, .nilFunc, .nilFunc, .nilFunc, .nilFunc, .nilFunc, .nilFunc, .nilFunc, .nilFunc, .nilFunc, .nilFunc, .nilFunc, .nilFunc, .nilFunc, .nilFunc, .nilFunc, .nilFunc, .nilFunc, .nilFunc, .nilFunc, .nilFunc, .nilFunc, .nilFunc] 99)).heap[w.heap.size]? = some (.cells #[.nilFunc, .nilFunc, .nilFunc, .nilFunc, .nilFunc, .nilFunc, .nilFunc, .nilFunc, .nilFunc, .nilFunc, .nilFunc, .nilFunc, .nilFunc, .nilFunc, .nilFunc, .nilFunc, .nilFunc, .nilFunc, .nilFunc, .nilFunc, .nilFunc, .nilFunc, .nilFunc, .nilFunc, .nilFunc, .nilFunc, .nilFunc, .nilFunc, .nilFunc, .nilFunc, .nilFunc, .nilFunc, .nilFunc, .nilFunc, .nilFunc, .nilFunc, .nilFunc, .nilFunc, .nilFunc, .nilFunc, .nilFunc, .nilFunc, .nilFunc, .nilFunc, .nilFunc] 99 (0, 0)) from heap_alloc_new _ _)
  have HW := Lib.hid (shiftW_u16' w)
  go_enter Tryd.func49, Tryd.ntmps49
  go_wp2_with (refine wpList_store_row rfl 99 (.tmp 11) (.tmp 14) rfl w.heap.size #[.nilFunc, .nilFunc, .nilFunc, .nilFunc, .nilFunc, .nilFunc, .nilFunc, .nilFunc, .nilFunc, .nilFunc, .nilFunc, .nilFunc, .nilFunc, .nilFunc, .nilFunc, .nilFunc, .nilFunc, .nilFunc, .nilFunc, .nilFunc, .func (.func 134) #[] #[], .func (.func 135) #[] #[], .func (.func 136) #[] #[], .func (.func 137) #[] #[], .func (.func 138) #[] #[], .nilFunc, .nilFunc, .nilFunc, .nilFunc, .nilFunc, .nilFunc, .nilFunc, .nilFunc, .nilFunc, .nilFunc, .nilFunc, .nilFunc, .nilFunc, .nilFunc, .nilFunc, .nilFunc, .nilFunc, .nilFunc, .nilFunc, .nilFunc] rfl rfl 99 _ HG.out (by kernel_rfl) rfl (by simp [Value.oneCell']) ?_; generalize hW9 : ((w.alloc (.cells #[.nilFunc, .nilFunc, .nilFunc, .nilFunc, .nilFunc, .nilFunc, .nilFunc, .nilFunc, .nilFunc, .nilFunc, .nilFunc, .nilFunc, .nilFunc, .nilFunc, .nilFunc, .nilFunc, .nilFunc, .nilFunc, .nilFunc, .nilFunc, .nilFunc, .nilFunc, .nilFunc, .nilFunc, .nilFunc, .nilFunc, .nilFunc, .nilFunc, .nilFunc, .nilFunc, .nilFunc, .nilFunc, .nilFunc, .nilFunc, .nilFunc, .nilFunc, .nilFunc, .nilFunc, .nilFunc, .nilFunc, .nilFunc, .nilFunc, .nilFunc, .nilFunc, .nilFunc] 99)).setRow w.heap.size #[.nilFunc, .nilFunc, .nilFunc, .nilFunc, .nilFunc, .nilFunc, .nilFunc, .nilFunc, .nilFunc, .nilFunc, .nilFunc, .nilFunc, .nilFunc, .nilFunc, .nilFunc, .nilFunc, .nilFunc, .nilFunc, .nilFunc, .nilFunc, .func (.func 134) #[] #[], .func (.func 135) #[] #[], .func (.func 136) #[] #[], .func (.func 137) #[] #[], .func (.func 138) #[] #[], .nilFunc, .nilFunc, .nilFunc, .nilFunc, .nilFunc, .nilFunc, .nilFunc, .nilFunc, .nilFunc, .nilFunc, .nilFunc, .nilFunc, .nilFunc, .nilFunc, .nilFunc, .nilFunc, .nilFunc, .nilFunc, .nilFunc, .nilFunc]) = W9 at *; clear hW9)
  clear HG
  have hc := (cell_of_row _ _ 20 _ _ _ HW.out.row).trans (show shiftRow_u16[20]? = some (.func (.func 134) #[] #[]) from rfl)
  have KE := fun W => eqNo1_u16 (.func 134) #[] #[] W
  refine (CO.out _).mono ?_
  rintro e w2 ⟨rfl, rfl⟩
  go_wp2_with fail
  refine (highest_u16 _).mono ?_
  rintro e w2 ⟨rfl, rfl⟩
  go_wp2_with fail
  refine (CL.out _).mono ?_
  rintro e w2 ⟨rfl, e2⟩
  obtain rfl := e2
  go_wp2
  clear hn hL hmx
  go_loop [3, 12, 34] (fun fl v i => ∃ j : Nat, j ≤ n ∧ i = .int .i64 j ∧ v = .int .u16 (((g j).1 : Nat) : Int) ∧ fl = .int .i64 (g j).2) (fun _ _ i => n - (intOf i).toNat)
  case atStart => exact ⟨0, Nat.zero_le _, rfl, by rw [G0.out], by rw [G1.out]⟩
  case round =>
    obtain ⟨j, hj, rfl, rfl, rfl⟩ := hrel
    by_cases hlt : j < n
    · have CJ := Lib.hid (fun w => CX.out j w hlt)
      go_wp2_with fail
      refine (CJ.out _).mono ?_
      rintro e w3 ⟨rfl, rfl⟩
      go_wp2
      go_round
      case rel => exact ⟨j + 1, by omega, by go_num, rfl, rfl⟩
      case measure => simp [intOf]; omega
    · have e : j = n := by omega
      subst e
      go_wp2
      go_ret3
      exact ⟨rfl, HW.out.be⟩
set_option maxRecDepth 100000 in
set_option maxHeartbeats 1000000 in
theorem shift21_u16 (a b f : Int) (n : Nat) (hn : bits .and .i64 b 31 = (n : Int)) (hn64 : n < 64) (g : Nat → Nat × Int) (g0 : (((g 0).1 : Nat) : Int) = (IntKind.u16.wrap a)) (g1 : (g 0).2 = f) (CX : Hid (∀ i w, i < n → Calls Tryd.prog 135 #[.int .u16 (((g i).1 : Nat) : Int), .int .i64 (g i).2] w fun e w' => e = .returned (.tuple #[.int .u16 (((g (i + 1)).1 : Nat) : Int), .int .i64 (g (i + 1)).2]) ∧ w = w')) (w : World) : Calls Tryd.prog 49 #[.int .i64 21, .int .i64 a, .int .i64 b, .int .i64 f] w fun e w' => e = .returned (.tuple #[.int .i64 (wrap64 (((g n).1 : Nat) : Int)), .int .i64 (g n).2, .int .i64 0]) ∧ Below w.heap.size w w' := by
  have CO := Lib.hid (fun w => isOpYes 21 w (by decide) (by decide))
  have CL := Lib.hid (fun W => Tryd.bits_Len64 32768 W (by decide) (by decide))
  have hL : Lib.bitLen 32768 = 16 := by decide +kernel
  have hmx : max (15 : Int) 31 = 31 := by decide
  have G0 := Lib.hid g0; have G1 := Lib.hid g1
  clear g0 g1
  have HG := Lib.hid (show (w.alloc (.cells #[.nilFunc, .nilFunc, .nilFunc, .nilFunc, .nilFunc, .nilFunc, .nilFunc, .nilFunc, .nilFunc, .nilFunc, .nilFunc, .nilFunc, .nilFunc, .nilFunc, .nilFunc, .nilFunc, .nilFunc, .nilFunc, .nilFunc, .nilFunc, .nilFunc, .nilFunc, .nilFunc, .nilFunc, .nilFunc, .nilFunc, .nilFunc, .nilFunc, .nilFunc, .nilFunc, .nilFunc, .nilFunc, .nilFunc, .nilFunc, .nilFunc, .nilFunc, .nilFunc, .nilFunc, .nilFunc, .nilFunc, .nilFunc, .nilFunc, .nilFunc, .nilFunc, .nilFunc] 99)).heap[w.heap.size]? = some (.cells #[.nilFunc, .nilFunc, .nilFunc, .nilFunc, .nilFunc, .nilFunc, .nilFunc, .nilFunc, .nilFunc, .nilFunc, .nilFunc, .nilFunc, .nilFunc, .nilFunc, .nilFunc, .nilFunc, .nilFunc, .nilFunc, .nilFunc, .nilFunc, .nilFunc, .nilFunc, .nilFunc, .nilFunc, .nilFunc, .nilFunc, .nilFunc, .nilFunc, .nilFunc, .nilFunc, .nilFunc, .nilFunc, .nilFunc, .nilFunc, .nilFunc, .nilFunc, .nilFunc, .nilFunc, .nilFunc, .nilFunc, .nilFunc, .nilFunc, .nilFunc, .nilFunc, .nilFunc] 99 (0, 0)) from heap_alloc_new _ _)
  have HW := Lib.hid (shiftW_u16' w)
  go_enter Tryd.func49, Tryd.ntmps49
  go_wp2_with (refine wpList_store_row rfl 99 (.tmp 11) (.tmp 14) rfl w.heap.size #[.nilFunc, .nilFunc, .nilFunc, .nilFunc, .nilFunc, .nilFunc, .nilFunc, .nilFunc, .nilFunc, .nilFunc, .nilFunc, .nilFunc, .nilFunc, .nilFunc, .nilFunc, .nilFunc, .nilFunc, .nilFunc, .nilFunc, .nilFunc, .func (.func 134) #[] #[], .func (.func 135) #[] #[], .func (.func 136) #[] #[], .func (.func 137) #[] #[], .func (.func 138) #[] #[], .nilFunc, .nilFunc, .nilFunc, .nilFunc, .nilFunc, .nilFunc, .nilFunc, .nilFunc, .nilFunc, .nilFunc, .nilFunc, .nilFunc, .nilFunc, .nilFunc, .nilFunc, .nilFunc, .nilFunc, .nilFunc, .nilFunc, .nilFunc] rfl rfl 99 _ HG.out (by kernel_rfl) rfl (by simp [Value.oneCell']) ?_; generalize hW9 : ((w.alloc (.cells #[.nilFunc, .nilFunc, .nilFunc, .nilFunc, .nilFunc, .nilFunc, .nilFunc, .nilFunc, .nilFunc, .nilFunc, .nilFunc, .nilFunc, .nilFunc, .nilFunc, .nilFunc, .nilFunc, .nilFunc, .nilFunc, .nilFunc, .nilFunc, .nilFunc, .nilFunc, .nilFunc, .nilFunc, .nilFunc, .nilFunc, .nilFunc, .nilFunc, .nilFunc, .nilFunc, .nilFunc, .nilFunc, .nilFunc, .nilFunc, .nilFunc, .nilFunc, .nilFunc, .nilFunc, .nilFunc, .nilFunc, .nilFunc, .nilFunc, .nilFunc, .nilFunc, .nilFunc] 99)).setRow w.heap.size #[.nilFunc, .nilFunc, .nilFunc, .nilFunc, .nilFunc, .nilFunc, .nilFunc, .nilFunc, .nilFunc, .nilFunc, .nilFunc, .nilFunc, .nilFunc, .nilFunc, .nilFunc, .nilFunc, .nilFunc, .nilFunc, .nilFunc, .nilFunc, .func (.func 134) #[] #[], .func (.func 135) #[] #[], .func (.func 136) #[] #[], .func (.func 137) #[] #[], .func (.func 138) #[] #[], .nilFunc, .nilFunc, .nilFunc, .nilFunc, .nilFunc, .nilFunc, .nilFunc, .nilFunc, .nilFunc, .nilFunc, .nilFunc, .nilFunc, .nilFunc, .nilFunc, .nilFunc, .nilFunc, .nilFunc, .nilFunc, .nilFunc, .nilFunc]) = W9 at *; clear hW9)
  clear HG
  have hc := (cell_of_row _ _ 21 _ _ _ HW.out.row).trans (show shiftRow_u16[21]? = some (.func (.func 135) #[] #[]) from rfl)
  have KE := fun W => eqNo1_u16 (.func 135) #[] #[] W
  refine (CO.out _).mono ?_
  rintro e w2 ⟨rfl, rfl⟩
  go_wp2_with fail
  refine (highest_u16 _).mono ?_
  rintro e w2 ⟨rfl, rfl⟩
  go_wp2_with fail
  refine (CL.out _).mono ?_
  rintro e w2 ⟨rfl, e2⟩
  obtain rfl := e2
  go_wp2
  clear hn hL hmx
  go_loop [3, 12, 34] (fun fl v i => ∃ j : Nat, j ≤ n ∧ i = .int .i64 j ∧ v = .int .u16 (((g j).1 : Nat) : Int) ∧ fl = .int .i64 (g j).2) (fun _ _ i => n - (intOf i).toNat)
  case atStart => exact ⟨0, Nat.zero_le _, rfl, by rw [G0.out], by rw [G1.out]⟩
  case round =>
    obtain ⟨j, hj, rfl, rfl, rfl⟩ := hrel
    by_cases hlt : j < n
    · have CJ := Lib.hid (fun w => CX.out j w hlt)
      go_wp2_with fail
      refine (CJ.out _).mono ?_
      rintro e w3 ⟨rfl, rfl⟩
      go_wp2
      go_round
      case rel => exact ⟨j + 1, by omega, by go_num, rfl, rfl⟩
      case measure => simp [intOf]; omega
    · have e : j = n := by omega
      subst e
      go_wp2
      go_ret3
      exact ⟨rfl, HW.out.be⟩
set_option maxRecDepth 100000 in
set_option maxHeartbeats 1000000 in
theorem shift22_u16 (a b f : Int) (n : Nat) (hn : bits .and .i64 b 31 = (n : Int)) (hn64 : n < 64) (g : Nat → Nat × Int) (g0 : (((g 0).1 : Nat) : Int) = (IntKind.u16.wrap a)) (g1 : (g 0).2 = f) (CX : Hid (∀ i w, i < n → Calls Tryd.prog 136 #[.int .u16 (((g i).1 : Nat) : Int), .int .i64 (g i).2] w fun e w' => e = .returned (.tuple #[.int .u16 (((g (i + 1)).1 : Nat) : Int), .int .i64 (g (i + 1)).2]) ∧ w = w')) (w : World) : Calls Tryd.prog 49 #[.int .i64 22, .int .i64 a, .int .i64 b, .int .i64 f] w fun e w' => e = .returned (.tuple #[.int .i64 (wrap64 (((g n).1 : Nat) : Int)), .int .i64 (g n).2, .int .i64 0]) ∧ Below w.heap.size w w' := by
  have CO := Lib.hid (fun w => isOpYes 22 w (by decide) (by decide))
  have CL := Lib.hid (fun W => Tryd.bits_Len64 32768 W (by decide) (by decide))
  have hL : Lib.bitLen 32768 = 16 := by decide +kernel
  have hmx : max (15 : Int) 31 = 31 := by decide
  have G0 := Lib.hid g0; have G1 := Lib.hid g1
  clear g0 g1
  have HG := Lib.hid (show (w.alloc (.cells #[.nilFunc, .nilFunc, .nilFunc, .nilFunc, .nilFunc, .nilFunc, .nilFunc, .nilFunc, .nilFunc, .nilFunc, .nilFunc, .nilFunc, .nilFunc, .nilFunc, .nilFunc, .nilFunc, .nilFunc, .nilFunc, .nilFunc, .nilFunc, .nilFunc, .nilFunc, .nilFunc, .nilFunc, .nilFunc, .nilFunc, .nilFunc, .nilFunc, .nilFunc, .nilFunc, .nilFunc, .nilFunc, .nilFunc, .nilFunc, .nilFunc, .nilFunc, .nilFunc, .nilFunc, .nilFunc, .nilFunc, .nilFunc, .nilFunc, .nilFunc, .nilFunc, .nilFunc] 99)).heap[w.heap.size]? = some (.cells #[.nilFunc, .nilFunc, .nilFunc, .nilFunc, .nilFunc, .nilFunc, .nilFunc, .nilFunc, .nilFunc, .nilFunc, .nilFunc, .nilFunc, .nilFunc, .nilFunc, .nilFunc, .nilFunc, .nilFunc, .nilFunc, .nilFunc, .nilFunc, .nilFunc, .nilFunc, .nilFunc, .nilFunc, .nilFunc, .nilFunc, .nilFunc, .nilFunc, .nilFunc, .nilFunc, .nilFunc, .nilFunc, .nilFunc, .nilFunc, .nilFunc, .nilFunc, .nilFunc, .nilFunc, .nilFunc, .nilFunc, .nilFunc, .nilFunc, .nilFunc, .nilFunc, .nilFunc] 99 (0, 0)) from heap_alloc_new _ _)
  have HW := Lib.hid (shiftW_u16' w)
  go_enter Tryd.func49, Tryd.ntmps49
  go_wp2_with (refine wpList_store_row rfl 99 (.tmp 11) (.tmp 14) rfl w.heap.size #[.nilFunc, .nilFunc, .nilFunc, .nilFunc, .nilFunc, .nilFunc, .nilFunc, .nilFunc, .nilFunc, .nilFunc, .nilFunc, .nilFunc, .nilFunc, .nilFunc, .nilFunc, .nilFunc, .nilFunc, .nilFunc, .nilFunc, .nilFunc, .func (.func 134) #[] #[], .func (.func 135) #[] #[], .func (.func 136) #[] #[], .func (.func 137) #[] #[], .func (.func 138) #[] #[], .nilFunc, .nilFunc, .nilFunc, .nilFunc, .nilFunc, .nilFunc, .nilFunc, .nilFunc, .nilFunc, .nilFunc, .nilFunc, .nilFunc, .nilFunc, .nilFunc, .nilFunc, .nilFunc, .nilFunc, .nilFunc, .nilFunc, .nilFunc] rfl rfl 99 _ HG.out (by kernel_rfl) rfl (by simp [Value.oneCell']) ?_; generalize hW9 : ((w.alloc (.cells #[.nilFunc, .nilFunc, .nilFunc, .nilFunc, .nilFunc, .nilFunc, .nilFunc, .nilFunc, .nilFunc, .nilFunc, .nilFunc, .nilFunc, .nilFunc, .nilFunc, .nilFunc, .nilFunc, .nilFunc, .nilFunc, .nilFunc, .nilFunc, .nilFunc, .nilFunc, .nilFunc, .nilFunc, .nilFunc, .nilFunc, .nilFunc, .nilFunc, .nilFunc, .nilFunc, .nilFunc, .nilFunc, .nilFunc, .nilFunc, .nilFunc, .nilFunc, .nilFunc, .nilFunc, .nilFunc, .nilFunc, .nilFunc, .nilFunc, .nilFunc, .nilFunc, .nilFunc] 99)).setRow w.heap.size #[.nilFunc, .nilFunc, .nilFunc, .nilFunc, .nilFunc, .nilFunc, .nilFunc, .nilFunc, .nilFunc, .nilFunc, .nilFunc, .nilFunc, .nilFunc, .nilFunc, .nilFunc, .nilFunc, .nilFunc, .nilFunc, .nilFunc, .nilFunc, .func (.func 134) #[] #[], .func (.func 135) #[] #[], .func (.func 136) #[] #[], .func (.func 137) #[] #[], .func (.func 138) #[] #[], .nilFunc, .nilFunc, .nilFunc, .nilFunc, .nilFunc, .nilFunc, .nilFunc, .nilFunc, .nilFunc, .nilFunc, .nilFunc, .nilFunc, .nilFunc, .nilFunc, .nilFunc, .nilFunc, .nilFunc, .nilFunc, .nilFunc, .nilFunc]) = W9 at *; clear hW9)
  clear HG
  have hc := (cell_of_row _ _ 22 _ _ _ HW.out.row).trans (show shiftRow_u16[22]? = some (.func (.func 136) #[] #[]) from rfl)
  have KE := fun W => eqNo1_u16 (.func 136) #[] #[] W
  refine (CO.out _).mono ?_
  rintro e w2 ⟨rfl, rfl⟩
  go_wp2_with fail
  refine (highest_u16 _).mono ?_
  rintro e w2 ⟨rfl, rfl⟩
  go_wp2_with fail
  refine (CL.out _).mono ?_
  rintro e w2 ⟨rfl, e2⟩
  obtain rfl := e2
  go_wp2
  clear hn hL hmx
  go_loop [3, 12, 34] (fun fl v i => ∃ j : Nat, j ≤ n ∧ i = .int .i64 j ∧ v = .int .u16 (((g j).1 : Nat) : Int) ∧ fl = .int .i64 (g j).2) (fun _ _ i => n - (intOf i).toNat)
  case atStart => exact ⟨0, Nat.zero_le _, rfl, by rw [G0.out], by rw [G1.out]⟩
  case round =>
    obtain ⟨j, hj, rfl, rfl, rfl⟩ := hrel
    by_cases hlt : j < n
    · have CJ := Lib.hid (fun w => CX.out j w hlt)
      go_wp2_with fail
      refine (CJ.out _).mono ?_
      rintro e w3 ⟨rfl, rfl⟩
      go_wp2
      go_round
      case rel => exact ⟨j + 1, by omega, by go_num, rfl, rfl⟩
      case measure => simp [intOf]; omega
    · have e : j = n := by omega
      subst e
      go_wp2
      go_ret3
      exact ⟨rfl, HW.out.be⟩
set_option maxRecDepth 100000 in
set_option maxHeartbeats 1000000 in
theorem shift23_u16 (a b f : Int) (n : Nat) (hn : bits .and .i64 b 31 = (n : Int)) (hn64 : n < 64) (g : Nat → Nat × Int) (g0 : (((g 0).1 : Nat) : Int) = (IntKind.u16.wrap a)) (g1 : (g 0).2 = f) (CX : Hid (∀ i w, i < n → Calls Tryd.prog 137 #[.int .u16 (((g i).1 : Nat) : Int), .int .i64 (g i).2] w fun e w' => e = .returned (.tuple #[.int .u16 (((g (i + 1)).1 : Nat) : Int), .int .i64 (g (i + 1)).2]) ∧ w = w')) (w : World) : Calls Tryd.prog 49 #[.int .i64 23, .int .i64 a, .int .i64 b, .int .i64 f] w fun e w' => e = .returned (.tuple #[.int .i64 (wrap64 (((g n).1 : Nat) : Int)), .int .i64 (g n).2, .int .i64 0]) ∧ Below w.heap.size w w' := by
  have CO := Lib.hid (fun w => isOpYes 23 w (by decide) (by decide))
  have CL := Lib.hid (fun W => Tryd.bits_Len64 32768 W (by decide) (by decide))
  have hL : Lib.bitLen 32768 = 16 := by decide +kernel
  have hmx : max (15 : Int) 31 = 31 := by decide
  have G0 := Lib.hid g0; have G1 := Lib.hid g1
  clear g0 g1
  have HG := Lib.hid (show (w.alloc (.cells #[.nilFunc, .nilFunc, .nilFunc, .nilFunc, .nilFunc, .nilFunc, .nilFunc, .nilFunc, .nilFunc, .nilFunc, .nilFunc, .nilFunc, .nilFunc, .nilFunc, .nilFunc, .nilFunc, .nilFunc, .nilFunc, .nilFunc, .nilFunc, .nilFunc, .nilFunc, .nilFunc, .nilFunc, .nilFunc, .nilFunc, .nilFunc, .nilFunc, .nilFunc, .nilFunc, .nilFunc, .nilFunc, .nilFunc, .nilFunc, .nilFunc, .nilFunc, .nilFunc, .nilFunc, .nilFunc, .nilFunc, .nilFunc, .nilFunc, .nilFunc, .nilFunc, .nilFunc] 99)).heap[w.heap.size]? = some (.cells #[.nilFunc, .nilFunc, .nilFunc, .nilFunc, .nilFunc, .nilFunc, .nilFunc, .nilFunc, .nilFunc, .nilFunc, .nilFunc, .nilFunc, .nilFunc, .nilFunc, .nilFunc, .nilFunc, .nilFunc, .nilFunc, .nilFunc, .nilFunc, .nilFunc, .nilFunc, .nilFunc, .nilFunc, .nilFunc, .nilFunc, .nilFunc, .nilFunc, .nilFunc, .nilFunc, .nilFunc, .nilFunc, .nilFunc, .nilFunc, .nilFunc, .nilFunc, .nilFunc, .nilFunc, .nilFunc, .nilFunc, .nilFunc, .nilFunc, .nilFunc, .nilFunc, .nilFunc] 99 (0, 0)) from heap_alloc_new _ _)
  have HW := Lib.hid (shiftW_u16' w)
  go_enter Tryd.func49, Tryd.ntmps49
  go_wp2_with (refine wpList_store_row rfl 99 (.tmp 11) (.tmp 14) rfl w.heap.size #[.nilFunc, .nilFunc, .nilFunc, .nilFunc, .nilFunc, .nilFunc, .nilFunc, .nilFunc, .nilFunc, .nilFunc, .nilFunc, .nilFunc, .nilFunc, .nilFunc, .nilFunc, .nilFunc, .nilFunc, .nilFunc, .nilFunc, .nilFunc, .func (.func 134) #[] #[], .func (.func 135) #[] #[], .func (.func 136) #[] #[], .func (.func 137) #[] #[], .func (.func 138) #[] #[], .nilFunc, .nilFunc, .nilFunc, .nilFunc, .nilFunc, .nilFunc, .nilFunc, .nilFunc, .nilFunc, .nilFunc, .nilFunc, .nilFunc, .nilFunc, .nilFunc, .nilFunc, .nilFunc, .nilFunc, .nilFunc, .nilFunc, .nilFunc] rfl rfl 99 _ HG.out (by kernel_rfl) rfl (by simp [Value.oneCell']) ?_; generalize hW9 : ((w.alloc (.cells #[.nilFunc, .nilFunc, .nilFunc, .nilFunc, .nilFunc, .nilFunc, .nilFunc, .nilFunc, .nilFunc, .nilFunc, .nilFunc, .nilFunc, .nilFunc, .nilFunc, .nilFunc, .nilFunc, .nilFunc, .nilFunc, .nilFunc, .nilFunc, .nilFunc, .nilFunc, .nilFunc, .nilFunc, .nilFunc, .nilFunc, .nilFunc, .nilFunc, .nilFunc, .nilFunc, .nilFunc, .nilFunc, .nilFunc, .nilFunc, .nilFunc, .nilFunc, .nilFunc, .nilFunc, .nilFunc, .nilFunc, .nilFunc, .nilFunc, .nilFunc, .nilFunc, .nilFunc] 99)).setRow w.heap.size #[.nilFunc, .nilFunc, .nilFunc, .nilFunc, .nilFunc, .nilFunc, .nilFunc, .nilFunc, .nilFunc, .nilFunc, .nilFunc, .nilFunc, .nilFunc, .nilFunc, .nilFunc, .nilFunc, .nilFunc, .nilFunc, .nilFunc, .nilFunc, .func (.func 134) #[] #[], .func (.func 135) #[] #[], .func (.func 136) #[] #[], .func (.func 137) #[] #[], .func (.func 138) #[] #[], .nilFunc, .nilFunc, .nilFunc, .nilFunc, .nilFunc, .nilFunc, .nilFunc, .nilFunc, .nilFunc, .nilFunc, .nilFunc, .nilFunc, .nilFunc, .nilFunc, .nilFunc, .nilFunc, .nilFunc, .nilFunc, .nilFunc, .nilFunc]) = W9 at *; clear hW9)
  clear HG
  have hc := (cell_of_row _ _ 23 _ _ _ HW.out.row).trans (show shiftRow_u16[23]? = some (.func (.func 137) #[] #[]) from rfl)
  have KE := fun W => eqNo1_u16 (.func 137) #[] #[] W
  refine (CO.out _).mono ?_
  rintro e w2 ⟨rfl, rfl⟩
  go_wp2_with fail
  refine (highest_u16 _).mono ?_
  rintro e w2 ⟨rfl, rfl⟩
  go_wp2_with fail
  refine (CL.out _).mono ?_
  rintro e w2 ⟨rfl, e2⟩
  obtain rfl := e2
  go_wp2
  clear hn hL hmx
  go_loop [3, 12, 34] (fun fl v i => ∃ j : Nat, j ≤ n ∧ i = .int .i64 j ∧ v = .int .u16 (((g j).1 : Nat) : Int) ∧ fl = .int .i64 (g j).2) (fun _ _ i => n - (intOf i).toNat)
  case atStart => exact ⟨0, Nat.zero_le _, rfl, by rw [G0.out], by rw [G1.out]⟩
  case round =>
    obtain ⟨j, hj, rfl, rfl, rfl⟩ := hrel
    by_cases hlt : j < n
    · have CJ := Lib.hid (fun w => CX.out j w hlt)
      go_wp2_with fail
      refine (CJ.out _).mono ?_
      rintro e w3 ⟨rfl, rfl⟩
      go_wp2
      go_round
      case rel => exact ⟨j + 1, by omega, by go_num, rfl, rfl⟩
      case measure => simp [intOf]; omega
    · have e : j = n := by omega
      subst e
      go_wp2
      go_ret3
      exact ⟨rfl, HW.out.be⟩
set_option maxRecDepth 100000 in
set_option maxHeartbeats 1000000 in
theorem shift24_u16 (a b f : Int) (n : Nat) (hn : bits .and .i64 b 31 = (n : Int)) (hn64 : n < 64) (g : Nat → Nat × Int) (g0 : (((g 0).1 : Nat) : Int) = (IntKind.u16.wrap a)) (g1 : (g 0).2 = f) (CX : Hid (∀ i w, i < n → Calls Tryd.prog 138 #[.int .u16 (((g i).1 : Nat) : Int), .int .i64 (g i).2] w fun e w' => e = .returned (.tuple #[.int .u16 (((g (i + 1)).1 : Nat) : Int), .int .i64 (g (i + 1)).2]) ∧ w = w')) (w : World) : Calls Tryd.prog 49 #[.int .i64 24, .int .i64 a, .int .i64 b, .int .i64 f] w fun e w' => e = .returned (.tuple #[.int .i64 (wrap64 (((g n).1 : Nat) : Int)), .int .i64 (g n).2, .int .i64 0]) ∧ Below w.heap.size w w' := by
  have CO := Lib.hid (fun w => isOpYes 24 w (by decide) (by decide))
  have CL := Lib.hid (fun W => Tryd.bits_Len64 32768 W (by decide) (by decide))
  have hL : Lib.bitLen 32768 = 16 := by decide +kernel
  have hmx : max (15 : Int) 31 = 31 := by decide
  have G0 := Lib.hid g0; have G1 := Lib.hid g1
  clear g0 g1
  have HG := Lib.hid (show (w.alloc (.cells #[.nilFunc, .nilFunc, .nilFunc, .nilFunc, .nilFunc, .nilFunc, .nilFunc, .nilFunc, .nilFunc, .nilFunc, .nilFunc, .nilFunc, .nilFunc, .nilFunc, .nilFunc, .nilFunc, .nilFunc, .nilFunc, .nilFunc, .nilFunc, .nilFunc, .nilFunc, .nilFunc, .nilFunc, .nilFunc, .nilFunc, .nilFunc, .nilFunc, .nilFunc, .nilFunc, .nilFunc, .nilFunc, .nilFunc, .nilFunc, .nilFunc, .nilFunc, .nilFunc, .nilFunc, .nilFunc, .nilFunc, .nilFunc, .nilFunc, .nilFunc, .nilFunc, .nilFunc] 99)).heap[w.heap.size]? = some (.cells #[.nilFunc, .nilFunc, .nilFunc, .nilFunc, .nilFunc, .nilFunc, .nilFunc, .nilFunc, .nilFunc, .nilFunc, .nilFunc, .nilFunc, .nilFunc, .nilFunc, .nilFunc, .nilFunc, .nilFunc, .nilFunc, .nilFunc, .nilFunc, .nilFunc, .nilFunc, .nilFunc, .nilFunc, .nilFunc, .nilFunc, .nilFunc, .nilFunc, .nilFunc, .nilFunc, .nilFunc, .nilFunc, .nilFunc, .nilFunc, .nilFunc, .nilFunc, .nilFunc, .nilFunc, .nilFunc, .nilFunc, .nilFunc, .nilFunc, .nilFunc, .nilFunc, .nilFunc] 99 (0, 0)) from heap_alloc_new _ _)
  have HW := Lib.hid (shiftW_u16' w)
  go_enter Tryd.func49, Tryd.ntmps49
  go_wp2_with (refine wpList_store_row rfl 99 (.tmp 11) (.tmp 14) rfl w.heap.size #[.nilFunc, .nilFunc, .nilFunc, .nilFunc, .nilFunc, .nilFunc, .nilFunc, .nilFunc, .nilFunc, .nilFunc, .nilFunc, .nilFunc, .nilFunc, .nilFunc, .nilFunc, .nilFunc, .nilFunc, .nilFunc, .nilFunc, .nilFunc, .func (.func 134) #[] #[], .func (.func 135) #[] #[], .func (.func 136) #[] #[], .func (.func 137) #[] #[], .func (.func 138) #[] #[], .nilFunc, .nilFunc, .nilFunc, .nilFunc, .nilFunc, .nilFunc, .nilFunc, .nilFunc, .nilFunc, .nilFunc, .nilFunc, .nilFunc, .nilFunc, .nilFunc, .nilFunc, .nilFunc, .nilFunc, .nilFunc, .nilFunc, .nilFunc] rfl rfl 99 _ HG.out (by kernel_rfl) rfl (by simp [Value.oneCell']) ?_; generalize hW9 : ((w.alloc (.cells #[.nilFunc, .nilFunc, .nilFunc, .nilFunc, .nilFunc, .nilFunc, .nilFunc, .nilFunc, .nilFunc, .nilFunc, .nilFunc, .nilFunc, .nilFunc, .nilFunc, .nilFunc, .nilFunc, .nilFunc, .nilFunc, .nilFunc, .nilFunc, .nilFunc, .nilFunc, .nilFunc, .nilFunc, .nilFunc, .nilFunc, .nilFunc, .nilFunc, .nilFunc, .nilFunc, .nilFunc, .nilFunc, .nilFunc, .nilFunc, .nilFunc, .nilFunc, .nilFunc, .nilFunc, .nilFunc, .nilFunc, .nilFunc, .nilFunc, .nilFunc, .nilFunc, .nilFunc] 99)).setRow w.heap.size #[.nilFunc, .nilFunc, .nilFunc, .nilFunc, .nilFunc, .nilFunc, .nilFunc, .nilFunc, .nilFunc, .nilFunc, .nilFunc, .nilFunc, .nilFunc, .nilFunc, .nilFunc, .nilFunc, .nilFunc, .nilFunc, .nilFunc, .nilFunc, .func (.func 134) #[] #[], .func (.func 135) #[] #[], .func (.func 136) #[] #[], .func (.func 137) #[] #[], .func (.func 138) #[] #[], .nilFunc, .nilFunc, .nilFunc, .nilFunc, .nilFunc, .nilFunc, .nilFunc, .nilFunc, .nilFunc, .nilFunc, .nilFunc, .nilFunc, .nilFunc, .nilFunc, .nilFunc, .nilFunc, .nilFunc, .nilFunc, .nilFunc, .nilFunc]) = W9 at *; clear hW9)
  clear HG
  have hc := (cell_of_row _ _ 24 _ _ _ HW.out.row).trans (show shiftRow_u16[24]? = some (.func (.func 138) #[] #[]) from rfl)
  have KE := fun W => eqNo1_u16 (.func 138) #[] #[] W
  refine (CO.out _).mono ?_
  rintro e w2 ⟨rfl, rfl⟩
  go_wp2_with fail
  refine (highest_u16 _).mono ?_
  rintro e w2 ⟨rfl, rfl⟩
  go_wp2_with fail
  refine (CL.out _).mono ?_
  rintro e w2 ⟨rfl, e2⟩
  obtain rfl := e2
  go_wp2
  clear hn hL hmx
  go_loop [3, 12, 34] (fun fl v i => ∃ j : Nat, j ≤ n ∧ i = .int .i64 j ∧ v = .int .u16 (((g j).1 : Nat) : Int) ∧ fl = .int .i64 (g j).2) (fun _ _ i => n - (intOf i).toNat)
  case atStart => exact ⟨0, Nat.zero_le _, rfl, by rw [G0.out], by rw [G1.out]⟩
  case round =>
    obtain ⟨j, hj, rfl, rfl, rfl⟩ := hrel
    by_cases hlt : j < n
    · have CJ := Lib.hid (fun w => CX.out j w hlt)
      go_wp2_with fail
      refine (CJ.out _).mono ?_
      rintro e w3 ⟨rfl, rfl⟩
      go_wp2
      go_round
      case rel => exact ⟨j + 1, by omega, by go_num, rfl, rfl⟩
      case measure => simp [intOf]; omega
    · have e : j = n := by omega
      subst e
      go_wp2
      go_ret3
      exact ⟨rfl, HW.out.be⟩
end Go.Proofs.YtifpcfhfglkbcaaDoor
