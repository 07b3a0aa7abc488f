/-
  What one and shift of impl/l06_flags.go answer for numbers of 8 bits; conditions: those in each head.
-/
import Derived.Test.YtifpcfhfglkbcaaDoorWalkFlB8
import Derived.Great.Walk
namespace Go.Proofs.YtifpcfhfglkbcaaDoor
open Go.RowKit
set_option linter.unusedVariables false
set_option linter.unusedSimpArgs false
/-- now's flags, but for the carry, which is that of the flags ahead -/
def keepF (now f : Int) : Int := bits .or .i64 (bits .andNot .i64 now 1) (bits .and .i64 f 1)
theorem ret_kf {k : IntKind} {a b : Int} {c : Int} (h : a = b) : Ending.returned (.tuple #[.int k a, .int .i64 c]) = .returned (.tuple #[.int k b, .int .i64 c]) := by rw [h]
theorem pow_n (a b : Nat) (h : a = b) : (a : Int) = (b : Int) := by rw [h]
theorem hi_dec {w X : Nat} {h x : Int} (hh : h = ((2 ^ (w - 1) : Nat) : Int)) (hx : x = (X : Int)) : decide (h ≤ x) = hiB w X := by
  subst hh hx; unfold hiB; exact decide_eq_decide.mpr Int.ofNat_le
theorem od_and {k : IntKind} (hk : k.signed = false) (hb : 1 < 2 ^ k.bits) {X : Nat} (h : X < 2 ^ k.bits) : (bits .and k (X : Int) 1 == 1) = odB X := by
  have e := bAnd hk h hb
  have e2 : ((1 : Nat) : Int) = 1 := rfl
  rw [e2] at e
  rw [e, Nat.and_one_is_mod]
  unfold odB
  rcases (by omega : X % 2 = 0 ∨ X % 2 = 1) with h | h <;> rw [h] <;> rfl
theorem wcar_c {f : Int} {a b c d : Bool} (h : a = c) (h2 : b = d) : wCar f a b = wCar f c d := by rw [h, h2]
theorem szf_eq {w X : Nat} (c o : Bool) : wCar (szp w X) c o = shF w X c o := by unfold szp; rw [wCar_eq]; rfl
set_option maxHeartbeats 400000 in
theorem turn_u8 (X : Nat) (f : Int) (hX : X < 2 ^ 8) (w : World) : Calls Tryd.prog 110 #[.int .u8 (X : Int), .int .i64 f] w fun e w' => e = .returned (.tuple #[.int .u8 ((2 ^ 8 - 1 - X : Nat) : Int), .int .i64 (f)]) ∧ w = w' := by
  obtain ⟨x, hx⟩ : ∃ x : Int, x = (X : Int) := ⟨_, rfl⟩
  rw [← hx]
  have x0 : 0 ≤ x := by omega
  have x1 : x ≤ 255 := by omega
  have HX := Lib.hid hx; have LX := Lib.hid hX
  clear hx hX
  go_enter Tryd.func110, Tryd.ntmps110
  go_wp2
  go_ret2
  exact ⟨ret_kf (by rw [HX.out]; exact bNot (k := .u8) rfl LX.out), rfl⟩
set_option maxHeartbeats 400000 in
theorem negate_u8 (X : Nat) (f : Int) (hX : X < 2 ^ 8) (w : World) : Calls Tryd.prog 111 #[.int .u8 (X : Int), .int .i64 f] w fun e w' => e = .returned (.tuple #[.int .u8 ((difN 8 0 X 0 : Nat) : Int), .int .i64 (difF 8 0 X 0)]) ∧ w = w' := by
  have CP := Lib.hid (show ∀ w, Calls Tryd.prog 175 #[.int .u8 0, .int .u8 (X : Int), .int .u8 0] w fun e w' => e = .returned (.tuple #[.int .u8 ((difN 8 0 X 0 : Nat) : Int), .int .i64 (difF 8 0 X 0)]) ∧ w = w' from fun w => minus_u8 0 X 0 (by decide) hX (by decide) w)
  clear hX
  go_enter Tryd.func111, Tryd.ntmps111
  go_wp2_with fail
  refine (CP.out _).mono ?_
  rintro e w1 ⟨rfl, rfl⟩
  go_wp2
  go_ret2
  exact ⟨rfl, rfl⟩
set_option maxHeartbeats 400000 in
theorem increase_u8 (X : Nat) (f : Int) (hX : X < 2 ^ 8) (w : World) : Calls Tryd.prog 112 #[.int .u8 (X : Int), .int .i64 f] w fun e w' => e = .returned (.tuple #[.int .u8 ((sumN 8 X 1 0 : Nat) : Int), .int .i64 (keepF (sumF 8 X 1 0) f)]) ∧ w = w' := by
  have CP := Lib.hid (show ∀ w, Calls Tryd.prog 174 #[.int .u8 (X : Int), .int .u8 1, .int .u8 0] w fun e w' => e = .returned (.tuple #[.int .u8 ((sumN 8 X 1 0 : Nat) : Int), .int .i64 (sumF 8 X 1 0)]) ∧ w = w' from fun w => plus_u8 X 1 0 hX (by decide) (by decide) w)
  clear hX
  go_enter Tryd.func112, Tryd.ntmps112
  go_wp2_with fail
  refine (CP.out _).mono ?_
  rintro e w1 ⟨rfl, rfl⟩
  go_wp2
  go_ret2
  exact ⟨rfl, rfl⟩
set_option maxHeartbeats 400000 in
theorem decrease_u8 (X : Nat) (f : Int) (hX : X < 2 ^ 8) (w : World) : Calls Tryd.prog 113 #[.int .u8 (X : Int), .int .i64 f] w fun e w' => e = .returned (.tuple #[.int .u8 ((difN 8 X 1 0 : Nat) : Int), .int .i64 (keepF (difF 8 X 1 0) f)]) ∧ w = w' := by
  have CP := Lib.hid (show ∀ w, Calls Tryd.prog 175 #[.int .u8 (X : Int), .int .u8 1, .int .u8 0] w fun e w' => e = .returned (.tuple #[.int .u8 ((difN 8 X 1 0 : Nat) : Int), .int .i64 (difF 8 X 1 0)]) ∧ w = w' from fun w => minus_u8 X 1 0 hX (by decide) (by decide) w)
  clear hX
  go_enter Tryd.func113, Tryd.ntmps113
  go_wp2_with fail
  refine (CP.out _).mono ?_
  rintro e w1 ⟨rfl, rfl⟩
  go_wp2
  go_ret2
  exact ⟨rfl, rfl⟩
set_option maxHeartbeats 400000 in
theorem shiftLeft_u8 (X : Nat) (f : Int) (hX : X < 2 ^ 8) (w : World) : Calls Tryd.prog 129 #[.int .u8 (X : Int), .int .i64 f] w fun e w' => e = .returned (.tuple #[.int .u8 ((shlN 8 X : Nat) : Int), .int .i64 (shF 8 (shlN 8 X) (hiB 8 X) (hiB 8 (shlN 8 X) != hiB 8 X))]) ∧ w = w' := by
  obtain ⟨x, hx⟩ : ∃ x : Int, x = (X : Int) := ⟨_, rfl⟩
  rw [← hx]
  have x0 : 0 ≤ x := by omega
  have x1 : x ≤ 255 := by omega
  have HX := Lib.hid hx; have LX := Lib.hid hX
  clear hx hX
  have CH := Lib.hid isHigh_u8
  go_enter Tryd.func129, Tryd.ntmps129
  go_wp2_with fail
  refine (CH.out _ _).mono ?_
  rintro e w1 ⟨rfl, rfl⟩
  go_wp2_with fail
  refine (flagsOf_u8 _ (by first | omega | (rw [wU8]; omega) | exact (bits_bd _ .u8 rfl _ _).1) (by first | omega | (rw [wU8]; omega) | exact Int.le_of_lt_add_one (bits_bd _ .u8 rfl _ _).2) _).mono ?_
  rintro e w1 ⟨rfl, rfl⟩
  go_wp2_with fail
  refine (CH.out _ _).mono ?_
  rintro e w1 ⟨rfl, rfl⟩
  go_wp2_with fail
  refine (withCarryC _ _ _ _).mono ?_
  rintro e w1 ⟨rfl, rfl⟩
  go_wp2
  go_ret2
  have hm : x * 2 % 256 = ((shlN 8 X : Nat) : Int) := by unfold shlN; rw [HX.out]; omega
  have hi := hi_dec (w := 8) (h := 128) (by decide +kernel) HX.out
  try simp only [wU8]
  rw [hm, hi, szp_eq (w := 8) (by decide +kernel) rfl, hi_dec (w := 8) (h := 128) (by decide +kernel) rfl, szf_eq]
  exact ⟨rfl, by first | rfl | trivial⟩
set_option maxHeartbeats 400000 in
theorem shiftRight_u8 (X : Nat) (f : Int) (hX : X < 2 ^ 8) (w : World) : Calls Tryd.prog 130 #[.int .u8 (X : Int), .int .i64 f] w fun e w' => e = .returned (.tuple #[.int .u8 ((X / 2 : Nat) : Int), .int .i64 (shF 8 (X / 2) (odB X) (hiB 8 X))]) ∧ w = w' := by
  have hod := Lib.hid (od_and (k := .u8) rfl (by decide) hX)
  obtain ⟨x, hx⟩ : ∃ x : Int, x = (X : Int) := ⟨_, rfl⟩
  rw [← hx]
  have x0 : 0 ≤ x := by omega
  have x1 : x ≤ 255 := by omega
  have HX := Lib.hid hx; have LX := Lib.hid hX
  clear hx hX
  rw [← HX.out] at hod
  have CH := Lib.hid isHigh_u8
  have CO := Lib.hid isOdd_u8
  go_enter Tryd.func130, Tryd.ntmps130
  go_wp2_with (first | (go_at_call 71; refine (flagsOf_u8 _ (by first | omega | (rw [wU8]; omega) | exact (bits_bd _ .u8 rfl _ _).1) (by first | omega | (rw [wU8]; omega) | exact Int.le_of_lt_add_one (bits_bd _ .u8 rfl _ _).2) _).mono ?_; rintro e w1 ⟨rfl, rfl⟩) | (go_at_call 186; refine (CO.out _ _).mono ?_; rintro e w1 ⟨rfl, rfl⟩) | (go_at_call 169; refine (CH.out _ _).mono ?_; rintro e w1 ⟨rfl, rfl⟩) | (go_at_call 59; refine (withCarryC _ _ _ _).mono ?_; rintro e w1 ⟨rfl, rfl⟩))
  go_ret2
  have hv : x / 2 = ((X / 2 : Nat) : Int) := by rw [HX.out]; omega
  have hi := hi_dec (w := 8) (h := 128) (by decide +kernel) HX.out
  refine ⟨ret_kt hv ?_, by first | rfl | trivial⟩
  rw [hv, hi, szp_eq (w := 8) (by decide +kernel) rfl, szf_eq, hod.out]
set_option maxHeartbeats 400000 in
theorem shiftRightSigned_u8 (X : Nat) (f : Int) (hX : X < 2 ^ 8) (w : World) : Calls Tryd.prog 131 #[.int .u8 (X : Int), .int .i64 f] w fun e w' => e = .returned (.tuple #[.int .u8 ((sarN 8 X : Nat) : Int), .int .i64 (shF 8 (sarN 8 X) (odB X) false)]) ∧ w = w' := by
  have hod := Lib.hid (od_and (k := .u8) rfl (by decide) hX)
  have hs : bits .or .u8 ((X / 2 : Nat) : Int) (bits .and .u8 (X : Int) ((2 ^ 7 : Nat) : Int)) = ((sarN 8 X : Nat) : Int) := by
    have h2 := half_lt (w := 8) (by decide) hX
    rw [bAnd (k := .u8) rfl hX (by decide), bOr (k := .u8) rfl (Nat.lt_of_lt_of_le h2 (by decide)) (Nat.and_lt_two_pow X (by decide : 2 ^ 7 < 2 ^ 8)), and_top (w := 8) (by decide) hX]
    unfold sarN; cases hiB 8 X
    · simp
    · exact pow_n _ _ (or_top h2)
  have hs := Lib.hid hs
  obtain ⟨x, hx⟩ : ∃ x : Int, x = (X : Int) := ⟨_, rfl⟩
  rw [← hx]
  have x0 : 0 ≤ x := by omega
  have x1 : x ≤ 255 := by omega
  have HX := Lib.hid hx; have LX := Lib.hid hX
  clear hx hX
  rw [← HX.out] at hod hs
  have CH := Lib.hid isHigh_u8
  have CO := Lib.hid isOdd_u8
  go_enter Tryd.func131, Tryd.ntmps131
  go_wp2_with (first | (go_at_call 71; refine (flagsOf_u8 _ (by first | omega | (rw [wU8]; omega) | exact (bits_bd _ .u8 rfl _ _).1) (by first | omega | (rw [wU8]; omega) | exact Int.le_of_lt_add_one (bits_bd _ .u8 rfl _ _).2) _).mono ?_; rintro e w1 ⟨rfl, rfl⟩) | (go_at_call 186; refine (CO.out _ _).mono ?_; rintro e w1 ⟨rfl, rfl⟩) | (go_at_call 169; refine (CH.out _ _).mono ?_; rintro e w1 ⟨rfl, rfl⟩) | (go_at_call 59; refine (withCarryC _ _ _ _).mono ?_; rintro e w1 ⟨rfl, rfl⟩) | (go_at_call 133; refine (highest_u8 _).mono ?_; rintro e w1 ⟨rfl, rfl⟩))
  go_ret2
  have hv : x / 2 = ((X / 2 : Nat) : Int) := by rw [HX.out]; omega
  have hs2 : bits .or .u8 (x / 2) (bits .and .u8 x 128) = ((sarN 8 X : Nat) : Int) := by rw [hv]; exact hs.out
  refine ⟨ret_kt hs2 ?_, by first | rfl | trivial⟩
  rw [hs2, szp_eq (w := 8) (by decide +kernel) rfl, szf_eq, hod.out]
set_option maxHeartbeats 400000 in
theorem rotateLeft_u8 (X : Nat) (f : Int) (hX : X < 2 ^ 8) (w : World) : Calls Tryd.prog 127 #[.int .u8 (X : Int), .int .i64 f] w fun e w' => e = .returned (.tuple #[.int .u8 ((rolN 8 X : Nat) : Int), .int .i64 (wCar f (hiB 8 X) (hiB 8 (rolN 8 X) != hiB 8 X))]) ∧ w = w' := by
  have hr : hiB 8 X = true → bits .or .u8 ((shlN 8 X : Nat) : Int) 1 = ((rolN 8 X : Nat) : Int) := by
    intro e
    have := bOr (k := .u8) rfl (shlN_lt 8 X) (show 1 < 2 ^ 8 by decide)
    refine this.trans (pow_n _ _ ?_)
    unfold rolN; rw [e]; exact or_one (dbl_even (by decide) X)
  have hn : hiB 8 X = false → shlN 8 X = rolN 8 X := by intro e; unfold rolN; rw [e]; rfl
  have hr := Lib.hid hr; have hn := Lib.hid hn
  obtain ⟨x, hx⟩ : ∃ x : Int, x = (X : Int) := ⟨_, rfl⟩
  rw [← hx]
  have x0 : 0 ≤ x := by omega
  have x1 : x ≤ 255 := by omega
  have HX := Lib.hid hx; have LX := Lib.hid hX
  clear hx hX
  have CH := Lib.hid isHigh_u8
  have hm0 : x * 2 % 256 = ((shlN 8 X : Nat) : Int) := by unfold shlN; rw [HX.out]; omega
  have hm := Lib.hid hm0; clear hm0
  have hi0 := hi_dec (w := 8) (h := 128) (by decide +kernel) HX.out
  have hi := Lib.hid hi0; clear hi0
  obtain ⟨b, hb⟩ : ∃ b, b = hiB 8 X := ⟨_, rfl⟩
  have HB := Lib.hid hb
  clear hb
  cases b
  · have hd : decide (128 ≤ x) = false := hi.out.trans HB.out.symm
    go_enter Tryd.func127, Tryd.ntmps127
    go_wp2_with (first | (go_at_call 71; refine (flagsOf_u8 _ (by first | omega | (rw [wU8]; omega) | exact (bits_bd _ .u8 rfl _ _).1) (by first | omega | (rw [wU8]; omega) | exact Int.le_of_lt_add_one (bits_bd _ .u8 rfl _ _).2) _).mono ?_; rintro e w1 ⟨rfl, rfl⟩) | (go_at_call 186; refine (CH.out _ _).mono ?_; rintro e w1 ⟨rfl, rfl⟩) | (go_at_call 169; refine (CH.out _ _).mono ?_; rintro e w1 ⟨rfl, rfl⟩) | (go_at_call 59; refine (withCarryC _ _ _ _).mono ?_; rintro e w1 ⟨rfl, rfl⟩) | (go_at_call 133; refine (highest_u8 _).mono ?_; rintro e w1 ⟨rfl, rfl⟩))
    go_ret2
    try simp only [wU8]
    have hN : x * 2 % 256 = ((rolN 8 X : Nat) : Int) := hm.out.trans (pow_n _ _ (hn.out HB.out.symm))
    have eN := hi_dec (w := 8) (h := 128) (by decide +kernel) hN
    refine ⟨ret_kt hN (wcar_c HB.out ?_), by first | rfl | trivial⟩
    rw [eN, ← HB.out]
    generalize hiB 8 (rolN 8 X) = u
    cases u <;> rfl
  · have hd : decide (128 ≤ x) = true := hi.out.trans HB.out.symm
    go_enter Tryd.func127, Tryd.ntmps127
    go_wp2_with (first | (go_at_call 71; refine (flagsOf_u8 _ (by first | omega | (rw [wU8]; omega) | exact (bits_bd _ .u8 rfl _ _).1) (by first | omega | (rw [wU8]; omega) | exact Int.le_of_lt_add_one (bits_bd _ .u8 rfl _ _).2) _).mono ?_; rintro e w1 ⟨rfl, rfl⟩) | (go_at_call 186; refine (CH.out _ _).mono ?_; rintro e w1 ⟨rfl, rfl⟩) | (go_at_call 169; refine (CH.out _ _).mono ?_; rintro e w1 ⟨rfl, rfl⟩) | (go_at_call 59; refine (withCarryC _ _ _ _).mono ?_; rintro e w1 ⟨rfl, rfl⟩) | (go_at_call 133; refine (highest_u8 _).mono ?_; rintro e w1 ⟨rfl, rfl⟩))
    go_ret2
    try simp only [wU8]
    have hN : bits .or .u8 (x * 2 % 256) 1 = ((rolN 8 X : Nat) : Int) := by rw [hm.out]; exact hr.out HB.out.symm
    have eN := hi_dec (w := 8) (h := 128) (by decide +kernel) hN
    refine ⟨ret_kt hN (wcar_c HB.out ?_), by first | rfl | trivial⟩
    rw [eN, ← HB.out]
    generalize hiB 8 (rolN 8 X) = u
    cases u <;> rfl
set_option maxHeartbeats 400000 in
theorem rotateRight_u8 (X : Nat) (f : Int) (hX : X < 2 ^ 8) (w : World) : Calls Tryd.prog 128 #[.int .u8 (X : Int), .int .i64 f] w fun e w' => e = .returned (.tuple #[.int .u8 ((rorN 8 X : Nat) : Int), .int .i64 (wCar f (odB X) (hiB 8 (rorN 8 X) != hiB 8 (shlN 8 (rorN 8 X))))]) ∧ w = w' := by
  have hod := Lib.hid (od_and (k := .u8) rfl (by decide) hX)
  have hr : odB X = true → bits .or .u8 ((X / 2 : Nat) : Int) ((2 ^ 7 : Nat) : Int) = ((rorN 8 X : Nat) : Int) := by
    intro e
    have h2 := half_lt (w := 8) (by decide) hX
    refine (bOr (k := .u8) rfl (Nat.lt_of_lt_of_le h2 (by decide)) (by decide)).trans (pow_n _ _ ?_)
    unfold rorN; rw [e]; exact or_top h2
  have hn : odB X = false → X / 2 = rorN 8 X := by intro e; unfold rorN; rw [e]; rfl
  have hr := Lib.hid hr; have hn := Lib.hid hn
  obtain ⟨x, hx⟩ : ∃ x : Int, x = (X : Int) := ⟨_, rfl⟩
  rw [← hx]
  have x0 : 0 ≤ x := by omega
  have x1 : x ≤ 255 := by omega
  have HX := Lib.hid hx; have LX := Lib.hid hX
  clear hx hX
  rw [← HX.out] at hod
  have CH := Lib.hid isHigh_u8
  have CO := Lib.hid isOdd_u8
  have hv0 : x / 2 = ((X / 2 : Nat) : Int) := by rw [HX.out]; omega
  have hv := Lib.hid hv0; clear hv0
  obtain ⟨b, hb⟩ : ∃ b, b = odB X := ⟨_, rfl⟩
  have HB := Lib.hid hb
  clear hb
  cases b
  · have hd : (bits .and .u8 x 1 == 1) = false := hod.out.trans HB.out.symm
    go_enter Tryd.func128, Tryd.ntmps128
    go_wp2_with (first | (go_at_call 71; refine (flagsOf_u8 _ (by first | omega | (rw [wU8]; omega) | exact (bits_bd _ .u8 rfl _ _).1) (by first | omega | (rw [wU8]; omega) | exact Int.le_of_lt_add_one (bits_bd _ .u8 rfl _ _).2) _).mono ?_; rintro e w1 ⟨rfl, rfl⟩) | (go_at_call 186; refine (CO.out _ _).mono ?_; rintro e w1 ⟨rfl, rfl⟩) | (go_at_call 169; refine (CH.out _ _).mono ?_; rintro e w1 ⟨rfl, rfl⟩) | (go_at_call 59; refine (withCarryC _ _ _ _).mono ?_; rintro e w1 ⟨rfl, rfl⟩) | (go_at_call 133; refine (highest_u8 _).mono ?_; rintro e w1 ⟨rfl, rfl⟩))
    go_ret2
    try simp only [wU8]
    have hN : x / 2 = ((rorN 8 X : Nat) : Int) := hv.out.trans (pow_n _ _ (hn.out HB.out.symm))
    have eN := hi_dec (w := 8) (h := 128) (by decide +kernel) hN
    have hM : x / 2 * 2 = ((shlN 8 (rorN 8 X) : Nat) : Int) := by rw [show x / 2 * 2 = x / 2 * 2 % 256 by omega]; unfold shlN; rw [hN]; omega
    have eM := hi_dec (w := 8) (h := 128) (by decide +kernel) hM
    refine ⟨ret_kt hN (wcar_c HB.out ?_), by first | rfl | trivial⟩
    rw [eN, eM]
    generalize hiB 8 (rorN 8 X) = u
    generalize hiB 8 (shlN 8 (rorN 8 X)) = v
    cases u <;> cases v <;> rfl
  · have hd : (bits .and .u8 x 1 == 1) = true := hod.out.trans HB.out.symm
    go_enter Tryd.func128, Tryd.ntmps128
    go_wp2_with (first | (go_at_call 71; refine (flagsOf_u8 _ (by first | omega | (rw [wU8]; omega) | exact (bits_bd _ .u8 rfl _ _).1) (by first | omega | (rw [wU8]; omega) | exact Int.le_of_lt_add_one (bits_bd _ .u8 rfl _ _).2) _).mono ?_; rintro e w1 ⟨rfl, rfl⟩) | (go_at_call 186; refine (CO.out _ _).mono ?_; rintro e w1 ⟨rfl, rfl⟩) | (go_at_call 169; refine (CH.out _ _).mono ?_; rintro e w1 ⟨rfl, rfl⟩) | (go_at_call 59; refine (withCarryC _ _ _ _).mono ?_; rintro e w1 ⟨rfl, rfl⟩) | (go_at_call 133; refine (highest_u8 _).mono ?_; rintro e w1 ⟨rfl, rfl⟩))
    go_ret2
    try simp only [wU8]
    have hN : bits .or .u8 (x / 2) 128 = ((rorN 8 X : Nat) : Int) := by rw [hv.out]; exact hr.out HB.out.symm
    have eN := hi_dec (w := 8) (h := 128) (by decide +kernel) hN
    have hM : bits .or .u8 (x / 2) 128 * 2 % 256 = ((shlN 8 (rorN 8 X) : Nat) : Int) := by unfold shlN; rw [hN]; omega
    have eM := hi_dec (w := 8) (h := 128) (by decide +kernel) hM
    refine ⟨ret_kt hN (wcar_c HB.out ?_), by first | rfl | trivial⟩
    rw [eN, eM]
    generalize hiB 8 (rorN 8 X) = u
    generalize hiB 8 (shlN 8 (rorN 8 X)) = v
    cases u <;> cases v <;> rfl
def oneRow_u8 : Array Value := #[.nilFunc, .nilFunc, .nilFunc, .nilFunc, .nilFunc, .nilFunc, .nilFunc, .nilFunc, .nilFunc, .nilFunc, .nilFunc, .func (.func 110) #[] #[], .func (.func 111) #[] #[], .nilFunc, .nilFunc, .nilFunc, .nilFunc, .nilFunc, .func (.func 112) #[] #[], .func (.func 113) #[] #[], .nilFunc, .nilFunc, .nilFunc, .nilFunc, .nilFunc, .nilFunc, .nilFunc, .nilFunc, .nilFunc, .nilFunc, .nilFunc, .nilFunc, .nilFunc, .nilFunc, .nilFunc, .nilFunc, .nilFunc, .nilFunc, .nilFunc, .nilFunc, .nilFunc, .nilFunc, .nilFunc, .nilFunc, .nilFunc]
structure oneW_u8 (w W : World) : Prop where
  row : W.heap[w.heap.size]? = some (.cells oneRow_u8 96 (0, 0))
  be : Below w.heap.size w W
theorem oneW_u8' (w : World) : oneW_u8 w ((w.alloc (.cells #[.nilFunc, .nilFunc, .nilFunc, .nilFunc, .nilFunc, .nilFunc, .nilFunc, .nilFunc, .nilFunc, .nilFunc, .nilFunc, .nilFunc, .nilFunc, .nilFunc, .nilFunc, .nilFunc, .nilFunc, .nilFunc, .nilFunc, .nilFunc, .nilFunc, .nilFunc, .nilFunc, .nilFunc, .nilFunc, .nilFunc, .nilFunc, .nilFunc, .nilFunc, .nilFunc, .nilFunc, .nilFunc, .nilFunc, .nilFunc, .nilFunc, .nilFunc, .nilFunc, .nilFunc, .nilFunc, .nilFunc, .nilFunc, .nilFunc, .nilFunc, .nilFunc, .nilFunc] 96)).setRow w.heap.size #[.nilFunc, .nilFunc, .nilFunc, .nilFunc, .nilFunc, .nilFunc, .nilFunc, .nilFunc, .nilFunc, .nilFunc, .nilFunc, .func (.func 110) #[] #[], .func (.func 111) #[] #[], .nilFunc, .nilFunc, .nilFunc, .nilFunc, .nilFunc, .func (.func 112) #[] #[], .func (.func 113) #[] #[], .nilFunc, .nilFunc, .nilFunc, .nilFunc, .nilFunc, .nilFunc, .nilFunc, .nilFunc, .nilFunc, .nilFunc, .nilFunc, .nilFunc, .nilFunc, .nilFunc, .nilFunc, .nilFunc, .nilFunc, .nilFunc, .nilFunc, .nilFunc, .nilFunc, .nilFunc, .nilFunc, .nilFunc, .nilFunc]) := by
  have HG : (w.alloc (.cells #[.nilFunc, .nilFunc, .nilFunc, .nilFunc, .nilFunc, .nilFunc, .nilFunc, .nilFunc, .nilFunc, .nilFunc, .nilFunc, .nilFunc, .nilFunc, .nilFunc, .nilFunc, .nilFunc, .nilFunc, .nilFunc, .nilFunc, .nilFunc, .nilFunc, .nilFunc, .nilFunc, .nilFunc, .nilFunc, .nilFunc, .nilFunc, .nilFunc, .nilFunc, .nilFunc, .nilFunc, .nilFunc, .nilFunc, .nilFunc, .nilFunc, .nilFunc, .nilFunc, .nilFunc, .nilFunc, .nilFunc, .nilFunc, .nilFunc, .nilFunc, .nilFunc, .nilFunc] 96)).heap[w.heap.size]? = some (.cells #[.nilFunc, .nilFunc, .nilFunc, .nilFunc, .nilFunc, .nilFunc, .nilFunc, .nilFunc, .nilFunc, .nilFunc, .nilFunc, .nilFunc, .nilFunc, .nilFunc, .nilFunc, .nilFunc, .nilFunc, .nilFunc, .nilFunc, .nilFunc, .nilFunc, .nilFunc, .nilFunc, .nilFunc, .nilFunc, .nilFunc, .nilFunc, .nilFunc, .nilFunc, .nilFunc, .nilFunc, .nilFunc, .nilFunc, .nilFunc, .nilFunc, .nilFunc, .nilFunc, .nilFunc, .nilFunc, .nilFunc, .nilFunc, .nilFunc, .nilFunc, .nilFunc, .nilFunc] 96 (0, 0)) := heap_alloc_new _ _
  exact ⟨setRow_heap _ _ _ _ _ _ HG, below_setRow ((Below.refl _ _).alloc (Nat.le_refl _) _) (Nat.le_refl _) _⟩
theorem one_nil_u8 (i : Nat) (h : i < 45) (hn : i ≠ 11 ∧ i ≠ 12 ∧ i ≠ 18 ∧ i ≠ 19) : oneRow_u8[i]? = some .nilFunc := by
  have K : ∀ i, i < 45 → (i ≠ 11 ∧ i ≠ 12 ∧ i ≠ 18 ∧ i ≠ 19) → oneRow_u8[i]? = some .nilFunc := by
    intro i h hn
    rcases (by omega : i = 0 ∨ i = 1 ∨ i = 2 ∨ i = 3 ∨ i = 4 ∨ i = 5 ∨ i = 6 ∨ i = 7 ∨ i = 8 ∨ i = 9 ∨ i = 10 ∨ i = 13 ∨ i = 14 ∨ i = 15 ∨ i = 16 ∨ i = 17 ∨ i = 20 ∨ i = 21 ∨ i = 22 ∨ i = 23 ∨ i = 24 ∨ i = 25 ∨ i = 26 ∨ i = 27 ∨ i = 28 ∨ i = 29 ∨ i = 30 ∨ i = 31 ∨ i = 32 ∨ i = 33 ∨ i = 34 ∨ i = 35 ∨ i = 36 ∨ i = 37 ∨ i = 38 ∨ i = 39 ∨ i = 40 ∨ i = 41 ∨ i = 42 ∨ i = 43 ∨ i = 44) with rfl | rfl | rfl | rfl | rfl | rfl | rfl | rfl | rfl | rfl | rfl | rfl | rfl | rfl | rfl | rfl | rfl | rfl | rfl | rfl | rfl | rfl | rfl | rfl | rfl | rfl | rfl | rfl | rfl | rfl | rfl | rfl | rfl | rfl | rfl | rfl | rfl | rfl | rfl | rfl | rfl
    all_goals rfl
  exact K i h hn
set_option maxRecDepth 100000 in
set_option maxHeartbeats 1000000 in
theorem oneNil_u8 (op a b f : Int) (h1 : 1 ≤ op) (h2 : op ≤ 44) (h3 : op ≠ 11 ∧ op ≠ 12 ∧ op ≠ 18 ∧ op ≠ 19) (w : World) : Calls Tryd.prog 43 #[.int .i64 op, .int .i64 a, .int .i64 b, .int .i64 f] w fun e w' => e = .returned (.tuple #[.int .i64 0, .int .i64 0, .int .i64 11]) ∧ Below w.heap.size w w' := by
  have CO := Lib.hid (fun w => isOpYes op w h1 h2)
  have HG := Lib.hid (show (w.alloc (.cells #[.nilFunc, .nilFunc, .nilFunc, .nilFunc, .nilFunc, .nilFunc, .nilFunc, .nilFunc, .nilFunc, .nilFunc, .nilFunc, .nilFunc, .nilFunc, .nilFunc, .nilFunc, .nilFunc, .nilFunc, .nilFunc, .nilFunc, .nilFunc, .nilFunc, .nilFunc, .nilFunc, .nilFunc, .nilFunc, .nilFunc, .nilFunc, .nilFunc, .nilFunc, .nilFunc, .nilFunc, .nilFunc, .nilFunc, .nilFunc, .nilFunc, .nilFunc, .nilFunc, .nilFunc, .nilFunc, .nilFunc, .nilFunc, .nilFunc, .nilFunc, .nilFunc, .nilFunc] 96)).heap[w.heap.size]? = some (.cells #[.nilFunc, .nilFunc, .nilFunc, .nilFunc, .nilFunc, .nilFunc, .nilFunc, .nilFunc, .nilFunc, .nilFunc, .nilFunc, .nilFunc, .nilFunc, .nilFunc, .nilFunc, .nilFunc, .nilFunc, .nilFunc, .nilFunc, .nilFunc, .nilFunc, .nilFunc, .nilFunc, .nilFunc, .nilFunc, .nilFunc, .nilFunc, .nilFunc, .nilFunc, .nilFunc, .nilFunc, .nilFunc, .nilFunc, .nilFunc, .nilFunc, .nilFunc, .nilFunc, .nilFunc, .nilFunc, .nilFunc, .nilFunc, .nilFunc, .nilFunc, .nilFunc, .nilFunc] 96 (0, 0)) from heap_alloc_new _ _)
  have HW := Lib.hid (oneW_u8' w)
  go_enter Tryd.func43, Tryd.ntmps43
  go_wp2_with (refine wpList_store_row rfl 96 (.tmp 11) (.tmp 13) rfl w.heap.size #[.nilFunc, .nilFunc, .nilFunc, .nilFunc, .nilFunc, .nilFunc, .nilFunc, .nilFunc, .nilFunc, .nilFunc, .nilFunc, .func (.func 110) #[] #[], .func (.func 111) #[] #[], .nilFunc, .nilFunc, .nilFunc, .nilFunc, .nilFunc, .func (.func 112) #[] #[], .func (.func 113) #[] #[], .nilFunc, .nilFunc, .nilFunc, .nilFunc, .nilFunc, .nilFunc, .nilFunc, .nilFunc, .nilFunc, .nilFunc, .nilFunc, .nilFunc, .nilFunc, .nilFunc, .nilFunc, .nilFunc, .nilFunc, .nilFunc, .nilFunc, .nilFunc, .nilFunc, .nilFunc, .nilFunc, .nilFunc, .nilFunc] rfl rfl 96 _ HG.out (by kernel_rfl) rfl (by simp [Value.oneCell']) ?_; generalize hW9 : ((w.alloc (.cells #[.nilFunc, .nilFunc, .nilFunc, .nilFunc, .nilFunc, .nilFunc, .nilFunc, .nilFunc, .nilFunc, .nilFunc, .nilFunc, .nilFunc, .nilFunc, .nilFunc, .nilFunc, .nilFunc, .nilFunc, .nilFunc, .nilFunc, .nilFunc, .nilFunc, .nilFunc, .nilFunc, .nilFunc, .nilFunc, .nilFunc, .nilFunc, .nilFunc, .nilFunc, .nilFunc, .nilFunc, .nilFunc, .nilFunc, .nilFunc, .nilFunc, .nilFunc, .nilFunc, .nilFunc, .nilFunc, .nilFunc, .nilFunc, .nilFunc, .nilFunc, .nilFunc, .nilFunc] 96)).setRow w.heap.size #[.nilFunc, .nilFunc, .nilFunc, .nilFunc, .nilFunc, .nilFunc, .nilFunc, .nilFunc, .nilFunc, .nilFunc, .nilFunc, .func (.func 110) #[] #[], .func (.func 111) #[] #[], .nilFunc, .nilFunc, .nilFunc, .nilFunc, .nilFunc, .func (.func 112) #[] #[], .func (.func 113) #[] #[], .nilFunc, .nilFunc, .nilFunc, .nilFunc, .nilFunc, .nilFunc, .nilFunc, .nilFunc, .nilFunc, .nilFunc, .nilFunc, .nilFunc, .nilFunc, .nilFunc, .nilFunc, .nilFunc, .nilFunc, .nilFunc, .nilFunc, .nilFunc, .nilFunc, .nilFunc, .nilFunc, .nilFunc, .nilFunc]) = W9 at *; clear hW9)
  clear HG
  have hc := (cell_of_row _ _ op.toNat _ _ _ HW.out.row).trans (one_nil_u8 op.toNat (by omega) (by omega))
  have KE := eqYes1_u8
  refine (CO.out _).mono ?_
  rintro e w2 ⟨rfl, rfl⟩
  go_wp2
  go_ret3
  exact ⟨rfl, HW.out.be⟩
set_option maxRecDepth 100000 in
set_option maxHeartbeats 1000000 in
theorem oneNo_u8 (op a b f : Int) (h : ¬ (1 ≤ op ∧ op ≤ 44)) (w : World) : Calls Tryd.prog 43 #[.int .i64 op, .int .i64 a, .int .i64 b, .int .i64 f] w fun e w' => e = .returned (.tuple #[.int .i64 0, .int .i64 0, .int .i64 11]) ∧ Below w.heap.size w w' := by
  have CO := Lib.hid (fun w => isOpNo op w h)
  clear h
  have HG := Lib.hid (show (w.alloc (.cells #[.nilFunc, .nilFunc, .nilFunc, .nilFunc, .nilFunc, .nilFunc, .nilFunc, .nilFunc, .nilFunc, .nilFunc, .nilFunc, .nilFunc, .nilFunc, .nilFunc, .nilFunc, .nilFunc, .nilFunc, .nilFunc, .nilFunc, .nilFunc, .nilFunc, .nilFunc, .nilFunc, .nilFunc, .nilFunc, .nilFunc, .nilFunc, .nilFunc, .nilFunc, .nilFunc, .nilFunc, .nilFunc, .nilFunc, .nilFunc, .nilFunc, .nilFunc, .nilFunc, .nilFunc, .nilFunc, .nilFunc, .nilFunc, .nilFunc, .nilFunc, .nilFunc, .nilFunc] 96)).heap[w.heap.size]? = some (.cells #[.nilFunc, .nilFunc, .nilFunc, .nilFunc, .nilFunc, .nilFunc, .nilFunc, .nilFunc, .nilFunc, .nilFunc, .nilFunc, .nilFunc, .nilFunc, .nilFunc, .nilFunc, .nilFunc, .nilFunc, .nilFunc, .nilFunc, .nilFunc, .nilFunc, .nilFunc, .nilFunc, .nilFunc, .nilFunc, .nilFunc, .nilFunc, .nilFunc, .nilFunc, .nilFunc, .nilFunc, .nilFunc, .nilFunc, .nilFunc, .nilFunc, .nilFunc, .nilFunc, .nilFunc, .nilFunc, .nilFunc, .nilFunc, .nilFunc, .nilFunc, .nilFunc, .nilFunc] 96 (0, 0)) from heap_alloc_new _ _)
  have HW := Lib.hid (oneW_u8' w)
  go_enter Tryd.func43, Tryd.ntmps43
  go_wp2_with (refine wpList_store_row rfl 96 (.tmp 11) (.tmp 13) rfl w.heap.size #[.nilFunc, .nilFunc, .nilFunc, .nilFunc, .nilFunc, .nilFunc, .nilFunc, .nilFunc, .nilFunc, .nilFunc, .nilFunc, .func (.func 110) #[] #[], .func (.func 111) #[] #[], .nilFunc, .nilFunc, .nilFunc, .nilFunc, .nilFunc, .func (.func 112) #[] #[], .func (.func 113) #[] #[], .nilFunc, .nilFunc, .nilFunc, .nilFunc, .nilFunc, .nilFunc, .nilFunc, .nilFunc, .nilFunc, .nilFunc, .nilFunc, .nilFunc, .nilFunc, .nilFunc, .nilFunc, .nilFunc, .nilFunc, .nilFunc, .nilFunc, .nilFunc, .nilFunc, .nilFunc, .nilFunc, .nilFunc, .nilFunc] rfl rfl 96 _ HG.out (by kernel_rfl) rfl (by simp [Value.oneCell']) ?_; generalize hW9 : ((w.alloc (.cells #[.nilFunc, .nilFunc, .nilFunc, .nilFunc, .nilFunc, .nilFunc, .nilFunc, .nilFunc, .nilFunc, .nilFunc, .nilFunc, .nilFunc, .nilFunc, .nilFunc, .nilFunc, .nilFunc, .nilFunc, .nilFunc, .nilFunc, .nilFunc, .nilFunc, .nilFunc, .nilFunc, .nilFunc, .nilFunc, .nilFunc, .nilFunc, .nilFunc, .nilFunc, .nilFunc, .nilFunc, .nilFunc, .nilFunc, .nilFunc, .nilFunc, .nilFunc, .nilFunc, .nilFunc, .nilFunc, .nilFunc, .nilFunc, .nilFunc, .nilFunc, .nilFunc, .nilFunc] 96)).setRow w.heap.size #[.nilFunc, .nilFunc, .nilFunc, .nilFunc, .nilFunc, .nilFunc, .nilFunc, .nilFunc, .nilFunc, .nilFunc, .nilFunc, .func (.func 110) #[] #[], .func (.func 111) #[] #[], .nilFunc, .nilFunc, .nilFunc, .nilFunc, .nilFunc, .func (.func 112) #[] #[], .func (.func 113) #[] #[], .nilFunc, .nilFunc, .nilFunc, .nilFunc, .nilFunc, .nilFunc, .nilFunc, .nilFunc, .nilFunc, .nilFunc, .nilFunc, .nilFunc, .nilFunc, .nilFunc, .nilFunc, .nilFunc, .nilFunc, .nilFunc, .nilFunc, .nilFunc, .nilFunc, .nilFunc, .nilFunc, .nilFunc, .nilFunc]) = W9 at *; clear hW9)
  clear HG
  refine (CO.out _).mono ?_
  rintro e w2 ⟨rfl, rfl⟩
  go_wp2
  go_ret3
  exact ⟨rfl, HW.out.be⟩
set_option maxRecDepth 100000 in
set_option maxHeartbeats 1000000 in
theorem one11_u8 (a b f : Int) (V F : Int) (CX : Hid (∀ w, Calls Tryd.prog 110 #[.int .u8 (a % 256), .int .i64 f] w fun e w' => e = .returned (.tuple #[.int .u8 V, .int .i64 F]) ∧ w = w')) (w : World) : Calls Tryd.prog 43 #[.int .i64 11, .int .i64 a, .int .i64 b, .int .i64 f] w fun e w' => e = .returned (.tuple #[.int .i64 (wrap64 V), .int .i64 F, .int .i64 0]) ∧ Below w.heap.size w w' := by
  have CO := Lib.hid (fun w => isOpYes 11 w (by decide) (by decide))
  have HG := Lib.hid (show (w.alloc (.cells #[.nilFunc, .nilFunc, .nilFunc, .nilFunc, .nilFunc, .nilFunc, .nilFunc, .nilFunc, .nilFunc, .nilFunc, .nilFunc, .nilFunc, .nilFunc, .nilFunc, .nilFunc, .nilFunc, .nilFunc, .nilFunc, .nilFunc, .nilFunc, .nilFunc, .nilFunc, .nilFunc, .nilFunc, .nilFunc, .nilFunc, .nilFunc, .nilFunc, .nilFunc, .nilFunc, .nilFunc, .nilFunc, .nilFunc, .nilFunc, .nilFunc, .nilFunc, .nilFunc, .nilFunc, .nilFunc, .nilFunc, .nilFunc, .nilFunc, .nilFunc, .nilFunc, .nilFunc] 96)).heap[w.heap.size]? = some (.cells #[.nilFunc, .nilFunc, .nilFunc, .nilFunc, .nilFunc, .nilFunc, .nilFunc, .nilFunc, .nilFunc, .nilFunc, .nilFunc, .nilFunc, .nilFunc, .nilFunc, .nilFunc, .nilFunc, .nilFunc, .nilFunc, .nilFunc, .nilFunc, .nilFunc, .nilFunc, .nilFunc, .nilFunc, .nilFunc, .nilFunc, .nilFunc, .nilFunc, .nilFunc, .nilFunc, .nilFunc, .nilFunc, .nilFunc, .nilFunc, .nilFunc, .nilFunc, .nilFunc, .nilFunc, .nilFunc, .nilFunc, .nilFunc, .nilFunc, .nilFunc, .nilFunc, .nilFunc] 96 (0, 0)) from heap_alloc_new _ _)
  have HW := Lib.hid (oneW_u8' w)
  go_enter Tryd.func43, Tryd.ntmps43
  go_wp2_with (refine wpList_store_row rfl 96 (.tmp 11) (.tmp 13) rfl w.heap.size #[.nilFunc, .nilFunc, .nilFunc, .nilFunc, .nilFunc, .nilFunc, .nilFunc, .nilFunc, .nilFunc, .nilFunc, .nilFunc, .func (.func 110) #[] #[], .func (.func 111) #[] #[], .nilFunc, .nilFunc, .nilFunc, .nilFunc, .nilFunc, .func (.func 112) #[] #[], .func (.func 113) #[] #[], .nilFunc, .nilFunc, .nilFunc, .nilFunc, .nilFunc, .nilFunc, .nilFunc, .nilFunc, .nilFunc, .nilFunc, .nilFunc, .nilFunc, .nilFunc, .nilFunc, .nilFunc, .nilFunc, .nilFunc, .nilFunc, .nilFunc, .nilFunc, .nilFunc, .nilFunc, .nilFunc, .nilFunc, .nilFunc] rfl rfl 96 _ HG.out (by kernel_rfl) rfl (by simp [Value.oneCell']) ?_; generalize hW9 : ((w.alloc (.cells #[.nilFunc, .nilFunc, .nilFunc, .nilFunc, .nilFunc, .nilFunc, .nilFunc, .nilFunc, .nilFunc, .nilFunc, .nilFunc, .nilFunc, .nilFunc, .nilFunc, .nilFunc, .nilFunc, .nilFunc, .nilFunc, .nilFunc, .nilFunc, .nilFunc, .nilFunc, .nilFunc, .nilFunc, .nilFunc, .nilFunc, .nilFunc, .nilFunc, .nilFunc, .nilFunc, .nilFunc, .nilFunc, .nilFunc, .nilFunc, .nilFunc, .nilFunc, .nilFunc, .nilFunc, .nilFunc, .nilFunc, .nilFunc, .nilFunc, .nilFunc, .nilFunc, .nilFunc] 96)).setRow w.heap.size #[.nilFunc, .nilFunc, .nilFunc, .nilFunc, .nilFunc, .nilFunc, .nilFunc, .nilFunc, .nilFunc, .nilFunc, .nilFunc, .func (.func 110) #[] #[], .func (.func 111) #[] #[], .nilFunc, .nilFunc, .nilFunc, .nilFunc, .nilFunc, .func (.func 112) #[] #[], .func (.func 113) #[] #[], .nilFunc, .nilFunc, .nilFunc, .nilFunc, .nilFunc, .nilFunc, .nilFunc, .nilFunc, .nilFunc, .nilFunc, .nilFunc, .nilFunc, .nilFunc, .nilFunc, .nilFunc, .nilFunc, .nilFunc, .nilFunc, .nilFunc, .nilFunc, .nilFunc, .nilFunc, .nilFunc, .nilFunc, .nilFunc]) = W9 at *; clear hW9)
  clear HG
  have hc := (cell_of_row _ _ 11 _ _ _ HW.out.row).trans (show oneRow_u8[11]? = some (.func (.func 110) #[] #[]) from rfl)
  have KE := fun W => eqNo1_u8 (.func 110) #[] #[] W
  refine (CO.out _).mono ?_
  rintro e w2 ⟨rfl, rfl⟩
  go_wp2_with fail
  refine (CX.out _).mono ?_
  rintro e w2 ⟨rfl, rfl⟩
  go_wp2
  go_ret3
  exact ⟨rfl, HW.out.be⟩
set_option maxRecDepth 100000 in
set_option maxHeartbeats 1000000 in
theorem one12_u8 (a b f : Int) (V F : Int) (CX : Hid (∀ w, Calls Tryd.prog 111 #[.int .u8 (a % 256), .int .i64 f] w fun e w' => e = .returned (.tuple #[.int .u8 V, .int .i64 F]) ∧ w = w')) (w : World) : Calls Tryd.prog 43 #[.int .i64 12, .int .i64 a, .int .i64 b, .int .i64 f] w fun e w' => e = .returned (.tuple #[.int .i64 (wrap64 V), .int .i64 F, .int .i64 0]) ∧ Below w.heap.size w w' := by
  have CO := Lib.hid (fun w => isOpYes 12 w (by decide) (by decide))
  have HG := Lib.hid (show (w.alloc (.cells #[.nilFunc, .nilFunc, .nilFunc, .nilFunc, .nilFunc, .nilFunc, .nilFunc, .nilFunc, .nilFunc, .nilFunc, .nilFunc, .nilFunc, .nilFunc, .nilFunc, .nilFunc, .nilFunc, .nilFunc, .nilFunc, .nilFunc, .nilFunc, .nilFunc, .nilFunc, .nilFunc, .nilFunc, .nilFunc, .nilFunc, .nilFunc, .nilFunc, .nilFunc, .nilFunc, .nilFunc, .nilFunc, .nilFunc, .nilFunc, .nilFunc, .nilFunc, .nilFunc, .nilFunc, .nilFunc, .nilFunc, .nilFunc, .nilFunc, .nilFunc, .nilFunc, .nilFunc] 96)).heap[w.heap.size]? = some (.cells #[.nilFunc, .nilFunc, .nilFunc, .nilFunc, .nilFunc, .nilFunc, .nilFunc, .nilFunc, .nilFunc, .nilFunc, .nilFunc, .nilFunc, .nilFunc, .nilFunc, .nilFunc, .nilFunc, .nilFunc, .nilFunc, .nilFunc, .nilFunc, .nilFunc, .nilFunc, .nilFunc, .nilFunc, .nilFunc, .nilFunc, .nilFunc, .nilFunc, .nilFunc, .nilFunc, .nilFunc, .nilFunc, .nilFunc, .nilFunc, .nilFunc, .nilFunc, .nilFunc, .nilFunc, .nilFunc, .nilFunc, .nilFunc, .nilFunc, .nilFunc, .nilFunc, .nilFunc] 96 (0, 0)) from heap_alloc_new _ _)
  have HW := Lib.hid (oneW_u8' w)
  go_enter Tryd.func43, Tryd.ntmps43
  go_wp2_with (refine wpList_store_row rfl 96 (.tmp 11) (.tmp 13) rfl w.heap.size #[.nilFunc, .nilFunc, .nilFunc, .nilFunc, .nilFunc, .nilFunc, .nilFunc, .nilFunc, .nilFunc, .nilFunc, .nilFunc, .func (.func 110) #[] #[], .func (.func 111) #[] #[], .nilFunc, .nilFunc, .nilFunc, .nilFunc, .nilFunc, .func (.func 112) #[] #[], .func (.func 113) #[] #[], .nilFunc, .nilFunc, .nilFunc, .nilFunc, .nilFunc, .nilFunc, .nilFunc, .nilFunc, .nilFunc, .nilFunc, .nilFunc, .nilFunc, .nilFunc, .nilFunc, .nilFunc, .nilFunc, .nilFunc, .nilFunc, .nilFunc, .nilFunc, .nilFunc, .nilFunc, .nilFunc, .nilFunc, .nilFunc] rfl rfl 96 _ HG.out (by kernel_rfl) rfl (by simp [Value.oneCell']) ?_; generalize hW9 : ((w.alloc (.cells #[.nilFunc, .nilFunc, .nilFunc, .nilFunc, .nilFunc, .nilFunc, .nilFunc, .nilFunc, .nilFunc, .nilFunc, .nilFunc, .nilFunc, .nilFunc, .nilFunc, .nilFunc, .nilFunc, .nilFunc, .nilFunc, .nilFunc, .nilFunc, .nilFunc, .nilFunc, .nilFunc, .nilFunc, .nilFunc, .nilFunc, .nilFunc, .nilFunc, .nilFunc, .nilFunc, .nilFunc, .nilFunc, .nilFunc, .nilFunc, .nilFunc, .nilFunc, .nilFunc, .nilFunc, .nilFunc, .nilFunc, .nilFunc, .nilFunc, .nilFunc, .nilFunc, .nilFunc] 96)).setRow w.heap.size #[.nilFunc, .nilFunc, .nilFunc, .nilFunc, .nilFunc, .nilFunc, .nilFunc, .nilFunc, .nilFunc, .nilFunc, .nilFunc, .func (.func 110) #[] #[], .func (.func 111) #[] #[], .nilFunc, .nilFunc, .nilFunc, .nilFunc, .nilFunc, .func (.func 112) #[] #[], .func (.func 113) #[] #[], .nilFunc, .nilFunc, .nilFunc, .nilFunc, .nilFunc, .nilFunc, .nilFunc, .nilFunc, .nilFunc, .nilFunc, .nilFunc, .nilFunc, .nilFunc, .nilFunc, .nilFunc, .nilFunc, .nilFunc, .nilFunc, .nilFunc, .nilFunc, .nilFunc, .nilFunc, .nilFunc, .nilFunc, .nilFunc]) = W9 at *; clear hW9)
  clear HG
  have hc := (cell_of_row _ _ 12 _ _ _ HW.out.row).trans (show oneRow_u8[12]? = some (.func (.func 111) #[] #[]) from rfl)
  have KE := fun W => eqNo1_u8 (.func 111) #[] #[] W
  refine (CO.out _).mono ?_
  rintro e w2 ⟨rfl, rfl⟩
  go_wp2_with fail
  refine (CX.out _).mono ?_
  rintro e w2 ⟨rfl, rfl⟩
  go_wp2
  go_ret3
  exact ⟨rfl, HW.out.be⟩
set_option maxRecDepth 100000 in
set_option maxHeartbeats 1000000 in
theorem one18_u8 (a b f : Int) (V F : Int) (CX : Hid (∀ w, Calls Tryd.prog 112 #[.int .u8 (a % 256), .int .i64 f] w fun e w' => e = .returned (.tuple #[.int .u8 V, .int .i64 F]) ∧ w = w')) (w : World) : Calls Tryd.prog 43 #[.int .i64 18, .int .i64 a, .int .i64 b, .int .i64 f] w fun e w' => e = .returned (.tuple #[.int .i64 (wrap64 V), .int .i64 F, .int .i64 0]) ∧ Below w.heap.size w w' := by
  have CO := Lib.hid (fun w => isOpYes 18 w (by decide) (by decide))
  have HG := Lib.hid (show (w.alloc (.cells #[.nilFunc, .nilFunc, .nilFunc, .nilFunc, .nilFunc, .nilFunc, .nilFunc, .nilFunc, .nilFunc, .nilFunc, .nilFunc, .nilFunc, .nilFunc, .nilFunc, .nilFunc, .nilFunc, .nilFunc, .nilFunc, .nilFunc, .nilFunc, .nilFunc, .nilFunc, .nilFunc, .nilFunc, .nilFunc, .nilFunc, .nilFunc, .nilFunc, .nilFunc, .nilFunc, .nilFunc, .nilFunc, .nilFunc, .nilFunc, .nilFunc, .nilFunc, .nilFunc, .nilFunc, .nilFunc, .nilFunc, .nilFunc, .nilFunc, .nilFunc, .nilFunc, .nilFunc] 96)).heap[w.heap.size]? = some (.cells #[.nilFunc, .nilFunc, .nilFunc, .nilFunc, .nilFunc, .nilFunc, .nilFunc, .nilFunc, .nilFunc, .nilFunc, .nilFunc, .nilFunc, .nilFunc, .nilFunc, .nilFunc, .nilFunc, .nilFunc, .nilFunc, .nilFunc, .nilFunc, .nilFunc, .nilFunc, .nilFunc, .nilFunc, .nilFunc, .nilFunc, .nilFunc, .nilFunc, .nilFunc, .nilFunc, .nilFunc, .nilFunc, .nilFunc, .nilFunc, .nilFunc, .nilFunc, .nilFunc, .nilFunc, .nilFunc, .nilFunc, .nilFunc, .nilFunc, .nilFunc, .nilFunc, .nilFunc] 96 (0, 0)) from heap_alloc_new _ _)
  have HW := Lib.hid (oneW_u8' w)
  go_enter Tryd.func43, Tryd.ntmps43
  go_wp2_with (refine wpList_store_row rfl 96 (.tmp 11) (.tmp 13) rfl w.heap.size #[.nilFunc, .nilFunc, .nilFunc, .nilFunc, .nilFunc, .nilFunc, .nilFunc, .nilFunc, .nilFunc, .nilFunc, .nilFunc, .func (.func 110) #[] #[], .func (.func 111) #[] #[], .nilFunc, .nilFunc, .nilFunc, .nilFunc, .nilFunc, .func (.func 112) #[] #[], .func (.func 113) #[] #[], .nilFunc, .nilFunc, .nilFunc, .nilFunc, .nilFunc, .nilFunc, .nilFunc, .nilFunc, .nilFunc, .nilFunc, .nilFunc, .nilFunc, .nilFunc, .nilFunc, .nilFunc, .nilFunc, .nilFunc, .nilFunc, .nilFunc, .nilFunc, .nilFunc, .nilFunc, .nilFunc, .nilFunc, .nilFunc] rfl rfl 96 _ HG.out (by kernel_rfl) rfl (by simp [Value.oneCell']) ?_; generalize hW9 : ((w.alloc (.cells #[.nilFunc, .nilFunc, .nilFunc, .nilFunc, .nilFunc, .nilFunc, .nilFunc, .nilFunc, .nilFunc, .nilFunc, .nilFunc, .nilFunc, .nilFunc, .nilFunc, .nilFunc, .nilFunc, .nilFunc, .nilFunc, .nilFunc, .nilFunc, .nilFunc, .nilFunc, .nilFunc, .nilFunc, .nilFunc, .nilFunc, .nilFunc, .nilFunc, .nilFunc, .nilFunc, .nilFunc, .nilFunc, .nilFunc, .nilFunc, .nilFunc, .nilFunc, .nilFunc, .nilFunc, .nilFunc, .nilFunc, .nilFunc, .nilFunc, .nilFunc, .nilFunc, .nilFunc] 96)).setRow w.heap.size #[.nilFunc, .nilFunc, .nilFunc, .nilFunc, .nilFunc, .nilFunc, .nilFunc, .nilFunc, .nilFunc, .nilFunc, .nilFunc, .func (.func 110) #[] #[], .func (.func 111) #[] #[], .nilFunc, .nilFunc, .nilFunc, .nilFunc, .nilFunc, .func (.func 112) #[] #[], .func (.func 113) #[] #[], .nilFunc, .nilFunc, .nilFunc, .nilFunc, .nilFunc, .nilFunc, .nilFunc, .nilFunc, .nilFunc, .nilFunc, .nilFunc, .nilFunc, .nilFunc, .nilFunc, .nilFunc, .nilFunc, .nilFunc, .nilFunc, .nilFunc, .nilFunc, .nilFunc, .nilFunc, .nilFunc, .nilFunc, .nilFunc]) = W9 at *; clear hW9)
  clear HG
  have hc := (cell_of_row _ _ 18 _ _ _ HW.out.row).trans (show oneRow_u8[18]? = some (.func (.func 112) #[] #[]) from rfl)
  have KE := fun W => eqNo1_u8 (.func 112) #[] #[] W
  refine (CO.out _).mono ?_
  rintro e w2 ⟨rfl, rfl⟩
  go_wp2_with fail
  refine (CX.out _).mono ?_
  rintro e w2 ⟨rfl, rfl⟩
  go_wp2
  go_ret3
  exact ⟨rfl, HW.out.be⟩
set_option maxRecDepth 100000 in
set_option maxHeartbeats 1000000 in
theorem one19_u8 (a b f : Int) (V F : Int) (CX : Hid (∀ w, Calls Tryd.prog 113 #[.int .u8 (a % 256), .int .i64 f] w fun e w' => e = .returned (.tuple #[.int .u8 V, .int .i64 F]) ∧ w = w')) (w : World) : Calls Tryd.prog 43 #[.int .i64 19, .int .i64 a, .int .i64 b, .int .i64 f] w fun e w' => e = .returned (.tuple #[.int .i64 (wrap64 V), .int .i64 F, .int .i64 0]) ∧ Below w.heap.size w w' := by
  have CO := Lib.hid (fun w => isOpYes 19 w (by decide) (by decide))
  have HG := Lib.hid (show (w.alloc (.cells #[.nilFunc, .nilFunc, .nilFunc, .nilFunc, .nilFunc, .nilFunc, .nilFunc, .nilFunc, .nilFunc, .nilFunc, .nilFunc, .nilFunc, .nilFunc, .nilFunc, .nilFunc, .nilFunc, .nilFunc, .nilFunc, .nilFunc, .nilFunc, .nilFunc, .nilFunc, .nilFunc, .nilFunc, .nilFunc, .nilFunc, .nilFunc, .nilFunc, .nilFunc, .nilFunc, .nilFunc, .nilFunc, .nilFunc, .nilFunc, .nilFunc, .nilFunc, .nilFunc, .nilFunc, .nilFunc, .nilFunc, .nilFunc, .nilFunc, .nilFunc, .nilFunc, .nilFunc] 96)).heap[w.heap.size]? = some (.cells #[.nilFunc, .nilFunc, .nilFunc, .nilFunc, .nilFunc, .nilFunc, .nilFunc, .nilFunc, .nilFunc, .nilFunc, .nilFunc, .nilFunc, .nilFunc, .nilFunc, .nilFunc, .nilFunc, .nilFunc, .nilFunc, .nilFunc, .nilFunc, .nilFunc, .nilFunc, .nilFunc, .nilFunc, .nilFunc, .nilFunc, .nilFunc, .nilFunc, .nilFunc, .nilFunc, .nilFunc, .nilFunc, .nilFunc, .nilFunc, .nilFunc, .nilFunc, .nilFunc, .nilFunc, .nilFunc, .nilFunc, .nilFunc, .nilFunc, .nilFunc, .nilFunc, .nilFunc] 96 (0, 0)) from heap_alloc_new _ _)
  have HW := Lib.hid (oneW_u8' w)
  go_enter Tryd.func43, Tryd.ntmps43
  go_wp2_with (refine wpList_store_row rfl 96 (.tmp 11) (.tmp 13) rfl w.heap.size #[.nilFunc, .nilFunc, .nilFunc, .nilFunc, .nilFunc, .nilFunc, .nilFunc, .nilFunc, .nilFunc, .nilFunc, .nilFunc, .func (.func 110) #[] #[], .func (.func 111) #[] #[], .nilFunc, .nilFunc, .nilFunc, .nilFunc, .nilFunc, .func (.func 112) #[] #[], .func (.func 113) #[] #[], .nilFunc, .nilFunc, .nilFunc, .nilFunc, .nilFunc, .nilFunc, .nilFunc, .nilFunc, .nilFunc, .nilFunc, .nilFunc, .nilFunc, .nilFunc, .nilFunc, .nilFunc, .nilFunc, .nilFunc, .nilFunc, .nilFunc, .nilFunc, .nilFunc, .nilFunc, .nilFunc, .nilFunc, .nilFunc] rfl rfl 96 _ HG.out (by kernel_rfl) rfl (by simp [Value.oneCell']) ?_; generalize hW9 : ((w.alloc (.cells #[.nilFunc, .nilFunc, .nilFunc, .nilFunc, .nilFunc, .nilFunc, .nilFunc, .nilFunc, .nilFunc, .nilFunc, .nilFunc, .nilFunc, .nilFunc, .nilFunc, .nilFunc, .nilFunc, .nilFunc, .nilFunc, .nilFunc, .nilFunc, .nilFunc, .nilFunc, .nilFunc, .nilFunc, .nilFunc, .nilFunc, .nilFunc, .nilFunc, .nilFunc, .nilFunc, .nilFunc, .nilFunc, .nilFunc, .nilFunc, .nilFunc, .nilFunc, .nilFunc, .nilFunc, .nilFunc, .nilFunc, .nilFunc, .nilFunc, .nilFunc, .nilFunc, .nilFunc] 96)).setRow w.heap.size #[.nilFunc, .nilFunc, .nilFunc, .nilFunc, .nilFunc, .nilFunc, .nilFunc, .nilFunc, .nilFunc, .nilFunc, .nilFunc, .func (.func 110) #[] #[], .func (.func 111) #[] #[], .nilFunc, .nilFunc, .nilFunc, .nilFunc, .nilFunc, .func (.func 112) #[] #[], .func (.func 113) #[] #[], .nilFunc, .nilFunc, .nilFunc, .nilFunc, .nilFunc, .nilFunc, .nilFunc, .nilFunc, .nilFunc, .nilFunc, .nilFunc, .nilFunc, .nilFunc, .nilFunc, .nilFunc, .nilFunc, .nilFunc, .nilFunc, .nilFunc, .nilFunc, .nilFunc, .nilFunc, .nilFunc, .nilFunc, .nilFunc]) = W9 at *; clear hW9)
  clear HG
  have hc := (cell_of_row _ _ 19 _ _ _ HW.out.row).trans (show oneRow_u8[19]? = some (.func (.func 113) #[] #[]) from rfl)
  have KE := fun W => eqNo1_u8 (.func 113) #[] #[] W
  refine (CO.out _).mono ?_
  rintro e w2 ⟨rfl, rfl⟩
  go_wp2_with fail
  refine (CX.out _).mono ?_
  rintro e w2 ⟨rfl, rfl⟩
  go_wp2
  go_ret3
  exact ⟨rfl, HW.out.be⟩
def shiftRow_u8 : Array Value := #[.nilFunc, .nilFunc, .nilFunc, .nilFunc, .nilFunc, .nilFunc, .nilFunc, .nilFunc, .nilFunc, .nilFunc, .nilFunc, .nilFunc, .nilFunc, .nilFunc, .nilFunc, .nilFunc, .nilFunc, .nilFunc, .nilFunc, .nilFunc, .func (.func 127) #[] #[], .func (.func 128) #[] #[], .func (.func 129) #[] #[], .func (.func 130) #[] #[], .func (.func 131) #[] #[], .nilFunc, .nilFunc, .nilFunc, .nilFunc, .nilFunc, .nilFunc, .nilFunc, .nilFunc, .nilFunc, .nilFunc, .nilFunc, .nilFunc, .nilFunc, .nilFunc, .nilFunc, .nilFunc, .nilFunc, .nilFunc, .nilFunc, .nilFunc]
structure shiftW_u8 (w W : World) : Prop where
  row : W.heap[w.heap.size]? = some (.cells shiftRow_u8 96 (0, 0))
  be : Below w.heap.size w W
theorem shiftW_u8' (w : World) : shiftW_u8 w ((w.alloc (.cells #[.nilFunc, .nilFunc, .nilFunc, .nilFunc, .nilFunc, .nilFunc, .nilFunc, .nilFunc, .nilFunc, .nilFunc, .nilFunc, .nilFunc, .nilFunc, .nilFunc, .nilFunc, .nilFunc, .nilFunc, .nilFunc, .nilFunc, .nilFunc, .nilFunc, .nilFunc, .nilFunc, .nilFunc, .nilFunc, .nilFunc, .nilFunc, .nilFunc, .nilFunc, .nilFunc, .nilFunc, .nilFunc, .nilFunc, .nilFunc, .nilFunc, .nilFunc, .nilFunc, .nilFunc, .nilFunc, .nilFunc, .nilFunc, .nilFunc, .nilFunc, .nilFunc, .nilFunc] 96)).setRow w.heap.size #[.nilFunc, .nilFunc, .nilFunc, .nilFunc, .nilFunc, .nilFunc, .nilFunc, .nilFunc, .nilFunc, .nilFunc, .nilFunc, .nilFunc, .nilFunc, .nilFunc, .nilFunc, .nilFunc, .nilFunc, .nilFunc, .nilFunc, .nilFunc, .func (.func 127) #[] #[], .func (.func 128) #[] #[], .func (.func 129) #[] #[], .func (.func 130) #[] #[], .func (.func 131) #[] #[], .nilFunc, .nilFunc, .nilFunc, .nilFunc, .nilFunc, .nilFunc, .nilFunc, .nilFunc, .nilFunc, .nilFunc, .nilFunc, .nilFunc, .nilFunc, .nilFunc, .nilFunc, .nilFunc, .nilFunc, .nilFunc, .nilFunc, .nilFunc]) := by
  have HG : (w.alloc (.cells #[.nilFunc, .nilFunc, .nilFunc, .nilFunc, .nilFunc, .nilFunc, .nilFunc, .nilFunc, .nilFunc, .nilFunc, .nilFunc, .nilFunc, .nilFunc, .nilFunc, .nilFunc, .nilFunc, .nilFunc, .nilFunc, .nilFunc, .nilFunc, .nilFunc, .nilFunc, .nilFunc, .nilFunc, .nilFunc, .nilFunc, .nilFunc, .nilFunc, .nilFunc, .nilFunc, .nilFunc, .nilFunc, .nilFunc, .nilFunc, .nilFunc, .nilFunc, .nilFunc, .nilFunc, .nilFunc, .nilFunc, .nilFunc, .nilFunc, .nilFunc, .nilFunc, .nilFunc] 96)).heap[w.heap.size]? = some (.cells #[.nilFunc, .nilFunc, .nilFunc, .nilFunc, .nilFunc, .nilFunc, .nilFunc, .nilFunc, .nilFunc, .nilFunc, .nilFunc, .nilFunc, .nilFunc, .nilFunc, .nilFunc, .nilFunc, .nilFunc, .nilFunc, .nilFunc, .nilFunc, .nilFunc, .nilFunc, .nilFunc, .nilFunc, .nilFunc, .nilFunc, .nilFunc, .nilFunc, .nilFunc, .nilFunc, .nilFunc, .nilFunc, .nilFunc, .nilFunc, .nilFunc, .nilFunc, .nilFunc, .nilFunc, .nilFunc, .nilFunc, .nilFunc, .nilFunc, .nilFunc, .nilFunc, .nilFunc] 96 (0, 0)) := heap_alloc_new _ _
  exact ⟨setRow_heap _ _ _ _ _ _ HG, below_setRow ((Below.refl _ _).alloc (Nat.le_refl _) _) (Nat.le_refl _) _⟩
theorem shift_nil_u8 (i : Nat) (h : i < 45) (hn : i ≠ 20 ∧ i ≠ 21 ∧ i ≠ 22 ∧ i ≠ 23 ∧ i ≠ 24) : shiftRow_u8[i]? = some .nilFunc := by
  have K : ∀ i, i < 45 → (i ≠ 20 ∧ i ≠ 21 ∧ i ≠ 22 ∧ i ≠ 23 ∧ i ≠ 24) → shiftRow_u8[i]? = some .nilFunc := by
    intro i h hn
    rcases (by omega : i = 0 ∨ i = 1 ∨ i = 2 ∨ i = 3 ∨ i = 4 ∨ i = 5 ∨ i = 6 ∨ i = 7 ∨ i = 8 ∨ i = 9 ∨ i = 10 ∨ i = 11 ∨ i = 12 ∨ i = 13 ∨ i = 14 ∨ i = 15 ∨ i = 16 ∨ i = 17 ∨ i = 18 ∨ i = 19 ∨ i = 25 ∨ i = 26 ∨ i = 27 ∨ i = 28 ∨ i = 29 ∨ i = 30 ∨ i = 31 ∨ i = 32 ∨ i = 33 ∨ i = 34 ∨ i = 35 ∨ i = 36 ∨ i = 37 ∨ i = 38 ∨ i = 39 ∨ i = 40 ∨ i = 41 ∨ i = 42 ∨ i = 43 ∨ i = 44) with rfl | rfl | rfl | rfl | rfl | rfl | rfl | rfl | rfl | rfl | rfl | rfl | rfl | rfl | rfl | rfl | rfl | rfl | rfl | rfl | rfl | rfl | rfl | rfl | rfl | rfl | rfl | rfl | rfl | rfl | rfl | rfl | rfl | rfl | rfl | rfl | rfl | rfl | rfl | rfl
    all_goals rfl
  exact K i h hn
set_option maxRecDepth 100000 in
set_option maxHeartbeats 1000000 in
theorem shiftNil_u8 (op a b f : Int) (h1 : 1 ≤ op) (h2 : op ≤ 44) (h3 : op ≠ 20 ∧ op ≠ 21 ∧ op ≠ 22 ∧ op ≠ 23 ∧ op ≠ 24) (w : World) : Calls Tryd.prog 48 #[.int .i64 op, .int .i64 a, .int .i64 b, .int .i64 f] w fun e w' => e = .returned (.tuple #[.int .i64 0, .int .i64 0, .int .i64 11]) ∧ Below w.heap.size w w' := by
  have CO := Lib.hid (fun w => isOpYes op w h1 h2)
  have HG := Lib.hid (show (w.alloc (.cells #[.nilFunc, .nilFunc, .nilFunc, .nilFunc, .nilFunc, .nilFunc, .nilFunc, .nilFunc, .nilFunc, .nilFunc, .nilFunc, .nilFunc, .nilFunc, .nilFunc, .nilFunc, .nilFunc, .nilFunc, .nilFunc, .nilFunc, .nilFunc, .nilFunc, .nilFunc, .nilFunc, .nilFunc, .nilFunc, .nilFunc, .nilFunc, .nilFunc, .nilFunc, .nilFunc, .nilFunc, .nilFunc, .nilFunc, .nilFunc, .nilFunc, .nilFunc, .nilFunc, .nilFunc, .nilFunc, .nilFunc, .nilFunc, .nilFunc, .nilFunc, .nilFunc, .nilFunc] 96)).heap[w.heap.size]? = some (.cells #[.nilFunc, .nilFunc, .nilFunc, .nilFunc, .nilFunc, .nilFunc, .nilFunc, .nilFunc, .nilFunc, .nilFunc, .nilFunc, .nilFunc, .nilFunc, .nilFunc, .nilFunc, .nilFunc, .nilFunc, .nilFunc, .nilFunc, .nilFunc, .nilFunc, .nilFunc, .nilFunc, .nilFunc, .nilFunc, .nilFunc, .nilFunc, .nilFunc, .nilFunc, .nilFunc, .nilFunc, .nilFunc, .nilFunc, .nilFunc, .nilFunc, .nilFunc, .nilFunc, .nilFunc, .nilFunc, .nilFunc, .nilFunc, .nilFunc, .nilFunc, .nilFunc, .nilFunc] 96 (0, 0)) from heap_alloc_new _ _)
  have HW := Lib.hid (shiftW_u8' w)
  go_enter Tryd.func48, Tryd.ntmps48
  go_wp2_with (refine wpList_store_row rfl 96 (.tmp 11) (.tmp 14) rfl w.heap.size #[.nilFunc, .nilFunc, .nilFunc, .nilFunc, .nilFunc, .nilFunc, .nilFunc, .nilFunc, .nilFunc, .nilFunc, .nilFunc, .nilFunc, .nilFunc, .nilFunc, .nilFunc, .nilFunc, .nilFunc, .nilFunc, .nilFunc, .nilFunc, .func (.func 127) #[] #[], .func (.func 128) #[] #[], .func (.func 129) #[] #[], .func (.func 130) #[] #[], .func (.func 131) #[] #[], .nilFunc, .nilFunc, .nilFunc, .nilFunc, .nilFunc, .nilFunc, .nilFunc, .nilFunc, .nilFunc, .nilFunc, .nilFunc, .nilFunc, .nilFunc, .nilFunc, .nilFunc, .nilFunc, .nilFunc, .nilFunc, .nilFunc, .nilFunc] rfl rfl 96 _ HG.out (by kernel_rfl) rfl (by simp [Value.oneCell']) ?_; generalize hW9 : ((w.alloc (.cells #[.nilFunc, .nilFunc, .nilFunc, .nilFunc, .nilFunc, .nilFunc, .nilFunc, .nilFunc, .nilFunc, .nilFunc, .nilFunc, .nilFunc, .nilFunc, .nilFunc, .nilFunc, .nilFunc, .nilFunc, .nilFunc, .nilFunc, .nilFunc, .nilFunc, .nilFunc, .nilFunc, .nilFunc, .nilFunc, .nilFunc, .nilFunc, .nilFunc, .nilFunc, .nilFunc, .nilFunc, .nilFunc, .nilFunc, .nilFunc, .nilFunc, .nilFunc, .nilFunc, .nilFunc, .nilFunc, .nilFunc, .nilFunc, .nilFunc, .nilFunc, .nilFunc, .nilFunc] 96)).setRow w.heap.size #[.nilFunc, .nilFunc, .nilFunc, .nilFunc, .nilFunc, .nilFunc, .nilFunc, .nilFunc, .nilFunc, .nilFunc, .nilFunc, .nilFunc, .nilFunc, .nilFunc, .nilFunc, .nilFunc, .nilFunc, .nilFunc, .nilFunc, .nilFunc, .func (.func 127) #[] #[], .func (.func 128) #[] #[], .func (.func 129) #[] #[], .func (.func 130) #[] #[], .func (.func 131) #[] #[], .nilFunc, .nilFunc, .nilFunc, .nilFunc, .nilFunc, .nilFunc, .nilFunc, .nilFunc, .nilFunc, .nilFunc, .nilFunc, .nilFunc, .nilFunc, .nilFunc, .nilFunc, .nilFunc, .nilFunc, .nilFunc, .nilFunc, .nilFunc]) = W9 at *; clear hW9)
  clear HG
  have hc := (cell_of_row _ _ op.toNat _ _ _ HW.out.row).trans (shift_nil_u8 op.toNat (by omega) (by omega))
  have KE := eqYes1_u8
  refine (CO.out _).mono ?_
  rintro e w2 ⟨rfl, rfl⟩
  go_wp2
  go_ret3
  exact ⟨rfl, HW.out.be⟩
set_option maxRecDepth 100000 in
set_option maxHeartbeats 1000000 in
theorem shiftNo_u8 (op a b f : Int) (h : ¬ (1 ≤ op ∧ op ≤ 44)) (w : World) : Calls Tryd.prog 48 #[.int .i64 op, .int .i64 a, .int .i64 b, .int .i64 f] w fun e w' => e = .returned (.tuple #[.int .i64 0, .int .i64 0, .int .i64 11]) ∧ Below w.heap.size w w' := by
  have CO := Lib.hid (fun w => isOpNo op w h)
  clear h
  have HG := Lib.hid (show (w.alloc (.cells #[.nilFunc, .nilFunc, .nilFunc, .nilFunc, .nilFunc, .nilFunc, .nilFunc, .nilFunc, .nilFunc, .nilFunc, .nilFunc, .nilFunc, .nilFunc, .nilFunc, .nilFunc, .nilFunc, .nilFunc, .nilFunc, .nilFunc, .nilFunc, .nilFunc, .nilFunc, .nilFunc, .nilFunc, .nilFunc, .nilFunc, .nilFunc, .nilFunc, .nilFunc, .nilFunc, .nilFunc, .nilFunc, .nilFunc, .nilFunc, .nilFunc, .nilFunc, .nilFunc, .nilFunc, .nilFunc, .nilFunc, .nilFunc, .nilFunc, .nilFunc, .nilFunc, .nilFunc] 96)).heap[w.heap.size]? = some (.cells #[.nilFunc, .nilFunc, .nilFunc, .nilFunc, .nilFunc, .nilFunc, .nilFunc, .nilFunc, .nilFunc, .nilFunc, .nilFunc, .nilFunc, .nilFunc, .nilFunc, .nilFunc, .nilFunc, .nilFunc, .nilFunc, .nilFunc, .nilFunc, .nilFunc, .nilFunc, .nilFunc, .nilFunc, .nilFunc, .nilFunc, .nilFunc, .nilFunc, .nilFunc, .nilFunc, .nilFunc, .nilFunc, .nilFunc, .nilFunc, .nilFunc, .nilFunc, .nilFunc, .nilFunc, .nilFunc, .nilFunc, .nilFunc, .nilFunc, .nilFunc, .nilFunc, .nilFunc] 96 (0, 0)) from heap_alloc_new _ _)
  have HW := Lib.hid (shiftW_u8' w)
  go_enter Tryd.func48, Tryd.ntmps48
  go_wp2_with (refine wpList_store_row rfl 96 (.tmp 11) (.tmp 14) rfl w.heap.size #[.nilFunc, .nilFunc, .nilFunc, .nilFunc, .nilFunc, .nilFunc, .nilFunc, .nilFunc, .nilFunc, .nilFunc, .nilFunc, .nilFunc, .nilFunc, .nilFunc, .nilFunc, .nilFunc, .nilFunc, .nilFunc, .nilFunc, .nilFunc, .func (.func 127) #[] #[], .func (.func 128) #[] #[], .func (.func 129) #[] #[], .func (.func 130) #[] #[], .func (.func 131) #[] #[], .nilFunc, .nilFunc, .nilFunc, .nilFunc, .nilFunc, .nilFunc, .nilFunc, .nilFunc, .nilFunc, .nilFunc, .nilFunc, .nilFunc, .nilFunc, .nilFunc, .nilFunc, .nilFunc, .nilFunc, .nilFunc, .nilFunc, .nilFunc] rfl rfl 96 _ HG.out (by kernel_rfl) rfl (by simp [Value.oneCell']) ?_; generalize hW9 : ((w.alloc (.cells #[.nilFunc, .nilFunc, .nilFunc, .nilFunc, .nilFunc, .nilFunc, .nilFunc, .nilFunc, .nilFunc, .nilFunc, .nilFunc, .nilFunc, .nilFunc, .nilFunc, .nilFunc, .nilFunc, .nilFunc, .nilFunc, .nilFunc, .nilFunc, .nilFunc, .nilFunc, .nilFunc, .nilFunc, .nilFunc, .nilFunc, .nilFunc, .nilFunc, .nilFunc, .nilFunc, .nilFunc, .nilFunc, .nilFunc, .nilFunc, .nilFunc, .nilFunc, .nilFunc, .nilFunc, .nilFunc, .nilFunc, .nilFunc, .nilFunc, .nilFunc, .nilFunc, .nilFunc] 96)).setRow w.heap.size #[.nilFunc, .nilFunc, .nilFunc, .nilFunc, .nilFunc, .nilFunc, .nilFunc, .nilFunc, .nilFunc, .nilFunc, .nilFunc, .nilFunc, .nilFunc, .nilFunc, .nilFunc, .nilFunc, .nilFunc, .nilFunc, .nilFunc, .nilFunc, .func (.func 127) #[] #[], .func (.func 128) #[] #[], .func (.func 129) #[] #[], .func (.func 130) #[] #[], .func (.func 131) #[] #[], .nilFunc, .nilFunc, .nilFunc, .nilFunc, .nilFunc, .nilFunc, .nilFunc, .nilFunc, .nilFunc, .nilFunc, .nilFunc, .nilFunc, .nilFunc, .nilFunc, .nilFunc, .nilFunc, .nilFunc, .nilFunc, .nilFunc, .nilFunc]) = W9 at *; clear hW9)
  clear HG
  refine (CO.out _).mono ?_
  rintro e w2 ⟨rfl, rfl⟩
  go_wp2
  go_ret3
  exact ⟨rfl, HW.out.be⟩
set_option maxRecDepth 100000 in
set_option maxHeartbeats 1000000 in
theorem shift20_u8 (a b f : Int) (n : Nat) (hn : bits .and .i64 b 31 = (n : Int)) (hn64 : n < 64) (g : Nat → Nat × Int) (g0 : (((g 0).1 : Nat) : Int) = (a % 256)) (g1 : (g 0).2 = f) (CX : Hid (∀ i w, i < n → Calls Tryd.prog 127 #[.int .u8 (((g i).1 : Nat) : Int), .int .i64 (g i).2] w fun e w' => e = .returned (.tuple #[.int .u8 (((g (i + 1)).1 : Nat) : Int), .int .i64 (g (i + 1)).2]) ∧ w = w')) (w : World) : Calls Tryd.prog 48 #[.int .i64 20, .int .i64 a, .int .i64 b, .int .i64 f] w fun e w' => e = .returned (.tuple #[.int .i64 (wrap64 (((g n).1 : Nat) : Int)), .int .i64 (g n).2, .int .i64 0]) ∧ Below w.heap.size w w' := by
  have CO := Lib.hid (fun w => isOpYes 20 w (by decide) (by decide))
  have CL := Lib.hid (fun W => Tryd.bits_Len64 128 W (by decide) (by decide))
  have hL : Lib.bitLen 128 = 8 := by decide +kernel
  have hmx : max (7 : Int) 31 = 31 := by decide
  have G0 := Lib.hid g0; have G1 := Lib.hid g1
  clear g0 g1
  have HG := Lib.hid (show (w.alloc (.cells #[.nilFunc, .nilFunc, .nilFunc, .nilFunc, .nilFunc, .nilFunc, .nilFunc, .nilFunc, .nilFunc, .nilFunc, .nilFunc, .nilFunc, .nilFunc, .nilFunc, .nilFunc, .nilFunc, .nilFunc, .nilFunc, .nilFunc, .nilFunc, .nilFunc, .nilFunc, .nilFunc, .nilFunc, .nilFunc, .nilFunc, .nilFunc, .nilFunc, .nilFunc, .nilFunc, .nilFunc, .nilFunc, .nilFunc, .nilFunc, .nilFunc, .nilFunc, .nilFunc, .nilFunc, .nilFunc, .nilFunc, .nilFunc, .nilFunc, .nilFunc, .nilFunc, .nilFunc] 96)).heap[w.heap.size]? = some (.cells #[.nilFunc, .nilFunc, .nilFunc, .nilFunc, .nilFunc, .nilFunc, .nilFunc, .nilFunc, .nilFunc, .nilFunc, .nilFunc, .nilFunc, .nilFunc, .nilFunc, .nilFunc, .nilFunc, .nilFunc, .nilFunc, .nilFunc, .nilFunc, .nilFunc, .nilFunc, .nilFunc, .nilFunc, .nilFunc, .nilFunc, .nilFunc, .nilFunc, .nilFunc, .nilFunc, .nilFunc, .nilFunc, .nilFunc, .nilFunc, .nilFunc, .nilFunc, .nilFunc, .nilFunc, .nilFunc, .nilFunc, .nilFunc, .nilFunc, .nilFunc, .nilFunc, .nilFunc] 96 (0, 0)) from heap_alloc_new _ _)
  have HW := Lib.hid (shiftW_u8' w)
  go_enter Tryd.func48, Tryd.ntmps48
  go_wp2_with (refine wpList_store_row rfl 96 (.tmp 11) (.tmp 14) rfl w.heap.size #[.nilFunc, .nilFunc, .nilFunc, .nilFunc, .nilFunc, .nilFunc, .nilFunc, .nilFunc, .nilFunc, .nilFunc, .nilFunc, .nilFunc, .nilFunc, .nilFunc, .nilFunc, .nilFunc, .nilFunc, .nilFunc, .nilFunc, .nilFunc, .func (.func 127) #[] #[], .func (.func 128) #[] #[], .func (.func 129) #[] #[], .func (.func 130) #[] #[], .func (.func 131) #[] #[], .nilFunc, .nilFunc, .nilFunc, .nilFunc, .nilFunc, .nilFunc, .nilFunc, .nilFunc, .nilFunc, .nilFunc, .nilFunc, .nilFunc, .nilFunc, .nilFunc, .nilFunc, .nilFunc, .nilFunc, .nilFunc, .nilFunc, .nilFunc] rfl rfl 96 _ HG.out (by kernel_rfl) rfl (by simp [Value.oneCell']) ?_; generalize hW9 : ((w.alloc (.cells #[.nilFunc, .nilFunc, .nilFunc, .nilFunc, .nilFunc, .nilFunc, .nilFunc, .nilFunc, .nilFunc, .nilFunc, .nilFunc, .nilFunc, .nilFunc, .nilFunc, .nilFunc, .nilFunc, .nilFunc, .nilFunc, .nilFunc, .nilFunc, .nilFunc, .nilFunc, .nilFunc, .nilFunc, .nilFunc, .nilFunc, .nilFunc, .nilFunc, .nilFunc, .nilFunc, .nilFunc, .nilFunc, .nilFunc, .nilFunc, .nilFunc, .nilFunc, .nilFunc, .nilFunc, .nilFunc, .nilFunc, .nilFunc, .nilFunc, .nilFunc, .nilFunc, .nilFunc] 96)).setRow w.heap.size #[.nilFunc, .nilFunc, .nilFunc, .nilFunc, .nilFunc, .nilFunc, .nilFunc, .nilFunc, .nilFunc, .nilFunc, .nilFunc, .nilFunc, .nilFunc, .nilFunc, .nilFunc, .nilFunc, .nilFunc, .nilFunc, .nilFunc, .nilFunc, .func (.func 127) #[] #[], .func (.func 128) #[] #[], .func (.func 129) #[] #[], .func (.func 130) #[] #[], .func (.func 131) #[] #[], .nilFunc, .nilFunc, .nilFunc, .nilFunc, .nilFunc, .nilFunc, .nilFunc, .nilFunc, .nilFunc, .nilFunc, .nilFunc, .nilFunc, .nilFunc, .nilFunc, .nilFunc, .nilFunc, .nilFunc, .nilFunc, .nilFunc, .nilFunc]) = W9 at *; clear hW9)
  clear HG
  have hc := (cell_of_row _ _ 20 _ _ _ HW.out.row).trans (show shiftRow_u8[20]? = some (.func (.func 127) #[] #[]) from rfl)
  have KE := fun W => eqNo1_u8 (.func 127) #[] #[] W
  refine (CO.out _).mono ?_
  rintro e w2 ⟨rfl, rfl⟩
  go_wp2_with fail
  refine (highest_u8 _).mono ?_
  rintro e w2 ⟨rfl, rfl⟩
  go_wp2_with fail
  refine (CL.out _).mono ?_
  rintro e w2 ⟨rfl, e2⟩
  obtain rfl := e2
  go_wp2
  clear hn hL hmx
  go_loop [3, 12, 34] (fun fl v i => ∃ j : Nat, j ≤ n ∧ i = .int .i64 j ∧ v = .int .u8 (((g j).1 : Nat) : Int) ∧ fl = .int .i64 (g j).2) (fun _ _ i => n - (intOf i).toNat)
  case atStart => exact ⟨0, Nat.zero_le _, rfl, by rw [G0.out], by rw [G1.out]⟩
  case round =>
    obtain ⟨j, hj, rfl, rfl, rfl⟩ := hrel
    by_cases hlt : j < n
    · have CJ := Lib.hid (fun w => CX.out j w hlt)
      go_wp2_with fail
      refine (CJ.out _).mono ?_
      rintro e w3 ⟨rfl, rfl⟩
      go_wp2
      go_round
      case rel => exact ⟨j + 1, by omega, by go_num, rfl, rfl⟩
      case measure => simp [intOf]; omega
    · have e : j = n := by omega
      subst e
      go_wp2
      go_ret3
      exact ⟨rfl, HW.out.be⟩
set_option maxRecDepth 100000 in
set_option maxHeartbeats 1000000 in
theorem shift21_u8 (a b f : Int) (n : Nat) (hn : bits .and .i64 b 31 = (n : Int)) (hn64 : n < 64) (g : Nat → Nat × Int) (g0 : (((g 0).1 : Nat) : Int) = (a % 256)) (g1 : (g 0).2 = f) (CX : Hid (∀ i w, i < n → Calls Tryd.prog 128 #[.int .u8 (((g i).1 : Nat) : Int), .int .i64 (g i).2] w fun e w' => e = .returned (.tuple #[.int .u8 (((g (i + 1)).1 : Nat) : Int), .int .i64 (g (i + 1)).2]) ∧ w = w')) (w : World) : Calls Tryd.prog 48 #[.int .i64 21, .int .i64 a, .int .i64 b, .int .i64 f] w fun e w' => e = .returned (.tuple #[.int .i64 (wrap64 (((g n).1 : Nat) : Int)), .int .i64 (g n).2, .int .i64 0]) ∧ Below w.heap.size w w' := by
  have CO := Lib.hid (fun w => isOpYes 21 w (by decide) (by decide))
  have CL := Lib.hid (fun W => Tryd.bits_Len64 128 W (by decide) (by decide))
  have hL : Lib.bitLen 128 = 8 := by decide +kernel
  have hmx : max (7 : Int) 31 = 31 := by decide
  have G0 := Lib.hid g0; have G1 := Lib.hid g1
  clear g0 g1
  have HG := Lib.hid (show (w.alloc (.cells #[.nilFunc, .nilFunc, .nilFunc, .nilFunc, .nilFunc, .nilFunc, .nilFunc, .nilFunc, .nilFunc, .nilFunc, .nilFunc, .nilFunc, .nilFunc, .nilFunc, .nilFunc, .nilFunc, .nilFunc, .nilFunc, .nilFunc, .nilFunc, .nilFunc, .nilFunc, .nilFunc, .nilFunc, .nilFunc, .nilFunc, .nilFunc, .nilFunc, .nilFunc, .nilFunc, .nilFunc, .nilFunc, .nilFunc, .nilFunc, .nilFunc, .nilFunc, .nilFunc, .nilFunc, .nilFunc, .nilFunc, .nilFunc, .nilFunc, .nilFunc, .nilFunc, .nilFunc] 96)).heap[w.heap.size]? = some (.cells #[.nilFunc, .nilFunc, .nilFunc, .nilFunc, .nilFunc, .nilFunc, .nilFunc, .nilFunc, .nilFunc, .nilFunc, .nilFunc, .nilFunc, .nilFunc, .nilFunc, .nilFunc, .nilFunc, .nilFunc, .nilFunc, .nilFunc, .nilFunc, .nilFunc, .nilFunc, .nilFunc, .nilFunc, .nilFunc, .nilFunc, .nilFunc, .nilFunc, .nilFunc, .nilFunc, .nilFunc, .nilFunc, .nilFunc, .nilFunc, .nilFunc, .nilFunc, .nilFunc, .nilFunc, .nilFunc, .nilFunc, .nilFunc, .nilFunc, .nilFunc, .nilFunc, .nilFunc] 96 (0, 0)) from heap_alloc_new _ _)
  have HW := Lib.hid (shiftW_u8' w)
  go_enter Tryd.func48, Tryd.ntmps48
  go_wp2_with (refine wpList_store_row rfl 96 (.tmp 11) (.tmp 14) rfl w.heap.size #[.nilFunc, .nilFunc, .nilFunc, .nilFunc, .nilFunc, .nilFunc, .nilFunc, .nilFunc, .nilFunc, .nilFunc, .nilFunc, .nilFunc, .nilFunc, .nilFunc, .nilFunc, .nilFunc, .nilFunc, .nilFunc, .nilFunc, .nilFunc, .func (.func 127) #[] #[], .func (.func 128) #[] #[], .func (.func 129) #[] #[], .func (.func 130) #[] #[], .func (.func 131) #[] #[], .nilFunc, .nilFunc, .nilFunc, .nilFunc, .nilFunc, .nilFunc, .nilFunc, .nilFunc, .nilFunc, .nilFunc, .nilFunc, .nilFunc, .nilFunc, .nilFunc, .nilFunc, .nilFunc, .nilFunc, .nilFunc, .nilFunc, .nilFunc] rfl rfl 96 _ HG.out (by kernel_rfl) rfl (by simp [Value.oneCell']) ?_; generalize hW9 : ((w.alloc (.cells #[.nilFunc, .nilFunc, .nilFunc, .nilFunc, .nilFunc, .nilFunc, .nilFunc, .nilFunc, .nilFunc, .nilFunc, .nilFunc, .nilFunc, .nilFunc, .nilFunc, .nilFunc, .nilFunc, .nilFunc, .nilFunc, .nilFunc, .nilFunc, .nilFunc, .nilFunc, .nilFunc, .nilFunc, .nilFunc, .nilFunc, .nilFunc, .nilFunc, .nilFunc, .nilFunc, .nilFunc, .nilFunc, .nilFunc, .nilFunc, .nilFunc, .nilFunc, .nilFunc, .nilFunc, .nilFunc, .nilFunc, .nilFunc, .nilFunc, .nilFunc, .nilFunc, .nilFunc] 96)).setRow w.heap.size #[.nilFunc, .nilFunc, .nilFunc, .nilFunc, .nilFunc, .nilFunc, .nilFunc, .nilFunc, .nilFunc, .nilFunc, .nilFunc, .nilFunc, .nilFunc, .nilFunc, .nilFunc, .nilFunc, .nilFunc, .nilFunc, .nilFunc, .nilFunc, .func (.func 127) #[] #[], .func (.func 128) #[] #[], .func (.func 129) #[] #[], .func (.func 130) #[] #[], .func (.func 131) #[] #[], .nilFunc, .nilFunc, .nilFunc, .nilFunc, .nilFunc, .nilFunc, .nilFunc, .nilFunc, .nilFunc, .nilFunc, .nilFunc, .nilFunc, .nilFunc, .nilFunc, .nilFunc, .nilFunc, .nilFunc, .nilFunc, .nilFunc, .nilFunc]) = W9 at *; clear hW9)
  clear HG
  have hc := (cell_of_row _ _ 21 _ _ _ HW.out.row).trans (show shiftRow_u8[21]? = some (.func (.func 128) #[] #[]) from rfl)
  have KE := fun W => eqNo1_u8 (.func 128) #[] #[] W
  refine (CO.out _).mono ?_
  rintro e w2 ⟨rfl, rfl⟩
  go_wp2_with fail
  refine (highest_u8 _).mono ?_
  rintro e w2 ⟨rfl, rfl⟩
  go_wp2_with fail
  refine (CL.out _).mono ?_
  rintro e w2 ⟨rfl, e2⟩
  obtain rfl := e2
  go_wp2
  clear hn hL hmx
  go_loop [3, 12, 34] (fun fl v i => ∃ j : Nat, j ≤ n ∧ i = .int .i64 j ∧ v = .int .u8 (((g j).1 : Nat) : Int) ∧ fl = .int .i64 (g j).2) (fun _ _ i => n - (intOf i).toNat)
  case atStart => exact ⟨0, Nat.zero_le _, rfl, by rw [G0.out], by rw [G1.out]⟩
  case round =>
    obtain ⟨j, hj, rfl, rfl, rfl⟩ := hrel
    by_cases hlt : j < n
    · have CJ := Lib.hid (fun w => CX.out j w hlt)
      go_wp2_with fail
      refine (CJ.out _).mono ?_
      rintro e w3 ⟨rfl, rfl⟩
      go_wp2
      go_round
      case rel => exact ⟨j + 1, by omega, by go_num, rfl, rfl⟩
      case measure => simp [intOf]; omega
    · have e : j = n := by omega
      subst e
      go_wp2
      go_ret3
      exact ⟨rfl, HW.out.be⟩
set_option maxRecDepth 100000 in
set_option maxHeartbeats 1000000 in
theorem shift22_u8 (a b f : Int) (n : Nat) (hn : bits .and .i64 b 31 = (n : Int)) (hn64 : n < 64) (g : Nat → Nat × Int) (g0 : (((g 0).1 : Nat) : Int) = (a % 256)) (g1 : (g 0).2 = f) (CX : Hid (∀ i w, i < n → Calls Tryd.prog 129 #[.int .u8 (((g i).1 : Nat) : Int), .int .i64 (g i).2] w fun e w' => e = .returned (.tuple #[.int .u8 (((g (i + 1)).1 : Nat) : Int), .int .i64 (g (i + 1)).2]) ∧ w = w')) (w : World) : Calls Tryd.prog 48 #[.int .i64 22, .int .i64 a, .int .i64 b, .int .i64 f] w fun e w' => e = .returned (.tuple #[.int .i64 (wrap64 (((g n).1 : Nat) : Int)), .int .i64 (g n).2, .int .i64 0]) ∧ Below w.heap.size w w' := by
  have CO := Lib.hid (fun w => isOpYes 22 w (by decide) (by decide))
  have CL := Lib.hid (fun W => Tryd.bits_Len64 128 W (by decide) (by decide))
  have hL : Lib.bitLen 128 = 8 := by decide +kernel
  have hmx : max (7 : Int) 31 = 31 := by decide
  have G0 := Lib.hid g0; have G1 := Lib.hid g1
  clear g0 g1
  have HG := Lib.hid (show (w.alloc (.cells #[.nilFunc, .nilFunc, .nilFunc, .nilFunc, .nilFunc, .nilFunc, .nilFunc, .nilFunc, .nilFunc, .nilFunc, .nilFunc, .nilFunc, .nilFunc, .nilFunc, .nilFunc, .nilFunc, .nilFunc, .nilFunc, .nilFunc, .nilFunc, .nilFunc, .nilFunc, .nilFunc, .nilFunc, .nilFunc, .nilFunc, .nilFunc, .nilFunc, .nilFunc, .nilFunc, .nilFunc, .nilFunc, .nilFunc, .nilFunc, .nilFunc, .nilFunc, .nilFunc, .nilFunc, .nilFunc, .nilFunc, .nilFunc, .nilFunc, .nilFunc, .nilFunc, .nilFunc] 96)).heap[w.heap.size]? = some (.cells #[.nilFunc, .nilFunc, .nilFunc, .nilFunc, .nilFunc, .nilFunc, .nilFunc, .nilFunc, .nilFunc, .nilFunc, .nilFunc, .nilFunc, .nilFunc, .nilFunc, .nilFunc, .nilFunc, .nilFunc, .nilFunc, .nilFunc, .nilFunc, .nilFunc, .nilFunc, .nilFunc, .nilFunc, .nilFunc, .nilFunc, .nilFunc, .nilFunc, .nilFunc, .nilFunc, .nilFunc, .nilFunc, .nilFunc, .nilFunc, .nilFunc, .nilFunc, .nilFunc, .nilFunc, .nilFunc, .nilFunc, .nilFunc, .nilFunc, .nilFunc, .nilFunc, .nilFunc] 96 (0, 0)) from heap_alloc_new _ _)
  have HW := Lib.hid (shiftW_u8' w)
  go_enter Tryd.func48, Tryd.ntmps48
  go_wp2_with (refine wpList_store_row rfl 96 (.tmp 11) (.tmp 14) rfl w.heap.size #[.nilFunc, .nilFunc, .nilFunc, .nilFunc, .nilFunc, .nilFunc, .nilFunc, .nilFunc, .nilFunc, .nilFunc, .nilFunc, .nilFunc, .nilFunc, .nilFunc, .nilFunc, .nilFunc, .nilFunc, .nilFunc, .nilFunc, .nilFunc, .func (.func 127) #[] #[], .func (.func 128) #[] #[], .func (.func 129) #[] #[], .func (.func 130) #[] #[], .func (.func 131) #[] #[], .nilFunc, .nilFunc, .nilFunc, .nilFunc, .nilFunc, .nilFunc, .nilFunc, .nilFunc, .nilFunc, .nilFunc, .nilFunc, .nilFunc, .nilFunc, .nilFunc, .nilFunc, .nilFunc, .nilFunc, .nilFunc, .nilFunc, .nilFunc] rfl rfl 96 _ HG.out (by kernel_rfl) rfl (by simp [Value.oneCell']) ?_; generalize hW9 : ((w.alloc (.cells #[.nilFunc, .nilFunc, .nilFunc, .nilFunc, .nilFunc, .nilFunc, .nilFunc, .nilFunc, .nilFunc, .nilFunc, .nilFunc, .nilFunc, .nilFunc, .nilFunc, .nilFunc, .nilFunc, .nilFunc, .nilFunc, .nilFunc, .nilFunc, .nilFunc, .nilFunc, .nilFunc, .nilFunc, .nilFunc, .nilFunc, .nilFunc, .nilFunc, .nilFunc, .nilFunc, .nilFunc, .nilFunc, .nilFunc, .nilFunc, .nilFunc, .nilFunc, .nilFunc, .nilFunc, .nilFunc, .nilFunc, .nilFunc, .nilFunc, .nilFunc, .nilFunc, .nilFunc] 96)).setRow w.heap.size #[.nilFunc, .nilFunc, .nilFunc, .nilFunc, .nilFunc, .nilFunc, .nilFunc, .nilFunc, .nilFunc, .nilFunc, .nilFunc, .nilFunc, .nilFunc, .nilFunc, .nilFunc, .nilFunc, .nilFunc, .nilFunc, .nilFunc, .nilFunc, .func (.func 127) #[] #[], .func (.func 128) #[] #[], .func (.func 129) #[] #[], .func (.func 130) #[] #[], .func (.func 131) #[] #[], .nilFunc, .nilFunc, .nilFunc, .nilFunc, .nilFunc, .nilFunc, .nilFunc, .nilFunc, .nilFunc, .nilFunc, .nilFunc, .nilFunc, .nilFunc, .nilFunc, .nilFunc, .nilFunc, .nilFunc, .nilFunc, .nilFunc, .nilFunc]) = W9 at *; clear hW9)
  clear HG
  have hc := (cell_of_row _ _ 22 _ _ _ HW.out.row).trans (show shiftRow_u8[22]? = some (.func (.func 129) #[] #[]) from rfl)
  have KE := fun W => eqNo1_u8 (.func 129) #[] #[] W
  refine (CO.out _).mono ?_
  rintro e w2 ⟨rfl, rfl⟩
  go_wp2_with fail
  refine (highest_u8 _).mono ?_
  rintro e w2 ⟨rfl, rfl⟩
  go_wp2_with fail
  refine (CL.out _).mono ?_
  rintro e w2 ⟨rfl, e2⟩
  obtain rfl := e2
  go_wp2
  clear hn hL hmx
  go_loop [3, 12, 34] (fun fl v i => ∃ j : Nat, j ≤ n ∧ i = .int .i64 j ∧ v = .int .u8 (((g j).1 : Nat) : Int) ∧ fl = .int .i64 (g j).2) (fun _ _ i => n - (intOf i).toNat)
  case atStart => exact ⟨0, Nat.zero_le _, rfl, by rw [G0.out], by rw [G1.out]⟩
  case round =>
    obtain ⟨j, hj, rfl, rfl, rfl⟩ := hrel
    by_cases hlt : j < n
    · have CJ := Lib.hid (fun w => CX.out j w hlt)
      go_wp2_with fail
      refine (CJ.out _).mono ?_
      rintro e w3 ⟨rfl, rfl⟩
      go_wp2
      go_round
      case rel => exact ⟨j + 1, by omega, by go_num, rfl, rfl⟩
      case measure => simp [intOf]; omega
    · have e : j = n := by omega
      subst e
      go_wp2
      go_ret3
      exact ⟨rfl, HW.out.be⟩
set_option maxRecDepth 100000 in
set_option maxHeartbeats 1000000 in
theorem shift23_u8 (a b f : Int) (n : Nat) (hn : bits .and .i64 b 31 = (n : Int)) (hn64 : n < 64) (g : Nat → Nat × Int) (g0 : (((g 0).1 : Nat) : Int) = (a % 256)) (g1 : (g 0).2 = f) (CX : Hid (∀ i w, i < n → Calls Tryd.prog 130 #[.int .u8 (((g i).1 : Nat) : Int), .int .i64 (g i).2] w fun e w' => e = .returned (.tuple #[.int .u8 (((g (i + 1)).1 : Nat) : Int), .int .i64 (g (i + 1)).2]) ∧ w = w')) (w : World) : Calls Tryd.prog 48 #[.int .i64 23, .int .i64 a, .int .i64 b, .int .i64 f] w fun e w' => e = .returned (.tuple #[.int .i64 (wrap64 (((g n).1 : Nat) : Int)), .int .i64 (g n).2, .int .i64 0]) ∧ Below w.heap.size w w' := by
  have CO := Lib.hid (fun w => isOpYes 23 w (by decide) (by decide))
  have CL := Lib.hid (fun W => Tryd.bits_Len64 128 W (by decide) (by decide))
  have hL : Lib.bitLen 128 = 8 := by decide +kernel
  have hmx : max (7 : Int) 31 = 31 := by decide
  have G0 := Lib.hid g0; have G1 := Lib.hid g1
  clear g0 g1
  have HG := Lib.hid (show (w.alloc (.cells #[.nilFunc, .nilFunc, .nilFunc, .nilFunc, .nilFunc, .nilFunc, .nilFunc, .nilFunc, .nilFunc, .nilFunc, .nilFunc, .nilFunc, .nilFunc, .nilFunc, .nilFunc, .nilFunc, .nilFunc, .nilFunc, .nilFunc, .nilFunc, .nilFunc, .nilFunc, .nilFunc, .nilFunc, .nilFunc, .nilFunc, .nilFunc, .nilFunc, .nilFunc, .nilFunc, .nilFunc, .nilFunc, .nilFunc, .nilFunc, .nilFunc, .nilFunc, .nilFunc, .nilFunc, .nilFunc, .nilFunc, .nilFunc, .nilFunc, .nilFunc, .nilFunc, .nilFunc] 96)).heap[w.heap.size]? = some (.cells #[.nilFunc, .nilFunc, .nilFunc, .nilFunc, .nilFunc, .nilFunc, .nilFunc, .nilFunc, .nilFunc, .nilFunc, .nilFunc, .nilFunc, .nilFunc, .nilFunc, .nilFunc, .nilFunc, .nilFunc, .nilFunc, .nilFunc, .nilFunc, .nilFunc, .nilFunc, .nilFunc, .nilFunc, .nilFunc, .nilFunc, .nilFunc, .nilFunc, .nilFunc, .nilFunc, .nilFunc, .nilFunc, .nilFunc, .nilFunc, .nilFunc, .nilFunc, .nilFunc, .nilFunc, .nilFunc, .nilFunc, .nilFunc, .nilFunc, .nilFunc, .nilFunc, .nilFunc] 96 (0, 0)) from heap_alloc_new _ _)
  have HW := Lib.hid (shiftW_u8' w)
  go_enter Tryd.func48, Tryd.ntmps48
  go_wp2_with (refine wpList_store_row rfl 96 (.tmp 11) (.tmp 14) rfl w.heap.size #[.nilFunc, .nilFunc, .nilFunc, .nilFunc, .nilFunc, .nilFunc, .nilFunc, .nilFunc, .nilFunc, .nilFunc, .nilFunc, .nilFunc, .nilFunc, .nilFunc, .nilFunc, .nilFunc, .nilFunc, .nilFunc, .nilFunc, .nilFunc, .func (.func 127) #[] #[], .func (.func 128) #[] #[], .func (.func 129) #[] #[], .func (.func 130) #[] #[], .func (.func 131) #[] #[], .nilFunc, .nilFunc, .nilFunc, .nilFunc, .nilFunc, .nilFunc, .nilFunc, .nilFunc, .nilFunc, .nilFunc, .nilFunc, .nilFunc, .nilFunc, .nilFunc, .nilFunc, .nilFunc, .nilFunc, .nilFunc, .nilFunc, .nilFunc] rfl rfl 96 _ HG.out (by kernel_rfl) rfl (by simp [Value.oneCell']) ?_; generalize hW9 : ((w.alloc (.cells #[.nilFunc, .nilFunc, .nilFunc, .nilFunc, .nilFunc, .nilFunc, .nilFunc, .nilFunc, .nilFunc, .nilFunc, .nilFunc, .nilFunc, .nilFunc, .nilFunc, .nilFunc, .nilFunc, .nilFunc, .nilFunc, .nilFunc, .nilFunc, .nilFunc, .nilFunc, .nilFunc, .nilFunc, .nilFunc, .nilFunc, .nilFunc, .nilFunc, .nilFunc, .nilFunc, .nilFunc, .nilFunc, .nilFunc, .nilFunc, .nilFunc, .nilFunc, .nilFunc, .nilFunc, .nilFunc, .nilFunc, .nilFunc, .nilFunc, .nilFunc, .nilFunc, .nilFunc] 96)).setRow w.heap.size #[.nilFunc, .nilFunc, .nilFunc, .nilFunc, .nilFunc, .nilFunc, .nilFunc, .nilFunc, .nilFunc, .nilFunc, .nilFunc, .nilFunc, .nilFunc, .nilFunc, .nilFunc, .nilFunc, .nilFunc, .nilFunc, .nilFunc, .nilFunc, .func (.func 127) #[] #[], .func (.func 128) #[] #[], .func (.func 129) #[] #[], .func (.func 130) #[] #[], .func (.func 131) #[] #[], .nilFunc, .nilFunc, .nilFunc, .nilFunc, .nilFunc, .nilFunc, .nilFunc, .nilFunc, .nilFunc, .nilFunc, .nilFunc, .nilFunc, .nilFunc, .nilFunc, .nilFunc, .nilFunc, .nilFunc, .nilFunc, .nilFunc, .nilFunc]) = W9 at *; clear hW9)
  clear HG
  have hc := (cell_of_row _ _ 23 _ _ _ HW.out.row).trans (show shiftRow_u8[23]? = some (.func (.func 130) #[] #[]) from rfl)
  have KE := fun W => eqNo1_u8 (.func 130) #[] #[] W
  refine (CO.out _).mono ?_
  rintro e w2 ⟨rfl, rfl⟩
  go_wp2_with fail
  refine (highest_u8 _).mono ?_
  rintro e w2 ⟨rfl, rfl⟩
  go_wp2_with fail
  refine (CL.out _).mono ?_
  rintro e w2 ⟨rfl, e2⟩
  obtain rfl := e2
  go_wp2
  clear hn hL hmx
  go_loop [3, 12, 34] (fun fl v i => ∃ j : Nat, j ≤ n ∧ i = .int .i64 j ∧ v = .int .u8 (((g j).1 : Nat) : Int) ∧ fl = .int .i64 (g j).2) (fun _ _ i => n - (intOf i).toNat)
  case atStart => exact ⟨0, Nat.zero_le _, rfl, by rw [G0.out], by rw [G1.out]⟩
  case round =>
    obtain ⟨j, hj, rfl, rfl, rfl⟩ := hrel
    by_cases hlt : j < n
    · have CJ := Lib.hid (fun w => CX.out j w hlt)
      go_wp2_with fail
      refine (CJ.out _).mono ?_
      rintro e w3 ⟨rfl, rfl⟩
      go_wp2
      go_round
      case rel => exact ⟨j + 1, by omega, by go_num, rfl, rfl⟩
      case measure => simp [intOf]; omega
    · have e : j = n := by omega
      subst e
      go_wp2
      go_ret3
      exact ⟨rfl, HW.out.be⟩
set_option maxRecDepth 100000 in
set_option maxHeartbeats 1000000 in
theorem shift24_u8 (a b f : Int) (n : Nat) (hn : bits .and .i64 b 31 = (n : Int)) (hn64 : n < 64) (g : Nat → Nat × Int) (g0 : (((g 0).1 : Nat) : Int) = (a % 256)) (g1 : (g 0).2 = f) (CX : Hid (∀ i w, i < n → Calls Tryd.prog 131 #[.int .u8 (((g i).1 : Nat) : Int), .int .i64 (g i).2] w fun e w' => e = .returned (.tuple #[.int .u8 (((g (i + 1)).1 : Nat) : Int), .int .i64 (g (i + 1)).2]) ∧ w = w')) (w : World) : Calls Tryd.prog 48 #[.int .i64 24, .int .i64 a, .int .i64 b, .int .i64 f] w fun e w' => e = .returned (.tuple #[.int .i64 (wrap64 (((g n).1 : Nat) : Int)), .int .i64 (g n).2, .int .i64 0]) ∧ Below w.heap.size w w' := by
  have CO := Lib.hid (fun w => isOpYes 24 w (by decide) (by decide))
  have CL := Lib.hid (fun W => Tryd.bits_Len64 128 W (by decide) (by decide))
  have hL : Lib.bitLen 128 = 8 := by decide +kernel
  have hmx : max (7 : Int) 31 = 31 := by decide
  have G0 := Lib.hid g0; have G1 := Lib.hid g1
  clear g0 g1
  have HG := Lib.hid (show (w.alloc (.cells #[.nilFunc, .nilFunc, .nilFunc, .nilFunc, .nilFunc, .nilFunc, .nilFunc, .nilFunc, .nilFunc, .nilFunc, .nilFunc, .nilFunc, .nilFunc, .nilFunc, .nilFunc, .nilFunc, .nilFunc, .nilFunc, .nilFunc, .nilFunc, .nilFunc, .nilFunc, .nilFunc, .nilFunc, .nilFunc, .nilFunc, .nilFunc, .nilFunc, .nilFunc, .nilFunc, .nilFunc, .nilFunc, .nilFunc, .nilFunc, .nilFunc, .nilFunc, .nilFunc, .nilFunc, .nilFunc, .nilFunc, .nilFunc, .nilFunc, .nilFunc, .nilFunc, .nilFunc] 96)).heap[w.heap.size]? = some (.cells #[.nilFunc, .nilFunc, .nilFunc, .nilFunc, .nilFunc, .nilFunc, .nilFunc, .nilFunc, .nilFunc, .nilFunc, .nilFunc, .nilFunc, .nilFunc, .nilFunc, .nilFunc, .nilFunc, .nilFunc, .nilFunc, .nilFunc, .nilFunc, .nilFunc, .nilFunc, .nilFunc, .nilFunc, .nilFunc, .nilFunc, .nilFunc, .nilFunc, .nilFunc, .nilFunc, .nilFunc, .nilFunc, .nilFunc, .nilFunc, .nilFunc, .nilFunc, .nilFunc, .nilFunc, .nilFunc, .nilFunc, .nilFunc, .nilFunc, .nilFunc, .nilFunc, .nilFunc] 96 (0, 0)) from heap_alloc_new _ _)
  have HW := Lib.hid (shiftW_u8' w)
  go_enter Tryd.func48, Tryd.ntmps48
  go_wp2_with (refine wpList_store_row rfl 96 (.tmp 11) (.tmp 14) rfl w.heap.size #[.nilFunc, .nilFunc, .nilFunc, .nilFunc, .nilFunc, .nilFunc, .nilFunc, .nilFunc, .nilFunc, .nilFunc, .nilFunc, .nilFunc, .nilFunc, .nilFunc, .nilFunc, .nilFunc, .nilFunc, .nilFunc, .nilFunc, .nilFunc, .func (.func 127) #[] #[], .func (.func 128) #[] #[], .func (.func 129) #[] #[], .func (.func 130) #[] #[], .func (.func 131) #[] #[], .nilFunc, .nilFunc, .nilFunc, .nilFunc, .nilFunc, .nilFunc, .nilFunc, .nilFunc, .nilFunc, .nilFunc, .nilFunc, .nilFunc, .nilFunc, .nilFunc, .nilFunc, .nilFunc, .nilFunc, .nilFunc, .nilFunc, .nilFunc] rfl rfl 96 _ HG.out (by kernel_rfl) rfl (by simp [Value.oneCell']) ?_; generalize hW9 : ((w.alloc (.cells #[.nilFunc, .nilFunc, .nilFunc, .nilFunc, .nilFunc, .nilFunc, .nilFunc, .nilFunc, .nilFunc, .nilFunc, .nilFunc, .nilFunc, .nilFunc, .nilFunc, .nilFunc, .nilFunc, .nilFunc, .nilFunc, .nilFunc, .nilFunc, .nilFunc, .nilFunc, .nilFunc, .nilFunc, .nilFunc, .nilFunc, .nilFunc, .nilFunc, .nilFunc, .nilFunc, .nilFunc, .nilFunc, .nilFunc, .nilFunc, .nilFunc, .nilFunc, .nilFunc, .nilFunc, .nilFunc, .nilFunc, .nilFunc, .nilFunc, .nilFunc, .nilFunc, .nilFunc] 96)).setRow w.heap.size #[.nilFunc, .nilFunc, .nilFunc, .nilFunc, .nilFunc, .nilFunc, .nilFunc, .nilFunc, .nilFunc, .nilFunc, .nilFunc, .nilFunc, .nilFunc, .nilFunc, .nilFunc, .nilFunc, .nilFunc, .nilFunc, .nilFunc, .nilFunc, .func (.func 127) #[] #[], .func (.func 128) #[] #[], .func (.func 129) #[] #[], .func (.func 130) #[] #[], .func (.func 131) #[] #[], .nilFunc, .nilFunc, .nilFunc, .nilFunc, .nilFunc, .nilFunc, .nilFunc, .nilFunc, .nilFunc, .nilFunc, .nilFunc, .nilFunc, .nilFunc, .nilFunc, .nilFunc, .nilFunc, .nilFunc, .nilFunc, .nilFunc, .nilFunc]) = W9 at *; clear hW9)
  clear HG
  have hc := (cell_of_row _ _ 24 _ _ _ HW.out.row).trans (show shiftRow_u8[24]? = some (.func (.func 131) #[] #[]) from rfl)
  have KE := fun W => eqNo1_u8 (.func 131) #[] #[] W
  refine (CO.out _).mono ?_
  rintro e w2 ⟨rfl, rfl⟩
  go_wp2_with fail
  refine (highest_u8 _).mono ?_
  rintro e w2 ⟨rfl, rfl⟩
  go_wp2_with fail
  refine (CL.out _).mono ?_
  rintro e w2 ⟨rfl, e2⟩
  obtain rfl := e2
  go_wp2
  clear hn hL hmx
  go_loop [3, 12, 34] (fun fl v i => ∃ j : Nat, j ≤ n ∧ i = .int .i64 j ∧ v = .int .u8 (((g j).1 : Nat) : Int) ∧ fl = .int .i64 (g j).2) (fun _ _ i => n - (intOf i).toNat)
  case atStart => exact ⟨0, Nat.zero_le _, rfl, by rw [G0.out], by rw [G1.out]⟩
  case round =>
    obtain ⟨j, hj, rfl, rfl, rfl⟩ := hrel
    by_cases hlt : j < n
    · have CJ := Lib.hid (fun w => CX.out j w hlt)
      go_wp2_with fail
      refine (CJ.out _).mono ?_
      rintro e w3 ⟨rfl, rfl⟩
      go_wp2
      go_round
      case rel => exact ⟨j + 1, by omega, by go_num, rfl, rfl⟩
      case measure => simp [intOf]; omega
    · have e : j = n := by omega
      subst e
      go_wp2
      go_ret3
      exact ⟨rfl, HW.out.be⟩
end Go.Proofs.YtifpcfhfglkbcaaDoor
