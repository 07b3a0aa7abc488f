/-
  What the functions of impl/l06_flags.go for numbers of 1, 2, 4 and 8 bytes do: sums, differences, bits, and their flags; conditions: those in each head.
-/
import Derived.Test.YtifpcfhfglkbcaaDoorWalkHolds
import Derived.Test.YtifpcfhfglkbcaaDoorWalkSign
import Derived.Test.YtifpcfhfglkbcaaDoorMathAl
import Derived.Test.YtifpcfhfglkbcaaDoorShelf
import Derived.Laws.Tables
import Derived.Laws.CopyOwn
import Derived.Laws.NewBlocks
namespace Go.Proofs.YtifpcfhfglkbcaaDoor
open Go.RowKit
set_option linter.unusedVariables false
set_option linter.unusedSimpArgs false
theorem ret_k {k : IntKind} {a b : Int} (h : a = b) : Ending.returned (.int k a) = .returned (.int k b) := by rw [h]
theorem ret_kt {k : IntKind} {a b : Int} {c d : Int} (h : a = b) (h2 : c = d) : Ending.returned (.tuple #[.int k a, .int .i64 c]) = .returned (.tuple #[.int k b, .int .i64 d]) := by rw [h, h2]
theorem cst (w B : Nat) (h : (2 : Int) ^ w = (B : Int)) : (2 : Nat) ^ w = B := by have : ((2 ^ w : Nat) : Int) = (B : Int) := by simpa using h
                                                                                  omega
set_option maxHeartbeats 400000 in
theorem flagIfC (f : Int) (b : Bool) (w : World) : Calls Tryd.prog 158 #[.int .i64 f, .bool b] w fun e w' => e = .returned (.int .i64 (bif b then f else 0)) ∧ w = w' := by
  cases b
  all_goals
    go_enter Tryd.func158, Tryd.ntmps158
    go_wp2
    go_ret
    exact ⟨rfl, rfl⟩
/-- what withCarry makes of flags -/
def wCar (f : Int) (a b : Bool) : Int := bits .or .i64 (bits .or .i64 (bits .andNot .i64 f 2049) (bif a then 1 else 0)) (bif b then 2048 else 0)
theorem wCar_eq (c p z s o a b : Bool) : wCar (flV c p z s o) a b = flV a p z s b := or5 a p z s b _ (.inr ⟨c, o, rfl⟩)
set_option maxHeartbeats 400000 in
theorem withCarryC (f : Int) (a b : Bool) (w : World) : Calls Tryd.prog 59 #[.int .i64 f, .bool a, .bool b] w fun e w' => e = .returned (.int .i64 (wCar f a b)) ∧ w = w' := by
  have CF := Lib.hid flagIfC
  go_enter Tryd.func59, Tryd.ntmps59
  go_wp2_with fail
  refine (CF.out _ _ _).mono ?_
  rintro e w1 ⟨rfl, rfl⟩
  go_wp2_with fail
  refine (CF.out _ _ _).mono ?_
  rintro e w1 ⟨rfl, rfl⟩
  go_wp2
  go_ret
  exact ⟨rfl, rfl⟩
theorem par_cast (n : Nat) : (((n : Int) % 2) == 0) = (n % 2 == 0) := by
  rcases (by omega : n % 2 = 0 ∨ n % 2 = 1) with h | h
  · rw [h, show ((n : Int) % 2) = 0 by omega]; rfl
  · rw [h, show ((n : Int) % 2) = 1 by omega]; rfl
theorem mod_nat {x : Int} (h : 0 ≤ x) : (x % 256).toNat = x.toNat % 256 := by omega
set_option maxHeartbeats 400000 in
theorem highest_u8 (w : World) : Calls Tryd.prog 133 #[] w fun e w' => e = .returned (.int .u8 128) ∧ w = w' := by
  go_enter Tryd.func133, Tryd.ntmps133
  go_wp2
  go_ret
  exact ⟨ret_k (by decide +kernel), rfl⟩
set_option maxHeartbeats 400000 in
theorem isHigh_u8 (x : Int) (w : World) : Calls Tryd.prog 169 #[.int .u8 x] w fun e w' => e = .returned (.bool (decide (128 ≤ x))) ∧ w = w' := by
  have CH := Lib.hid highest_u8
  go_enter Tryd.func169, Tryd.ntmps169
  go_wp2_with fail
  refine (CH.out _).mono ?_
  rintro e w1 ⟨rfl, rfl⟩
  go_wp2
  go_ret
  exact ⟨rfl, rfl⟩
set_option maxHeartbeats 400000 in
theorem isOdd_u8 (x : Int) (w : World) : Calls Tryd.prog 186 #[.int .u8 x] w fun e w' => e = .returned (.bool (bits .and .u8 x 1 == 1)) ∧ w = w' := by
  go_enter Tryd.func186, Tryd.ntmps186
  go_wp2
  go_ret
  exact ⟨rfl, rfl⟩
set_option maxHeartbeats 400000 in
theorem flagsOf_u8 (x : Int) (h0 : 0 ≤ x) (h1 : x ≤ 255) (w : World) : Calls Tryd.prog 71 #[.int .u8 x] w fun e w' => e = .returned (.int .i64 (flV false (parN x.toNat) (x == 0) (decide (128 ≤ x)) false)) ∧ w = w' := by
  have CH := Lib.hid (isHigh_u8 x)
  have CO := Lib.hid (fun y => Tryd.bits_OnesCount8 y)
  have CF := Lib.hid flagIfC
  have hp := Lib.hid (show Lib.onesCount x.toNat % 2 = Lib.onesCount (x.toNat % 256) % 2 by rw [Nat.mod_eq_of_lt (show x.toNat < 256 by omega)])
  go_enter Tryd.func71, Tryd.ntmps71
  go_wp2_with fail
  refine (CO.out _ _ (by omega) (by omega)).mono ?_
  rintro e w1 ⟨rfl, rfl⟩
  go_wp2_with fail
  refine (CH.out _).mono ?_
  rintro e w1 ⟨rfl, rfl⟩
  go_wp2_with fail
  refine (CF.out _ _ _).mono ?_
  rintro e w1 ⟨rfl, rfl⟩
  go_wp2_with fail
  refine (CF.out _ _ _).mono ?_
  rintro e w1 ⟨rfl, rfl⟩
  go_wp2_with fail
  refine (CF.out _ _ _).mono ?_
  rintro e w1 ⟨rfl, rfl⟩
  go_wp2
  go_ret
  refine ⟨ret_k ?_, rfl⟩
  rw [par_cast, hp.out]
  exact or3 _ _ _
set_option maxHeartbeats 400000 in
theorem summed_u8 (x c : Int) (h0 : 0 ≤ x) (h1 : x ≤ 255) (w : World) : Calls Tryd.prog 203 #[.int .u8 x, .int .u8 c] w fun e w' => e = .returned (.int .i64 (smd 128 x c (c * 2 % 256))) ∧ w = w' := by
  have CH := Lib.hid isHigh_u8
  have CS := Lib.hid (fun w => flagsOf_u8 x h0 h1 w)
  have CW := Lib.hid withCarryC
  go_enter Tryd.func203, Tryd.ntmps203
  go_wp2_with fail
  refine (CH.out _ _).mono ?_
  rintro e w1 ⟨rfl, rfl⟩
  go_wp2_with fail
  refine (CH.out _ _).mono ?_
  rintro e w1 ⟨rfl, rfl⟩
  go_wp2_with fail
  refine (CS.out _).mono ?_
  rintro e w1 ⟨rfl, rfl⟩
  go_wp2_with fail
  refine (CW.out _ _ _ _).mono ?_
  rintro e w1 ⟨rfl, rfl⟩
  go_wp2
  go_ret
  refine ⟨ret_k ?_, rfl⟩
  rw [wCar_eq]
  first | rfl | (rw [wU8]; rfl)
set_option maxHeartbeats 1000000 in
theorem plus_u8 (A B c : Nat) (hA : A < 2 ^ 8) (hB : B < 2 ^ 8) (hc : c ≤ 1) (w : World) : Calls Tryd.prog 174 #[.int .u8 (A : Int), .int .u8 (B : Int), .int .u8 (c : Int)] w fun e w' => e = .returned (.tuple #[.int .u8 ((sumN 8 A B c : Nat) : Int), .int .i64 (sumF 8 A B c)]) ∧ w = w' := by
  obtain ⟨a, ha⟩ : ∃ a : Int, a = (A : Int) := ⟨_, rfl⟩
  obtain ⟨b, hb⟩ : ∃ b : Int, b = (B : Int) := ⟨_, rfl⟩
  obtain ⟨d, hd⟩ : ∃ d : Int, d = (c : Int) := ⟨_, rfl⟩
  rw [← ha, ← hb, ← hd]
  have HA := Lib.hid ha; have HB := Lib.hid hb; have HD := Lib.hid hd; have LA := Lib.hid hA; have LB := Lib.hid hB; have LC := Lib.hid hc
  clear ha hb hd hA hB hc
  have CS := Lib.hid summed_u8
  go_enter Tryd.func174, Tryd.ntmps174
  go_wp2_with fail
  refine (CS.out _ _ (by first | omega | (rw [wU8]; omega) | (simp only [wU8, wU16, wU32, wU64]; omega)) (by first | omega | (rw [wU8]; omega) | (simp only [wU8, wU16, wU32, wU64]; omega)) _).mono ?_
  rintro e w1 ⟨rfl, rfl⟩
  go_wp2
  go_ret2
  have la := LA.out; have lb := LB.out; have lc := LC.out
  rw [HA.out, HB.out, HD.out]
  refine ⟨ret_kt ?_ ?_, rfl⟩
  · (try unfold sumN); (try simp only [wU8]); omega
  · refine sum_fin (w := 8) (by decide) la lb lc (by decide +kernel) ?_ ?_ (by rfl)
    · (try unfold sumN); (try simp only [wU8]); omega
    · exact car_y (k := .u8) rfl la lb (by show _ = (((A + B + c) % 2 ^ 8 : Nat) : Int); (try unfold sumN); (try simp only [wU8]); omega)
set_option maxHeartbeats 1000000 in
theorem minus_u8 (A B c : Nat) (hA : A < 2 ^ 8) (hB : B < 2 ^ 8) (hc : c ≤ 1) (w : World) : Calls Tryd.prog 175 #[.int .u8 (A : Int), .int .u8 (B : Int), .int .u8 (c : Int)] w fun e w' => e = .returned (.tuple #[.int .u8 ((difN 8 A B c : Nat) : Int), .int .i64 (difF 8 A B c)]) ∧ w = w' := by
  obtain ⟨a, ha⟩ : ∃ a : Int, a = (A : Int) := ⟨_, rfl⟩
  obtain ⟨b, hb⟩ : ∃ b : Int, b = (B : Int) := ⟨_, rfl⟩
  obtain ⟨d, hd⟩ : ∃ d : Int, d = (c : Int) := ⟨_, rfl⟩
  rw [← ha, ← hb, ← hd]
  have HA := Lib.hid ha; have HB := Lib.hid hb; have HD := Lib.hid hd; have LA := Lib.hid hA; have LB := Lib.hid hB; have LC := Lib.hid hc
  clear ha hb hd hA hB hc
  have CS := Lib.hid summed_u8
  go_enter Tryd.func175, Tryd.ntmps175
  go_wp2_with fail
  refine (CS.out _ _ (by first | omega | (rw [wU8]; omega) | (simp only [wU8, wU16, wU32, wU64]; omega)) (by first | omega | (rw [wU8]; omega) | (simp only [wU8, wU16, wU32, wU64]; omega)) _).mono ?_
  rintro e w1 ⟨rfl, rfl⟩
  go_wp2
  go_ret2
  have la := LA.out; have lb := LB.out; have lc := LC.out
  rw [HA.out, HB.out, HD.out]
  refine ⟨ret_kt ?_ ?_, rfl⟩
  · rw [difN_int la]; (try simp only [wU8]); omega
  · refine dif_fin (w := 8) (by decide) la lb lc (by decide +kernel) ?_ ?_ (by rfl)
    · rw [difN_int la]; (try simp only [wU8]); omega
    · exact car_m (k := .u8) rfl la lb (by show _ = ((difN 8 A B c : Nat) : Int); rw [difN_int la]; (try simp only [wU8]); omega)
set_option maxHeartbeats 400000 in
theorem highest_u16 (w : World) : Calls Tryd.prog 139 #[] w fun e w' => e = .returned (.int .u16 32768) ∧ w = w' := by
  go_enter Tryd.func139, Tryd.ntmps139
  go_wp2
  go_ret
  exact ⟨ret_k (by decide +kernel), rfl⟩
set_option maxHeartbeats 400000 in
theorem isHigh_u16 (x : Int) (w : World) : Calls Tryd.prog 170 #[.int .u16 x] w fun e w' => e = .returned (.bool (decide (32768 ≤ x))) ∧ w = w' := by
  have CH := Lib.hid highest_u16
  go_enter Tryd.func170, Tryd.ntmps170
  go_wp2_with fail
  refine (CH.out _).mono ?_
  rintro e w1 ⟨rfl, rfl⟩
  go_wp2
  go_ret
  exact ⟨rfl, rfl⟩
set_option maxHeartbeats 400000 in
theorem isOdd_u16 (x : Int) (w : World) : Calls Tryd.prog 187 #[.int .u16 x] w fun e w' => e = .returned (.bool (bits .and .u16 x 1 == 1)) ∧ w = w' := by
  go_enter Tryd.func187, Tryd.ntmps187
  go_wp2
  go_ret
  exact ⟨rfl, rfl⟩
set_option maxHeartbeats 400000 in
theorem flagsOf_u16 (x : Int) (h0 : 0 ≤ x) (h1 : x ≤ 65535) (w : World) : Calls Tryd.prog 72 #[.int .u16 x] w fun e w' => e = .returned (.int .i64 (flV false (parN x.toNat) (x == 0) (decide (32768 ≤ x)) false)) ∧ w = w' := by
  have CH := Lib.hid (isHigh_u16 x)
  have CO := Lib.hid (fun y => Tryd.bits_OnesCount8 y)
  have CF := Lib.hid flagIfC
  have hp := Lib.hid (show Lib.onesCount (x % 256).toNat % 2 = Lib.onesCount (x.toNat % 256) % 2 by rw [mod_nat h0])
  go_enter Tryd.func72, Tryd.ntmps72
  go_wp2_with fail
  refine (CO.out _ _ (by omega) (by omega)).mono ?_
  rintro e w1 ⟨rfl, rfl⟩
  go_wp2_with fail
  refine (CH.out _).mono ?_
  rintro e w1 ⟨rfl, rfl⟩
  go_wp2_with fail
  refine (CF.out _ _ _).mono ?_
  rintro e w1 ⟨rfl, rfl⟩
  go_wp2_with fail
  refine (CF.out _ _ _).mono ?_
  rintro e w1 ⟨rfl, rfl⟩
  go_wp2_with fail
  refine (CF.out _ _ _).mono ?_
  rintro e w1 ⟨rfl, rfl⟩
  go_wp2
  go_ret
  refine ⟨ret_k ?_, rfl⟩
  rw [par_cast, hp.out]
  exact or3 _ _ _
set_option maxHeartbeats 400000 in
theorem summed_u16 (x c : Int) (h0 : 0 ≤ x) (h1 : x ≤ 65535) (w : World) : Calls Tryd.prog 204 #[.int .u16 x, .int .u16 c] w fun e w' => e = .returned (.int .i64 (smd 32768 x c (c * 2 % 65536))) ∧ w = w' := by
  have CH := Lib.hid isHigh_u16
  have CS := Lib.hid (fun w => flagsOf_u16 x h0 h1 w)
  have CW := Lib.hid withCarryC
  go_enter Tryd.func204, Tryd.ntmps204
  go_wp2_with fail
  refine (CH.out _ _).mono ?_
  rintro e w1 ⟨rfl, rfl⟩
  go_wp2_with fail
  refine (CH.out _ _).mono ?_
  rintro e w1 ⟨rfl, rfl⟩
  go_wp2_with fail
  refine (CS.out _).mono ?_
  rintro e w1 ⟨rfl, rfl⟩
  go_wp2_with fail
  refine (CW.out _ _ _ _).mono ?_
  rintro e w1 ⟨rfl, rfl⟩
  go_wp2
  go_ret
  refine ⟨ret_k ?_, rfl⟩
  rw [wCar_eq]
  first | rfl | (rw [wU16]; rfl)
set_option maxHeartbeats 1000000 in
theorem plus_u16 (A B c : Nat) (hA : A < 2 ^ 16) (hB : B < 2 ^ 16) (hc : c ≤ 1) (w : World) : Calls Tryd.prog 177 #[.int .u16 (A : Int), .int .u16 (B : Int), .int .u16 (c : Int)] w fun e w' => e = .returned (.tuple #[.int .u16 ((sumN 16 A B c : Nat) : Int), .int .i64 (sumF 16 A B c)]) ∧ w = w' := by
  obtain ⟨a, ha⟩ : ∃ a : Int, a = (A : Int) := ⟨_, rfl⟩
  obtain ⟨b, hb⟩ : ∃ b : Int, b = (B : Int) := ⟨_, rfl⟩
  obtain ⟨d, hd⟩ : ∃ d : Int, d = (c : Int) := ⟨_, rfl⟩
  rw [← ha, ← hb, ← hd]
  have HA := Lib.hid ha; have HB := Lib.hid hb; have HD := Lib.hid hd; have LA := Lib.hid hA; have LB := Lib.hid hB; have LC := Lib.hid hc
  clear ha hb hd hA hB hc
  have CS := Lib.hid summed_u16
  go_enter Tryd.func177, Tryd.ntmps177
  go_wp2_with fail
  refine (CS.out _ _ (by first | omega | (rw [wU16]; omega) | (simp only [wU8, wU16, wU32, wU64]; omega)) (by first | omega | (rw [wU16]; omega) | (simp only [wU8, wU16, wU32, wU64]; omega)) _).mono ?_
  rintro e w1 ⟨rfl, rfl⟩
  go_wp2
  go_ret2
  have la := LA.out; have lb := LB.out; have lc := LC.out
  rw [HA.out, HB.out, HD.out]
  refine ⟨ret_kt ?_ ?_, rfl⟩
  · (try unfold sumN); (try simp only [wU16]); omega
  · refine sum_fin (w := 16) (by decide) la lb lc (by decide +kernel) ?_ ?_ (by rfl)
    · (try unfold sumN); (try simp only [wU16]); omega
    · exact car_y (k := .u16) rfl la lb (by show _ = (((A + B + c) % 2 ^ 16 : Nat) : Int); (try unfold sumN); (try simp only [wU16]); omega)
set_option maxHeartbeats 1000000 in
theorem minus_u16 (A B c : Nat) (hA : A < 2 ^ 16) (hB : B < 2 ^ 16) (hc : c ≤ 1) (w : World) : Calls Tryd.prog 178 #[.int .u16 (A : Int), .int .u16 (B : Int), .int .u16 (c : Int)] w fun e w' => e = .returned (.tuple #[.int .u16 ((difN 16 A B c : Nat) : Int), .int .i64 (difF 16 A B c)]) ∧ w = w' := by
  obtain ⟨a, ha⟩ : ∃ a : Int, a = (A : Int) := ⟨_, rfl⟩
  obtain ⟨b, hb⟩ : ∃ b : Int, b = (B : Int) := ⟨_, rfl⟩
  obtain ⟨d, hd⟩ : ∃ d : Int, d = (c : Int) := ⟨_, rfl⟩
  rw [← ha, ← hb, ← hd]
  have HA := Lib.hid ha; have HB := Lib.hid hb; have HD := Lib.hid hd; have LA := Lib.hid hA; have LB := Lib.hid hB; have LC := Lib.hid hc
  clear ha hb hd hA hB hc
  have CS := Lib.hid summed_u16
  go_enter Tryd.func178, Tryd.ntmps178
  go_wp2_with fail
  refine (CS.out _ _ (by first | omega | (rw [wU16]; omega) | (simp only [wU8, wU16, wU32, wU64]; omega)) (by first | omega | (rw [wU16]; omega) | (simp only [wU8, wU16, wU32, wU64]; omega)) _).mono ?_
  rintro e w1 ⟨rfl, rfl⟩
  go_wp2
  go_ret2
  have la := LA.out; have lb := LB.out; have lc := LC.out
  rw [HA.out, HB.out, HD.out]
  refine ⟨ret_kt ?_ ?_, rfl⟩
  · rw [difN_int la]; (try simp only [wU16]); omega
  · refine dif_fin (w := 16) (by decide) la lb lc (by decide +kernel) ?_ ?_ (by rfl)
    · rw [difN_int la]; (try simp only [wU16]); omega
    · exact car_m (k := .u16) rfl la lb (by show _ = ((difN 16 A B c : Nat) : Int); rw [difN_int la]; (try simp only [wU16]); omega)
set_option maxHeartbeats 400000 in
theorem highest_u32 (w : World) : Calls Tryd.prog 145 #[] w fun e w' => e = .returned (.int .u32 2147483648) ∧ w = w' := by
  go_enter Tryd.func145, Tryd.ntmps145
  go_wp2
  go_ret
  exact ⟨ret_k (by decide +kernel), rfl⟩
set_option maxHeartbeats 400000 in
theorem isHigh_u32 (x : Int) (w : World) : Calls Tryd.prog 171 #[.int .u32 x] w fun e w' => e = .returned (.bool (decide (2147483648 ≤ x))) ∧ w = w' := by
  have CH := Lib.hid highest_u32
  go_enter Tryd.func171, Tryd.ntmps171
  go_wp2_with fail
  refine (CH.out _).mono ?_
  rintro e w1 ⟨rfl, rfl⟩
  go_wp2
  go_ret
  exact ⟨rfl, rfl⟩
set_option maxHeartbeats 400000 in
theorem isOdd_u32 (x : Int) (w : World) : Calls Tryd.prog 188 #[.int .u32 x] w fun e w' => e = .returned (.bool (bits .and .u32 x 1 == 1)) ∧ w = w' := by
  go_enter Tryd.func188, Tryd.ntmps188
  go_wp2
  go_ret
  exact ⟨rfl, rfl⟩
set_option maxHeartbeats 400000 in
theorem flagsOf_u32 (x : Int) (h0 : 0 ≤ x) (h1 : x ≤ 4294967295) (w : World) : Calls Tryd.prog 73 #[.int .u32 x] w fun e w' => e = .returned (.int .i64 (flV false (parN x.toNat) (x == 0) (decide (2147483648 ≤ x)) false)) ∧ w = w' := by
  have CH := Lib.hid (isHigh_u32 x)
  have CO := Lib.hid (fun y => Tryd.bits_OnesCount8 y)
  have CF := Lib.hid flagIfC
  have hp := Lib.hid (show Lib.onesCount (x % 256).toNat % 2 = Lib.onesCount (x.toNat % 256) % 2 by rw [mod_nat h0])
  go_enter Tryd.func73, Tryd.ntmps73
  go_wp2_with fail
  refine (CO.out _ _ (by omega) (by omega)).mono ?_
  rintro e w1 ⟨rfl, rfl⟩
  go_wp2_with fail
  refine (CH.out _).mono ?_
  rintro e w1 ⟨rfl, rfl⟩
  go_wp2_with fail
  refine (CF.out _ _ _).mono ?_
  rintro e w1 ⟨rfl, rfl⟩
  go_wp2_with fail
  refine (CF.out _ _ _).mono ?_
  rintro e w1 ⟨rfl, rfl⟩
  go_wp2_with fail
  refine (CF.out _ _ _).mono ?_
  rintro e w1 ⟨rfl, rfl⟩
  go_wp2
  go_ret
  refine ⟨ret_k ?_, rfl⟩
  rw [par_cast, hp.out]
  exact or3 _ _ _
set_option maxHeartbeats 400000 in
theorem summed_u32 (x c : Int) (h0 : 0 ≤ x) (h1 : x ≤ 4294967295) (w : World) : Calls Tryd.prog 205 #[.int .u32 x, .int .u32 c] w fun e w' => e = .returned (.int .i64 (smd 2147483648 x c (c * 2 % 4294967296))) ∧ w = w' := by
  have CH := Lib.hid isHigh_u32
  have CS := Lib.hid (fun w => flagsOf_u32 x h0 h1 w)
  have CW := Lib.hid withCarryC
  go_enter Tryd.func205, Tryd.ntmps205
  go_wp2_with fail
  refine (CH.out _ _).mono ?_
  rintro e w1 ⟨rfl, rfl⟩
  go_wp2_with fail
  refine (CH.out _ _).mono ?_
  rintro e w1 ⟨rfl, rfl⟩
  go_wp2_with fail
  refine (CS.out _).mono ?_
  rintro e w1 ⟨rfl, rfl⟩
  go_wp2_with fail
  refine (CW.out _ _ _ _).mono ?_
  rintro e w1 ⟨rfl, rfl⟩
  go_wp2
  go_ret
  refine ⟨ret_k ?_, rfl⟩
  rw [wCar_eq]
  first | rfl | (rw [wU32]; rfl)
set_option maxHeartbeats 1000000 in
theorem plus_u32 (A B c : Nat) (hA : A < 2 ^ 32) (hB : B < 2 ^ 32) (hc : c ≤ 1) (w : World) : Calls Tryd.prog 180 #[.int .u32 (A : Int), .int .u32 (B : Int), .int .u32 (c : Int)] w fun e w' => e = .returned (.tuple #[.int .u32 ((sumN 32 A B c : Nat) : Int), .int .i64 (sumF 32 A B c)]) ∧ w = w' := by
  obtain ⟨a, ha⟩ : ∃ a : Int, a = (A : Int) := ⟨_, rfl⟩
  obtain ⟨b, hb⟩ : ∃ b : Int, b = (B : Int) := ⟨_, rfl⟩
  obtain ⟨d, hd⟩ : ∃ d : Int, d = (c : Int) := ⟨_, rfl⟩
  rw [← ha, ← hb, ← hd]
  have HA := Lib.hid ha; have HB := Lib.hid hb; have HD := Lib.hid hd; have LA := Lib.hid hA; have LB := Lib.hid hB; have LC := Lib.hid hc
  clear ha hb hd hA hB hc
  have CS := Lib.hid summed_u32
  go_enter Tryd.func180, Tryd.ntmps180
  go_wp2_with fail
  refine (CS.out _ _ (by first | omega | (rw [wU32]; omega) | (simp only [wU8, wU16, wU32, wU64]; omega)) (by first | omega | (rw [wU32]; omega) | (simp only [wU8, wU16, wU32, wU64]; omega)) _).mono ?_
  rintro e w1 ⟨rfl, rfl⟩
  go_wp2
  go_ret2
  have la := LA.out; have lb := LB.out; have lc := LC.out
  rw [HA.out, HB.out, HD.out]
  refine ⟨ret_kt ?_ ?_, rfl⟩
  · (try unfold sumN); (try simp only [wU32]); omega
  · refine sum_fin (w := 32) (by decide) la lb lc (by decide +kernel) ?_ ?_ (by rfl)
    · (try unfold sumN); (try simp only [wU32]); omega
    · exact car_y (k := .u32) rfl la lb (by show _ = (((A + B + c) % 2 ^ 32 : Nat) : Int); (try unfold sumN); (try simp only [wU32]); omega)
set_option maxHeartbeats 1000000 in
theorem minus_u32 (A B c : Nat) (hA : A < 2 ^ 32) (hB : B < 2 ^ 32) (hc : c ≤ 1) (w : World) : Calls Tryd.prog 181 #[.int .u32 (A : Int), .int .u32 (B : Int), .int .u32 (c : Int)] w fun e w' => e = .returned (.tuple #[.int .u32 ((difN 32 A B c : Nat) : Int), .int .i64 (difF 32 A B c)]) ∧ w = w' := by
  obtain ⟨a, ha⟩ : ∃ a : Int, a = (A : Int) := ⟨_, rfl⟩
  obtain ⟨b, hb⟩ : ∃ b : Int, b = (B : Int) := ⟨_, rfl⟩
  obtain ⟨d, hd⟩ : ∃ d : Int, d = (c : Int) := ⟨_, rfl⟩
  rw [← ha, ← hb, ← hd]
  have HA := Lib.hid ha; have HB := Lib.hid hb; have HD := Lib.hid hd; have LA := Lib.hid hA; have LB := Lib.hid hB; have LC := Lib.hid hc
  clear ha hb hd hA hB hc
  have CS := Lib.hid summed_u32
  go_enter Tryd.func181, Tryd.ntmps181
  go_wp2_with fail
  refine (CS.out _ _ (by first | omega | (rw [wU32]; omega) | (simp only [wU8, wU16, wU32, wU64]; omega)) (by first | omega | (rw [wU32]; omega) | (simp only [wU8, wU16, wU32, wU64]; omega)) _).mono ?_
  rintro e w1 ⟨rfl, rfl⟩
  go_wp2
  go_ret2
  have la := LA.out; have lb := LB.out; have lc := LC.out
  rw [HA.out, HB.out, HD.out]
  refine ⟨ret_kt ?_ ?_, rfl⟩
  · rw [difN_int la]; (try simp only [wU32]); omega
  · refine dif_fin (w := 32) (by decide) la lb lc (by decide +kernel) ?_ ?_ (by rfl)
    · rw [difN_int la]; (try simp only [wU32]); omega
    · exact car_m (k := .u32) rfl la lb (by show _ = ((difN 32 A B c : Nat) : Int); rw [difN_int la]; (try simp only [wU32]); omega)
set_option maxHeartbeats 400000 in
theorem highest_u64 (w : World) : Calls Tryd.prog 151 #[] w fun e w' => e = .returned (.int .u64 9223372036854775808) ∧ w = w' := by
  go_enter Tryd.func151, Tryd.ntmps151
  go_wp2
  go_ret
  exact ⟨ret_k (by decide +kernel), rfl⟩
set_option maxHeartbeats 400000 in
theorem isHigh_u64 (x : Int) (w : World) : Calls Tryd.prog 172 #[.int .u64 x] w fun e w' => e = .returned (.bool (decide (9223372036854775808 ≤ x))) ∧ w = w' := by
  have CH := Lib.hid highest_u64
  go_enter Tryd.func172, Tryd.ntmps172
  go_wp2_with fail
  refine (CH.out _).mono ?_
  rintro e w1 ⟨rfl, rfl⟩
  go_wp2
  go_ret
  exact ⟨rfl, rfl⟩
set_option maxHeartbeats 400000 in
theorem isOdd_u64 (x : Int) (w : World) : Calls Tryd.prog 189 #[.int .u64 x] w fun e w' => e = .returned (.bool (bits .and .u64 x 1 == 1)) ∧ w = w' := by
  go_enter Tryd.func189, Tryd.ntmps189
  go_wp2
  go_ret
  exact ⟨rfl, rfl⟩
set_option maxHeartbeats 400000 in
theorem flagsOf_u64 (x : Int) (h0 : 0 ≤ x) (h1 : x ≤ 18446744073709551615) (w : World) : Calls Tryd.prog 74 #[.int .u64 x] w fun e w' => e = .returned (.int .i64 (flV false (parN x.toNat) (x == 0) (decide (9223372036854775808 ≤ x)) false)) ∧ w = w' := by
  have CH := Lib.hid (isHigh_u64 x)
  have CO := Lib.hid (fun y => Tryd.bits_OnesCount8 y)
  have CF := Lib.hid flagIfC
  have hp := Lib.hid (show Lib.onesCount (x % 256).toNat % 2 = Lib.onesCount (x.toNat % 256) % 2 by rw [mod_nat h0])
  go_enter Tryd.func74, Tryd.ntmps74
  go_wp2_with fail
  refine (CO.out _ _ (by omega) (by omega)).mono ?_
  rintro e w1 ⟨rfl, rfl⟩
  go_wp2_with fail
  refine (CH.out _).mono ?_
  rintro e w1 ⟨rfl, rfl⟩
  go_wp2_with fail
  refine (CF.out _ _ _).mono ?_
  rintro e w1 ⟨rfl, rfl⟩
  go_wp2_with fail
  refine (CF.out _ _ _).mono ?_
  rintro e w1 ⟨rfl, rfl⟩
  go_wp2_with fail
  refine (CF.out _ _ _).mono ?_
  rintro e w1 ⟨rfl, rfl⟩
  go_wp2
  go_ret
  refine ⟨ret_k ?_, rfl⟩
  rw [par_cast, hp.out]
  exact or3 _ _ _
set_option maxHeartbeats 400000 in
theorem summed_u64 (x c : Int) (h0 : 0 ≤ x) (h1 : x ≤ 18446744073709551615) (w : World) : Calls Tryd.prog 206 #[.int .u64 x, .int .u64 c] w fun e w' => e = .returned (.int .i64 (smd 9223372036854775808 x c (c * 2 % 18446744073709551616))) ∧ w = w' := by
  have CH := Lib.hid isHigh_u64
  have CS := Lib.hid (fun w => flagsOf_u64 x h0 h1 w)
  have CW := Lib.hid withCarryC
  go_enter Tryd.func206, Tryd.ntmps206
  go_wp2_with fail
  refine (CH.out _ _).mono ?_
  rintro e w1 ⟨rfl, rfl⟩
  go_wp2_with fail
  refine (CH.out _ _).mono ?_
  rintro e w1 ⟨rfl, rfl⟩
  go_wp2_with fail
  refine (CS.out _).mono ?_
  rintro e w1 ⟨rfl, rfl⟩
  go_wp2_with fail
  refine (CW.out _ _ _ _).mono ?_
  rintro e w1 ⟨rfl, rfl⟩
  go_wp2
  go_ret
  refine ⟨ret_k ?_, rfl⟩
  rw [wCar_eq]
  first | rfl | (rw [wU64]; rfl)
set_option maxHeartbeats 1000000 in
theorem plus_u64 (A B c : Nat) (hA : A < 2 ^ 64) (hB : B < 2 ^ 64) (hc : c ≤ 1) (w : World) : Calls Tryd.prog 183 #[.int .u64 (A : Int), .int .u64 (B : Int), .int .u64 (c : Int)] w fun e w' => e = .returned (.tuple #[.int .u64 ((sumN 64 A B c : Nat) : Int), .int .i64 (sumF 64 A B c)]) ∧ w = w' := by
  obtain ⟨a, ha⟩ : ∃ a : Int, a = (A : Int) := ⟨_, rfl⟩
  obtain ⟨b, hb⟩ : ∃ b : Int, b = (B : Int) := ⟨_, rfl⟩
  obtain ⟨d, hd⟩ : ∃ d : Int, d = (c : Int) := ⟨_, rfl⟩
  rw [← ha, ← hb, ← hd]
  have HA := Lib.hid ha; have HB := Lib.hid hb; have HD := Lib.hid hd; have LA := Lib.hid hA; have LB := Lib.hid hB; have LC := Lib.hid hc
  clear ha hb hd hA hB hc
  have CS := Lib.hid summed_u64
  go_enter Tryd.func183, Tryd.ntmps183
  go_wp2_with fail
  refine (CS.out _ _ (by first | omega | (rw [wU64]; omega) | (simp only [wU8, wU16, wU32, wU64]; omega)) (by first | omega | (rw [wU64]; omega) | (simp only [wU8, wU16, wU32, wU64]; omega)) _).mono ?_
  rintro e w1 ⟨rfl, rfl⟩
  go_wp2
  go_ret2
  have la := LA.out; have lb := LB.out; have lc := LC.out
  rw [HA.out, HB.out, HD.out]
  refine ⟨ret_kt ?_ ?_, rfl⟩
  · (try unfold sumN); (try simp only [wU64]); omega
  · refine sum_fin (w := 64) (by decide) la lb lc (by decide +kernel) ?_ ?_ (by rfl)
    · (try unfold sumN); (try simp only [wU64]); omega
    · exact car_y (k := .u64) rfl la lb (by show _ = (((A + B + c) % 2 ^ 64 : Nat) : Int); (try unfold sumN); (try simp only [wU64]); omega)
set_option maxHeartbeats 1000000 in
theorem minus_u64 (A B c : Nat) (hA : A < 2 ^ 64) (hB : B < 2 ^ 64) (hc : c ≤ 1) (w : World) : Calls Tryd.prog 184 #[.int .u64 (A : Int), .int .u64 (B : Int), .int .u64 (c : Int)] w fun e w' => e = .returned (.tuple #[.int .u64 ((difN 64 A B c : Nat) : Int), .int .i64 (difF 64 A B c)]) ∧ w = w' := by
  obtain ⟨a, ha⟩ : ∃ a : Int, a = (A : Int) := ⟨_, rfl⟩
  obtain ⟨b, hb⟩ : ∃ b : Int, b = (B : Int) := ⟨_, rfl⟩
  obtain ⟨d, hd⟩ : ∃ d : Int, d = (c : Int) := ⟨_, rfl⟩
  rw [← ha, ← hb, ← hd]
  have HA := Lib.hid ha; have HB := Lib.hid hb; have HD := Lib.hid hd; have LA := Lib.hid hA; have LB := Lib.hid hB; have LC := Lib.hid hc
  clear ha hb hd hA hB hc
  have CS := Lib.hid summed_u64
  go_enter Tryd.func184, Tryd.ntmps184
  go_wp2_with fail
  refine (CS.out _ _ (by first | omega | (rw [wU64]; omega) | (simp only [wU8, wU16, wU32, wU64]; omega)) (by first | omega | (rw [wU64]; omega) | (simp only [wU8, wU16, wU32, wU64]; omega)) _).mono ?_
  rintro e w1 ⟨rfl, rfl⟩
  go_wp2
  go_ret2
  have la := LA.out; have lb := LB.out; have lc := LC.out
  rw [HA.out, HB.out, HD.out]
  refine ⟨ret_kt ?_ ?_, rfl⟩
  · rw [difN_int la]; (try simp only [wU64]); omega
  · refine dif_fin (w := 64) (by decide) la lb lc (by decide +kernel) ?_ ?_ (by rfl)
    · rw [difN_int la]; (try simp only [wU64]); omega
    · exact car_m (k := .u64) rfl la lb (by show _ = ((difN 64 A B c : Nat) : Int); rw [difN_int la]; (try simp only [wU64]); omega)
end Go.Proofs.YtifpcfhfglkbcaaDoor
