/-
  spec.l06Divide of a size, with signs, told by the contracts of its helpers; conditions: those in each head.
-/
import Derived.Test.YtbcbepdfijcbmaaDoorWalkDs
namespace Go.Proofs.YtbcbepdfijcbmaaDoor
open Go.RowKit
set_option linter.unusedVariables false
set_option maxRecDepth 100000 in
set_option maxHeartbeats 1000000 in
theorem divS16AFF2 (a b d h l h1 h2 l2 x0 x y q r q2 r2 q1 r1 : Int) (hmi : (h / 9223372036854775808 == 1) = false)  (hsn : decide (x < 0) = false) (hge : decide (y ≤ h) = true) (jn : ∀ w, Calls Tryd.prog 79 #[.int .i64 2, .int .i64 a, .int .i64 b, .bool true] w fun e w' => e = .returned (.tuple #[.int .u64 h, .int .u64 l]) ∧ w = w') (zd : ∀ w, Calls Tryd.prog 64 #[.int .i64 d, .int .i64 2] w fun e w' => e = .returned (.int .i64 x0) ∧ w = w') (sd : ∀ w, Calls Tryd.prog 81 #[.int .i64 d, .int .i64 2] w fun e w' => e = .returned (.int .i64 x) ∧ w = w') (us : ∀ w, Calls Tryd.prog 80 #[.int .i64 x] w fun e w' => e = .returned (.int .u64 y) ∧ w = w') (w : World) :
    Calls Tryd.prog 49 #[.int .i64 16, .int .i64 2, .int .i64 a, .int .i64 b, .int .i64 d] w fun e w' => e = .returned (.tuple #[.int .i64 0, .int .i64 0, .bool false]) ∧ w = w' := by
  have Czd := Lib.hid zd; have Cjn := Lib.hid jn; have Csd := Lib.hid sd; have Cus := Lib.hid us
  clear jn zd sd us
  go_enter Tryd.func49, Tryd.ntmps49
  go_wp2_with fail
  refine (Cjn.out _).mono ?_
  rintro e w1 ⟨rfl, rfl⟩
  go_wp2_with fail
  refine (Czd.out _).mono ?_
  rintro e w1 ⟨rfl, rfl⟩
  go_wp2_with fail
  refine (Csd.out _).mono ?_
  rintro e w1 ⟨rfl, rfl⟩
  go_wp2_with fail
  refine (Cus.out _).mono ?_
  rintro e w1 ⟨rfl, rfl⟩
  go_wp2_with fail
  refine (Csd.out _).mono ?_
  rintro e w1 ⟨rfl, rfl⟩
  go_wp2
  go_ret3
  exact ⟨rfl, rfl⟩
set_option maxRecDepth 100000 in
set_option maxHeartbeats 1000000 in
theorem divS16BFF2 (a b d h l h1 h2 l2 x0 x y q r q2 r2 q1 r1 : Int) (hmi : (h / 9223372036854775808 == 1) = false)  (hsn : decide (x < 0) = false) (hge : decide (y ≤ h) = false) (hov : decide (32768 < q) = true) (jn : ∀ w, Calls Tryd.prog 79 #[.int .i64 2, .int .i64 a, .int .i64 b, .bool true] w fun e w' => e = .returned (.tuple #[.int .u64 h, .int .u64 l]) ∧ w = w') (zd : ∀ w, Calls Tryd.prog 64 #[.int .i64 d, .int .i64 2] w fun e w' => e = .returned (.int .i64 x0) ∧ w = w') (sd : ∀ w, Calls Tryd.prog 81 #[.int .i64 d, .int .i64 2] w fun e w' => e = .returned (.int .i64 x) ∧ w = w') (us : ∀ w, Calls Tryd.prog 80 #[.int .i64 x] w fun e w' => e = .returned (.int .u64 y) ∧ w = w') (dv : ∀ w, Calls Tryd.prog 82 #[.int .u64 h, .int .u64 l, .int .u64 y] w fun e w' => e = .returned (.tuple #[.int .u64 q, .int .u64 r]) ∧ w = w') (w : World) :
    Calls Tryd.prog 49 #[.int .i64 16, .int .i64 2, .int .i64 a, .int .i64 b, .int .i64 d] w fun e w' => e = .returned (.tuple #[.int .i64 0, .int .i64 0, .bool false]) ∧ w = w' := by
  have Czd := Lib.hid zd; have Cjn := Lib.hid jn; have Csd := Lib.hid sd; have Cus := Lib.hid us; have Cdv := Lib.hid dv
  clear jn zd sd us dv
  go_enter Tryd.func49, Tryd.ntmps49
  go_wp2_with fail
  refine (Cjn.out _).mono ?_
  rintro e w1 ⟨rfl, rfl⟩
  go_wp2_with fail
  refine (Czd.out _).mono ?_
  rintro e w1 ⟨rfl, rfl⟩
  go_wp2_with fail
  refine (Csd.out _).mono ?_
  rintro e w1 ⟨rfl, rfl⟩
  go_wp2_with fail
  refine (Cus.out _).mono ?_
  rintro e w1 ⟨rfl, rfl⟩
  go_wp2_with fail
  refine (Csd.out _).mono ?_
  rintro e w1 ⟨rfl, rfl⟩
  go_wp2_with fail
  refine (Cdv.out _).mono ?_
  rintro e w1 ⟨rfl, rfl⟩
  go_wp2
  go_ret3
  exact ⟨rfl, rfl⟩
set_option maxRecDepth 100000 in
set_option maxHeartbeats 1000000 in
theorem divS16EFF2 (a b d h l h1 h2 l2 x0 x y q r q2 r2 q1 r1 : Int) (hmi : (h / 9223372036854775808 == 1) = false)  (hsn : decide (x < 0) = false) (hge : decide (y ≤ h) = false) (hov : decide (32768 < q) = false) (heq : (q == 32768) = true) (jn : ∀ w, Calls Tryd.prog 79 #[.int .i64 2, .int .i64 a, .int .i64 b, .bool true] w fun e w' => e = .returned (.tuple #[.int .u64 h, .int .u64 l]) ∧ w = w') (zd : ∀ w, Calls Tryd.prog 64 #[.int .i64 d, .int .i64 2] w fun e w' => e = .returned (.int .i64 x0) ∧ w = w') (sd : ∀ w, Calls Tryd.prog 81 #[.int .i64 d, .int .i64 2] w fun e w' => e = .returned (.int .i64 x) ∧ w = w') (us : ∀ w, Calls Tryd.prog 80 #[.int .i64 x] w fun e w' => e = .returned (.int .u64 y) ∧ w = w') (dv : ∀ w, Calls Tryd.prog 82 #[.int .u64 h, .int .u64 l, .int .u64 y] w fun e w' => e = .returned (.tuple #[.int .u64 q, .int .u64 r]) ∧ w = w') (w : World) :
    Calls Tryd.prog 49 #[.int .i64 16, .int .i64 2, .int .i64 a, .int .i64 b, .int .i64 d] w fun e w' => e = .returned (.tuple #[.int .i64 0, .int .i64 0, .bool false]) ∧ w = w' := by
  have Czd := Lib.hid zd; have Cjn := Lib.hid jn; have Csd := Lib.hid sd; have Cus := Lib.hid us; have Cdv := Lib.hid dv
  clear jn zd sd us dv
  go_enter Tryd.func49, Tryd.ntmps49
  go_wp2_with fail
  refine (Cjn.out _).mono ?_
  rintro e w1 ⟨rfl, rfl⟩
  go_wp2_with fail
  refine (Czd.out _).mono ?_
  rintro e w1 ⟨rfl, rfl⟩
  go_wp2_with fail
  refine (Csd.out _).mono ?_
  rintro e w1 ⟨rfl, rfl⟩
  go_wp2_with fail
  refine (Cus.out _).mono ?_
  rintro e w1 ⟨rfl, rfl⟩
  go_wp2_with fail
  refine (Csd.out _).mono ?_
  rintro e w1 ⟨rfl, rfl⟩
  go_wp2_with fail
  refine (Cdv.out _).mono ?_
  rintro e w1 ⟨rfl, rfl⟩
  go_wp2
  go_ret3
  exact ⟨rfl, rfl⟩
set_option maxRecDepth 100000 in
set_option maxHeartbeats 1000000 in
theorem divS16YnFF2 (a b d h l h1 h2 l2 x0 x y q r q2 r2 q1 r1 : Int) (hmi : (h / 9223372036854775808 == 1) = false)  (hsn : decide (x < 0) = false) (hge : decide (y ≤ h) = false) (hov : decide (32768 < q) = false) (heq : (q == 32768) = false) (jn : ∀ w, Calls Tryd.prog 79 #[.int .i64 2, .int .i64 a, .int .i64 b, .bool true] w fun e w' => e = .returned (.tuple #[.int .u64 h, .int .u64 l]) ∧ w = w') (zd : ∀ w, Calls Tryd.prog 64 #[.int .i64 d, .int .i64 2] w fun e w' => e = .returned (.int .i64 x0) ∧ w = w') (sd : ∀ w, Calls Tryd.prog 81 #[.int .i64 d, .int .i64 2] w fun e w' => e = .returned (.int .i64 x) ∧ w = w') (us : ∀ w, Calls Tryd.prog 80 #[.int .i64 x] w fun e w' => e = .returned (.int .u64 y) ∧ w = w') (dv : ∀ w, Calls Tryd.prog 82 #[.int .u64 h, .int .u64 l, .int .u64 y] w fun e w' => e = .returned (.tuple #[.int .u64 q, .int .u64 r]) ∧ w = w') (zq : ∀ w, Calls Tryd.prog 64 #[.int .i64 (wrap64 q), .int .i64 2] w fun e w' => e = .returned (.int .i64 q1) ∧ w = w') (zr : ∀ w, Calls Tryd.prog 64 #[.int .i64 (wrap64 r), .int .i64 2] w fun e w' => e = .returned (.int .i64 r1) ∧ w = w') (w : World) :
    Calls Tryd.prog 49 #[.int .i64 16, .int .i64 2, .int .i64 a, .int .i64 b, .int .i64 d] w fun e w' => e = .returned (.tuple #[.int .i64 q1, .int .i64 r1, .bool true]) ∧ w = w' := by
  have Czd := Lib.hid zd; have Cjn := Lib.hid jn; have Csd := Lib.hid sd; have Cus := Lib.hid us; have Cdv := Lib.hid dv; have Czq := Lib.hid zq; have Czr := Lib.hid zr
  clear jn zd sd us dv zq zr
  go_enter Tryd.func49, Tryd.ntmps49
  go_wp2_with fail
  refine (Cjn.out _).mono ?_
  rintro e w1 ⟨rfl, rfl⟩
  go_wp2_with fail
  refine (Czd.out _).mono ?_
  rintro e w1 ⟨rfl, rfl⟩
  go_wp2_with fail
  refine (Csd.out _).mono ?_
  rintro e w1 ⟨rfl, rfl⟩
  go_wp2_with fail
  refine (Cus.out _).mono ?_
  rintro e w1 ⟨rfl, rfl⟩
  go_wp2_with fail
  refine (Csd.out _).mono ?_
  rintro e w1 ⟨rfl, rfl⟩
  go_wp2_with fail
  refine (Cdv.out _).mono ?_
  rintro e w1 ⟨rfl, rfl⟩
  go_wp2_with fail
  refine (Czq.out _).mono ?_
  rintro e w1 ⟨rfl, rfl⟩
  go_wp2_with fail
  refine (Czr.out _).mono ?_
  rintro e w1 ⟨rfl, rfl⟩
  go_wp2
  go_ret3
  exact ⟨rfl, rfl⟩
set_option maxRecDepth 100000 in
set_option maxHeartbeats 1000000 in
theorem divS16AFT2 (a b d h l h1 h2 l2 x0 x y q r q2 r2 q1 r1 : Int) (hmi : (h / 9223372036854775808 == 1) = false)  (hsn : decide (x < 0) = true) (hge : decide (y ≤ h) = true) (jn : ∀ w, Calls Tryd.prog 79 #[.int .i64 2, .int .i64 a, .int .i64 b, .bool true] w fun e w' => e = .returned (.tuple #[.int .u64 h, .int .u64 l]) ∧ w = w') (zd : ∀ w, Calls Tryd.prog 64 #[.int .i64 d, .int .i64 2] w fun e w' => e = .returned (.int .i64 x0) ∧ w = w') (sd : ∀ w, Calls Tryd.prog 81 #[.int .i64 d, .int .i64 2] w fun e w' => e = .returned (.int .i64 x) ∧ w = w') (us : ∀ w, Calls Tryd.prog 80 #[.int .i64 x] w fun e w' => e = .returned (.int .u64 y) ∧ w = w') (w : World) :
    Calls Tryd.prog 49 #[.int .i64 16, .int .i64 2, .int .i64 a, .int .i64 b, .int .i64 d] w fun e w' => e = .returned (.tuple #[.int .i64 0, .int .i64 0, .bool false]) ∧ w = w' := by
  have Czd := Lib.hid zd; have Cjn := Lib.hid jn; have Csd := Lib.hid sd; have Cus := Lib.hid us
  clear jn zd sd us
  go_enter Tryd.func49, Tryd.ntmps49
  go_wp2_with fail
  refine (Cjn.out _).mono ?_
  rintro e w1 ⟨rfl, rfl⟩
  go_wp2_with fail
  refine (Czd.out _).mono ?_
  rintro e w1 ⟨rfl, rfl⟩
  go_wp2_with fail
  refine (Csd.out _).mono ?_
  rintro e w1 ⟨rfl, rfl⟩
  go_wp2_with fail
  refine (Cus.out _).mono ?_
  rintro e w1 ⟨rfl, rfl⟩
  go_wp2_with fail
  refine (Csd.out _).mono ?_
  rintro e w1 ⟨rfl, rfl⟩
  go_wp2
  go_ret3
  exact ⟨rfl, rfl⟩
set_option maxRecDepth 100000 in
set_option maxHeartbeats 1000000 in
theorem divS16BFT2 (a b d h l h1 h2 l2 x0 x y q r q2 r2 q1 r1 : Int) (hmi : (h / 9223372036854775808 == 1) = false)  (hsn : decide (x < 0) = true) (hge : decide (y ≤ h) = false) (hov : decide (32768 < q) = true) (jn : ∀ w, Calls Tryd.prog 79 #[.int .i64 2, .int .i64 a, .int .i64 b, .bool true] w fun e w' => e = .returned (.tuple #[.int .u64 h, .int .u64 l]) ∧ w = w') (zd : ∀ w, Calls Tryd.prog 64 #[.int .i64 d, .int .i64 2] w fun e w' => e = .returned (.int .i64 x0) ∧ w = w') (sd : ∀ w, Calls Tryd.prog 81 #[.int .i64 d, .int .i64 2] w fun e w' => e = .returned (.int .i64 x) ∧ w = w') (us : ∀ w, Calls Tryd.prog 80 #[.int .i64 x] w fun e w' => e = .returned (.int .u64 y) ∧ w = w') (dv : ∀ w, Calls Tryd.prog 82 #[.int .u64 h, .int .u64 l, .int .u64 y] w fun e w' => e = .returned (.tuple #[.int .u64 q, .int .u64 r]) ∧ w = w') (w : World) :
    Calls Tryd.prog 49 #[.int .i64 16, .int .i64 2, .int .i64 a, .int .i64 b, .int .i64 d] w fun e w' => e = .returned (.tuple #[.int .i64 0, .int .i64 0, .bool false]) ∧ w = w' := by
  have Czd := Lib.hid zd; have Cjn := Lib.hid jn; have Csd := Lib.hid sd; have Cus := Lib.hid us; have Cdv := Lib.hid dv
  clear jn zd sd us dv
  go_enter Tryd.func49, Tryd.ntmps49
  go_wp2_with fail
  refine (Cjn.out _).mono ?_
  rintro e w1 ⟨rfl, rfl⟩
  go_wp2_with fail
  refine (Czd.out _).mono ?_
  rintro e w1 ⟨rfl, rfl⟩
  go_wp2_with fail
  refine (Csd.out _).mono ?_
  rintro e w1 ⟨rfl, rfl⟩
  go_wp2_with fail
  refine (Cus.out _).mono ?_
  rintro e w1 ⟨rfl, rfl⟩
  go_wp2_with fail
  refine (Csd.out _).mono ?_
  rintro e w1 ⟨rfl, rfl⟩
  go_wp2_with fail
  refine (Cdv.out _).mono ?_
  rintro e w1 ⟨rfl, rfl⟩
  go_wp2
  go_ret3
  exact ⟨rfl, rfl⟩
set_option maxRecDepth 100000 in
set_option maxHeartbeats 1000000 in
theorem divS16YeFT2 (a b d h l h1 h2 l2 x0 x y q r q2 r2 q1 r1 : Int) (hmi : (h / 9223372036854775808 == 1) = false)  (hsn : decide (x < 0) = true) (hge : decide (y ≤ h) = false) (hov : decide (32768 < q) = false) (heq : (q == 32768) = true) (nq : IntKind.u64.wrap (-q) = q2) (jn : ∀ w, Calls Tryd.prog 79 #[.int .i64 2, .int .i64 a, .int .i64 b, .bool true] w fun e w' => e = .returned (.tuple #[.int .u64 h, .int .u64 l]) ∧ w = w') (zd : ∀ w, Calls Tryd.prog 64 #[.int .i64 d, .int .i64 2] w fun e w' => e = .returned (.int .i64 x0) ∧ w = w') (sd : ∀ w, Calls Tryd.prog 81 #[.int .i64 d, .int .i64 2] w fun e w' => e = .returned (.int .i64 x) ∧ w = w') (us : ∀ w, Calls Tryd.prog 80 #[.int .i64 x] w fun e w' => e = .returned (.int .u64 y) ∧ w = w') (dv : ∀ w, Calls Tryd.prog 82 #[.int .u64 h, .int .u64 l, .int .u64 y] w fun e w' => e = .returned (.tuple #[.int .u64 q, .int .u64 r]) ∧ w = w') (zq : ∀ w, Calls Tryd.prog 64 #[.int .i64 (wrap64 q2), .int .i64 2] w fun e w' => e = .returned (.int .i64 q1) ∧ w = w') (zr : ∀ w, Calls Tryd.prog 64 #[.int .i64 (wrap64 r), .int .i64 2] w fun e w' => e = .returned (.int .i64 r1) ∧ w = w') (w : World) :
    Calls Tryd.prog 49 #[.int .i64 16, .int .i64 2, .int .i64 a, .int .i64 b, .int .i64 d] w fun e w' => e = .returned (.tuple #[.int .i64 q1, .int .i64 r1, .bool true]) ∧ w = w' := by
  have Czd := Lib.hid zd; have Cjn := Lib.hid jn; have Csd := Lib.hid sd; have Cus := Lib.hid us; have Cdv := Lib.hid dv; have Czq := Lib.hid zq; have Czr := Lib.hid zr
  clear jn zd sd us dv zq zr
  go_enter Tryd.func49, Tryd.ntmps49
  go_wp2_with fail
  refine (Cjn.out _).mono ?_
  rintro e w1 ⟨rfl, rfl⟩
  go_wp2_with fail
  refine (Czd.out _).mono ?_
  rintro e w1 ⟨rfl, rfl⟩
  go_wp2_with fail
  refine (Csd.out _).mono ?_
  rintro e w1 ⟨rfl, rfl⟩
  go_wp2_with fail
  refine (Cus.out _).mono ?_
  rintro e w1 ⟨rfl, rfl⟩
  go_wp2_with fail
  refine (Csd.out _).mono ?_
  rintro e w1 ⟨rfl, rfl⟩
  go_wp2_with fail
  refine (Cdv.out _).mono ?_
  rintro e w1 ⟨rfl, rfl⟩
  go_wp2_with fail
  refine (Czq.out _).mono ?_
  rintro e w1 ⟨rfl, rfl⟩
  go_wp2_with fail
  refine (Czr.out _).mono ?_
  rintro e w1 ⟨rfl, rfl⟩
  go_wp2
  go_ret3
  exact ⟨rfl, rfl⟩
set_option maxRecDepth 100000 in
set_option maxHeartbeats 1000000 in
theorem divS16YnFT2 (a b d h l h1 h2 l2 x0 x y q r q2 r2 q1 r1 : Int) (hmi : (h / 9223372036854775808 == 1) = false)  (hsn : decide (x < 0) = true) (hge : decide (y ≤ h) = false) (hov : decide (32768 < q) = false) (heq : (q == 32768) = false) (nq : IntKind.u64.wrap (-q) = q2) (jn : ∀ w, Calls Tryd.prog 79 #[.int .i64 2, .int .i64 a, .int .i64 b, .bool true] w fun e w' => e = .returned (.tuple #[.int .u64 h, .int .u64 l]) ∧ w = w') (zd : ∀ w, Calls Tryd.prog 64 #[.int .i64 d, .int .i64 2] w fun e w' => e = .returned (.int .i64 x0) ∧ w = w') (sd : ∀ w, Calls Tryd.prog 81 #[.int .i64 d, .int .i64 2] w fun e w' => e = .returned (.int .i64 x) ∧ w = w') (us : ∀ w, Calls Tryd.prog 80 #[.int .i64 x] w fun e w' => e = .returned (.int .u64 y) ∧ w = w') (dv : ∀ w, Calls Tryd.prog 82 #[.int .u64 h, .int .u64 l, .int .u64 y] w fun e w' => e = .returned (.tuple #[.int .u64 q, .int .u64 r]) ∧ w = w') (zq : ∀ w, Calls Tryd.prog 64 #[.int .i64 (wrap64 q2), .int .i64 2] w fun e w' => e = .returned (.int .i64 q1) ∧ w = w') (zr : ∀ w, Calls Tryd.prog 64 #[.int .i64 (wrap64 r), .int .i64 2] w fun e w' => e = .returned (.int .i64 r1) ∧ w = w') (w : World) :
    Calls Tryd.prog 49 #[.int .i64 16, .int .i64 2, .int .i64 a, .int .i64 b, .int .i64 d] w fun e w' => e = .returned (.tuple #[.int .i64 q1, .int .i64 r1, .bool true]) ∧ w = w' := by
  have Czd := Lib.hid zd; have Cjn := Lib.hid jn; have Csd := Lib.hid sd; have Cus := Lib.hid us; have Cdv := Lib.hid dv; have Czq := Lib.hid zq; have Czr := Lib.hid zr
  clear jn zd sd us dv zq zr
  go_enter Tryd.func49, Tryd.ntmps49
  go_wp2_with fail
  refine (Cjn.out _).mono ?_
  rintro e w1 ⟨rfl, rfl⟩
  go_wp2_with fail
  refine (Czd.out _).mono ?_
  rintro e w1 ⟨rfl, rfl⟩
  go_wp2_with fail
  refine (Csd.out _).mono ?_
  rintro e w1 ⟨rfl, rfl⟩
  go_wp2_with fail
  refine (Cus.out _).mono ?_
  rintro e w1 ⟨rfl, rfl⟩
  go_wp2_with fail
  refine (Csd.out _).mono ?_
  rintro e w1 ⟨rfl, rfl⟩
  go_wp2_with fail
  refine (Cdv.out _).mono ?_
  rintro e w1 ⟨rfl, rfl⟩
  go_wp2_with fail
  refine (Czq.out _).mono ?_
  rintro e w1 ⟨rfl, rfl⟩
  go_wp2_with fail
  refine (Czr.out _).mono ?_
  rintro e w1 ⟨rfl, rfl⟩
  go_wp2
  go_ret3
  exact ⟨rfl, rfl⟩
set_option maxRecDepth 100000 in
set_option maxHeartbeats 1000000 in
theorem divS16AT0F2 (a b d h l h1 h2 l2 x0 x y q r q2 r2 q1 r1 : Int) (hmi : (h / 9223372036854775808 == 1) = true) (nh : bits .xor .u64 IntKind.u64.max h = h1) (nl : IntKind.u64.wrap (-l) = 0) (nh2 : IntKind.u64.wrap (h1 + 1) = h2)  (hsn : decide (x < 0) = false) (hge : decide (y ≤ h2) = true) (jn : ∀ w, Calls Tryd.prog 79 #[.int .i64 2, .int .i64 a, .int .i64 b, .bool true] w fun e w' => e = .returned (.tuple #[.int .u64 h, .int .u64 l]) ∧ w = w') (zd : ∀ w, Calls Tryd.prog 64 #[.int .i64 d, .int .i64 2] w fun e w' => e = .returned (.int .i64 x0) ∧ w = w') (sd : ∀ w, Calls Tryd.prog 81 #[.int .i64 d, .int .i64 2] w fun e w' => e = .returned (.int .i64 x) ∧ w = w') (us : ∀ w, Calls Tryd.prog 80 #[.int .i64 x] w fun e w' => e = .returned (.int .u64 y) ∧ w = w') (w : World) :
    Calls Tryd.prog 49 #[.int .i64 16, .int .i64 2, .int .i64 a, .int .i64 b, .int .i64 d] w fun e w' => e = .returned (.tuple #[.int .i64 0, .int .i64 0, .bool false]) ∧ w = w' := by
  have Czd := Lib.hid zd; have Cjn := Lib.hid jn; have Csd := Lib.hid sd; have Cus := Lib.hid us
  have nh' : bits .xor .u64 (if IntKind.u64.signed = true then -1 else IntKind.u64.max) h = h1 := nh
  clear jn zd sd us
  go_enter Tryd.func49, Tryd.ntmps49
  go_wp2_with fail
  refine (Cjn.out _).mono ?_
  rintro e w1 ⟨rfl, rfl⟩
  go_wp2_with fail
  refine (Czd.out _).mono ?_
  rintro e w1 ⟨rfl, rfl⟩
  go_wp2_with fail
  refine (Csd.out _).mono ?_
  rintro e w1 ⟨rfl, rfl⟩
  go_wp2_with fail
  refine (Cus.out _).mono ?_
  rintro e w1 ⟨rfl, rfl⟩
  go_wp2_with fail
  refine (Csd.out _).mono ?_
  rintro e w1 ⟨rfl, rfl⟩
  go_wp2
  go_ret3
  exact ⟨rfl, rfl⟩
set_option maxRecDepth 100000 in
set_option maxHeartbeats 1000000 in
theorem divS16BT0F2 (a b d h l h1 h2 l2 x0 x y q r q2 r2 q1 r1 : Int) (hmi : (h / 9223372036854775808 == 1) = true) (nh : bits .xor .u64 IntKind.u64.max h = h1) (nl : IntKind.u64.wrap (-l) = 0) (nh2 : IntKind.u64.wrap (h1 + 1) = h2)  (hsn : decide (x < 0) = false) (hge : decide (y ≤ h2) = false) (hov : decide (32768 < q) = true) (jn : ∀ w, Calls Tryd.prog 79 #[.int .i64 2, .int .i64 a, .int .i64 b, .bool true] w fun e w' => e = .returned (.tuple #[.int .u64 h, .int .u64 l]) ∧ w = w') (zd : ∀ w, Calls Tryd.prog 64 #[.int .i64 d, .int .i64 2] w fun e w' => e = .returned (.int .i64 x0) ∧ w = w') (sd : ∀ w, Calls Tryd.prog 81 #[.int .i64 d, .int .i64 2] w fun e w' => e = .returned (.int .i64 x) ∧ w = w') (us : ∀ w, Calls Tryd.prog 80 #[.int .i64 x] w fun e w' => e = .returned (.int .u64 y) ∧ w = w') (dv : ∀ w, Calls Tryd.prog 82 #[.int .u64 h2, .int .u64 0, .int .u64 y] w fun e w' => e = .returned (.tuple #[.int .u64 q, .int .u64 r]) ∧ w = w') (w : World) :
    Calls Tryd.prog 49 #[.int .i64 16, .int .i64 2, .int .i64 a, .int .i64 b, .int .i64 d] w fun e w' => e = .returned (.tuple #[.int .i64 0, .int .i64 0, .bool false]) ∧ w = w' := by
  have Czd := Lib.hid zd; have Cjn := Lib.hid jn; have Csd := Lib.hid sd; have Cus := Lib.hid us; have Cdv := Lib.hid dv
  have nh' : bits .xor .u64 (if IntKind.u64.signed = true then -1 else IntKind.u64.max) h = h1 := nh
  clear jn zd sd us dv
  go_enter Tryd.func49, Tryd.ntmps49
  go_wp2_with fail
  refine (Cjn.out _).mono ?_
  rintro e w1 ⟨rfl, rfl⟩
  go_wp2_with fail
  refine (Czd.out _).mono ?_
  rintro e w1 ⟨rfl, rfl⟩
  go_wp2_with fail
  refine (Csd.out _).mono ?_
  rintro e w1 ⟨rfl, rfl⟩
  go_wp2_with fail
  refine (Cus.out _).mono ?_
  rintro e w1 ⟨rfl, rfl⟩
  go_wp2_with fail
  refine (Csd.out _).mono ?_
  rintro e w1 ⟨rfl, rfl⟩
  go_wp2_with fail
  refine (Cdv.out _).mono ?_
  rintro e w1 ⟨rfl, rfl⟩
  go_wp2
  go_ret3
  exact ⟨rfl, rfl⟩
set_option maxRecDepth 100000 in
set_option maxHeartbeats 1000000 in
theorem divS16YeT0F2 (a b d h l h1 h2 l2 x0 x y q r q2 r2 q1 r1 : Int) (hmi : (h / 9223372036854775808 == 1) = true) (nh : bits .xor .u64 IntKind.u64.max h = h1) (nl : IntKind.u64.wrap (-l) = 0) (nh2 : IntKind.u64.wrap (h1 + 1) = h2)  (hsn : decide (x < 0) = false) (hge : decide (y ≤ h2) = false) (hov : decide (32768 < q) = false) (heq : (q == 32768) = true) (nq : IntKind.u64.wrap (-q) = q2) (nr : IntKind.u64.wrap (-r) = r2) (jn : ∀ w, Calls Tryd.prog 79 #[.int .i64 2, .int .i64 a, .int .i64 b, .bool true] w fun e w' => e = .returned (.tuple #[.int .u64 h, .int .u64 l]) ∧ w = w') (zd : ∀ w, Calls Tryd.prog 64 #[.int .i64 d, .int .i64 2] w fun e w' => e = .returned (.int .i64 x0) ∧ w = w') (sd : ∀ w, Calls Tryd.prog 81 #[.int .i64 d, .int .i64 2] w fun e w' => e = .returned (.int .i64 x) ∧ w = w') (us : ∀ w, Calls Tryd.prog 80 #[.int .i64 x] w fun e w' => e = .returned (.int .u64 y) ∧ w = w') (dv : ∀ w, Calls Tryd.prog 82 #[.int .u64 h2, .int .u64 0, .int .u64 y] w fun e w' => e = .returned (.tuple #[.int .u64 q, .int .u64 r]) ∧ w = w') (zq : ∀ w, Calls Tryd.prog 64 #[.int .i64 (wrap64 q2), .int .i64 2] w fun e w' => e = .returned (.int .i64 q1) ∧ w = w') (zr : ∀ w, Calls Tryd.prog 64 #[.int .i64 (wrap64 r2), .int .i64 2] w fun e w' => e = .returned (.int .i64 r1) ∧ w = w') (w : World) :
    Calls Tryd.prog 49 #[.int .i64 16, .int .i64 2, .int .i64 a, .int .i64 b, .int .i64 d] w fun e w' => e = .returned (.tuple #[.int .i64 q1, .int .i64 r1, .bool true]) ∧ w = w' := by
  have Czd := Lib.hid zd; have Cjn := Lib.hid jn; have Csd := Lib.hid sd; have Cus := Lib.hid us; have Cdv := Lib.hid dv; have Czq := Lib.hid zq; have Czr := Lib.hid zr
  have nh' : bits .xor .u64 (if IntKind.u64.signed = true then -1 else IntKind.u64.max) h = h1 := nh
  clear jn zd sd us dv zq zr
  go_enter Tryd.func49, Tryd.ntmps49
  go_wp2_with fail
  refine (Cjn.out _).mono ?_
  rintro e w1 ⟨rfl, rfl⟩
  go_wp2_with fail
  refine (Czd.out _).mono ?_
  rintro e w1 ⟨rfl, rfl⟩
  go_wp2_with fail
  refine (Csd.out _).mono ?_
  rintro e w1 ⟨rfl, rfl⟩
  go_wp2_with fail
  refine (Cus.out _).mono ?_
  rintro e w1 ⟨rfl, rfl⟩
  go_wp2_with fail
  refine (Csd.out _).mono ?_
  rintro e w1 ⟨rfl, rfl⟩
  go_wp2_with fail
  refine (Cdv.out _).mono ?_
  rintro e w1 ⟨rfl, rfl⟩
  go_wp2_with fail
  refine (Czq.out _).mono ?_
  rintro e w1 ⟨rfl, rfl⟩
  go_wp2_with fail
  refine (Czr.out _).mono ?_
  rintro e w1 ⟨rfl, rfl⟩
  go_wp2
  go_ret3
  exact ⟨rfl, rfl⟩
set_option maxRecDepth 100000 in
set_option maxHeartbeats 1000000 in
theorem divS16YnT0F2 (a b d h l h1 h2 l2 x0 x y q r q2 r2 q1 r1 : Int) (hmi : (h / 9223372036854775808 == 1) = true) (nh : bits .xor .u64 IntKind.u64.max h = h1) (nl : IntKind.u64.wrap (-l) = 0) (nh2 : IntKind.u64.wrap (h1 + 1) = h2)  (hsn : decide (x < 0) = false) (hge : decide (y ≤ h2) = false) (hov : decide (32768 < q) = false) (heq : (q == 32768) = false) (nq : IntKind.u64.wrap (-q) = q2) (nr : IntKind.u64.wrap (-r) = r2) (jn : ∀ w, Calls Tryd.prog 79 #[.int .i64 2, .int .i64 a, .int .i64 b, .bool true] w fun e w' => e = .returned (.tuple #[.int .u64 h, .int .u64 l]) ∧ w = w') (zd : ∀ w, Calls Tryd.prog 64 #[.int .i64 d, .int .i64 2] w fun e w' => e = .returned (.int .i64 x0) ∧ w = w') (sd : ∀ w, Calls Tryd.prog 81 #[.int .i64 d, .int .i64 2] w fun e w' => e = .returned (.int .i64 x) ∧ w = w') (us : ∀ w, Calls Tryd.prog 80 #[.int .i64 x] w fun e w' => e = .returned (.int .u64 y) ∧ w = w') (dv : ∀ w, Calls Tryd.prog 82 #[.int .u64 h2, .int .u64 0, .int .u64 y] w fun e w' => e = .returned (.tuple #[.int .u64 q, .int .u64 r]) ∧ w = w') (zq : ∀ w, Calls Tryd.prog 64 #[.int .i64 (wrap64 q2), .int .i64 2] w fun e w' => e = .returned (.int .i64 q1) ∧ w = w') (zr : ∀ w, Calls Tryd.prog 64 #[.int .i64 (wrap64 r2), .int .i64 2] w fun e w' => e = .returned (.int .i64 r1) ∧ w = w') (w : World) :
    Calls Tryd.prog 49 #[.int .i64 16, .int .i64 2, .int .i64 a, .int .i64 b, .int .i64 d] w fun e w' => e = .returned (.tuple #[.int .i64 q1, .int .i64 r1, .bool true]) ∧ w = w' := by
  have Czd := Lib.hid zd; have Cjn := Lib.hid jn; have Csd := Lib.hid sd; have Cus := Lib.hid us; have Cdv := Lib.hid dv; have Czq := Lib.hid zq; have Czr := Lib.hid zr
  have nh' : bits .xor .u64 (if IntKind.u64.signed = true then -1 else IntKind.u64.max) h = h1 := nh
  clear jn zd sd us dv zq zr
  go_enter Tryd.func49, Tryd.ntmps49
  go_wp2_with fail
  refine (Cjn.out _).mono ?_
  rintro e w1 ⟨rfl, rfl⟩
  go_wp2_with fail
  refine (Czd.out _).mono ?_
  rintro e w1 ⟨rfl, rfl⟩
  go_wp2_with fail
  refine (Csd.out _).mono ?_
  rintro e w1 ⟨rfl, rfl⟩
  go_wp2_with fail
  refine (Cus.out _).mono ?_
  rintro e w1 ⟨rfl, rfl⟩
  go_wp2_with fail
  refine (Csd.out _).mono ?_
  rintro e w1 ⟨rfl, rfl⟩
  go_wp2_with fail
  refine (Cdv.out _).mono ?_
  rintro e w1 ⟨rfl, rfl⟩
  go_wp2_with fail
  refine (Czq.out _).mono ?_
  rintro e w1 ⟨rfl, rfl⟩
  go_wp2_with fail
  refine (Czr.out _).mono ?_
  rintro e w1 ⟨rfl, rfl⟩
  go_wp2
  go_ret3
  exact ⟨rfl, rfl⟩
set_option maxRecDepth 100000 in
set_option maxHeartbeats 1000000 in
theorem divS16AT0T2 (a b d h l h1 h2 l2 x0 x y q r q2 r2 q1 r1 : Int) (hmi : (h / 9223372036854775808 == 1) = true) (nh : bits .xor .u64 IntKind.u64.max h = h1) (nl : IntKind.u64.wrap (-l) = 0) (nh2 : IntKind.u64.wrap (h1 + 1) = h2)  (hsn : decide (x < 0) = true) (hge : decide (y ≤ h2) = true) (jn : ∀ w, Calls Tryd.prog 79 #[.int .i64 2, .int .i64 a, .int .i64 b, .bool true] w fun e w' => e = .returned (.tuple #[.int .u64 h, .int .u64 l]) ∧ w = w') (zd : ∀ w, Calls Tryd.prog 64 #[.int .i64 d, .int .i64 2] w fun e w' => e = .returned (.int .i64 x0) ∧ w = w') (sd : ∀ w, Calls Tryd.prog 81 #[.int .i64 d, .int .i64 2] w fun e w' => e = .returned (.int .i64 x) ∧ w = w') (us : ∀ w, Calls Tryd.prog 80 #[.int .i64 x] w fun e w' => e = .returned (.int .u64 y) ∧ w = w') (w : World) :
    Calls Tryd.prog 49 #[.int .i64 16, .int .i64 2, .int .i64 a, .int .i64 b, .int .i64 d] w fun e w' => e = .returned (.tuple #[.int .i64 0, .int .i64 0, .bool false]) ∧ w = w' := by
  have Czd := Lib.hid zd; have Cjn := Lib.hid jn; have Csd := Lib.hid sd; have Cus := Lib.hid us
  have nh' : bits .xor .u64 (if IntKind.u64.signed = true then -1 else IntKind.u64.max) h = h1 := nh
  clear jn zd sd us
  go_enter Tryd.func49, Tryd.ntmps49
  go_wp2_with fail
  refine (Cjn.out _).mono ?_
  rintro e w1 ⟨rfl, rfl⟩
  go_wp2_with fail
  refine (Czd.out _).mono ?_
  rintro e w1 ⟨rfl, rfl⟩
  go_wp2_with fail
  refine (Csd.out _).mono ?_
  rintro e w1 ⟨rfl, rfl⟩
  go_wp2_with fail
  refine (Cus.out _).mono ?_
  rintro e w1 ⟨rfl, rfl⟩
  go_wp2_with fail
  refine (Csd.out _).mono ?_
  rintro e w1 ⟨rfl, rfl⟩
  go_wp2
  go_ret3
  exact ⟨rfl, rfl⟩
set_option maxRecDepth 100000 in
set_option maxHeartbeats 1000000 in
theorem divS16BT0T2 (a b d h l h1 h2 l2 x0 x y q r q2 r2 q1 r1 : Int) (hmi : (h / 9223372036854775808 == 1) = true) (nh : bits .xor .u64 IntKind.u64.max h = h1) (nl : IntKind.u64.wrap (-l) = 0) (nh2 : IntKind.u64.wrap (h1 + 1) = h2)  (hsn : decide (x < 0) = true) (hge : decide (y ≤ h2) = false) (hov : decide (32768 < q) = true) (jn : ∀ w, Calls Tryd.prog 79 #[.int .i64 2, .int .i64 a, .int .i64 b, .bool true] w fun e w' => e = .returned (.tuple #[.int .u64 h, .int .u64 l]) ∧ w = w') (zd : ∀ w, Calls Tryd.prog 64 #[.int .i64 d, .int .i64 2] w fun e w' => e = .returned (.int .i64 x0) ∧ w = w') (sd : ∀ w, Calls Tryd.prog 81 #[.int .i64 d, .int .i64 2] w fun e w' => e = .returned (.int .i64 x) ∧ w = w') (us : ∀ w, Calls Tryd.prog 80 #[.int .i64 x] w fun e w' => e = .returned (.int .u64 y) ∧ w = w') (dv : ∀ w, Calls Tryd.prog 82 #[.int .u64 h2, .int .u64 0, .int .u64 y] w fun e w' => e = .returned (.tuple #[.int .u64 q, .int .u64 r]) ∧ w = w') (w : World) :
    Calls Tryd.prog 49 #[.int .i64 16, .int .i64 2, .int .i64 a, .int .i64 b, .int .i64 d] w fun e w' => e = .returned (.tuple #[.int .i64 0, .int .i64 0, .bool false]) ∧ w = w' := by
  have Czd := Lib.hid zd; have Cjn := Lib.hid jn; have Csd := Lib.hid sd; have Cus := Lib.hid us; have Cdv := Lib.hid dv
  have nh' : bits .xor .u64 (if IntKind.u64.signed = true then -1 else IntKind.u64.max) h = h1 := nh
  clear jn zd sd us dv
  go_enter Tryd.func49, Tryd.ntmps49
  go_wp2_with fail
  refine (Cjn.out _).mono ?_
  rintro e w1 ⟨rfl, rfl⟩
  go_wp2_with fail
  refine (Czd.out _).mono ?_
  rintro e w1 ⟨rfl, rfl⟩
  go_wp2_with fail
  refine (Csd.out _).mono ?_
  rintro e w1 ⟨rfl, rfl⟩
  go_wp2_with fail
  refine (Cus.out _).mono ?_
  rintro e w1 ⟨rfl, rfl⟩
  go_wp2_with fail
  refine (Csd.out _).mono ?_
  rintro e w1 ⟨rfl, rfl⟩
  go_wp2_with fail
  refine (Cdv.out _).mono ?_
  rintro e w1 ⟨rfl, rfl⟩
  go_wp2
  go_ret3
  exact ⟨rfl, rfl⟩
set_option maxRecDepth 100000 in
set_option maxHeartbeats 1000000 in
theorem divS16ET0T2 (a b d h l h1 h2 l2 x0 x y q r q2 r2 q1 r1 : Int) (hmi : (h / 9223372036854775808 == 1) = true) (nh : bits .xor .u64 IntKind.u64.max h = h1) (nl : IntKind.u64.wrap (-l) = 0) (nh2 : IntKind.u64.wrap (h1 + 1) = h2)  (hsn : decide (x < 0) = true) (hge : decide (y ≤ h2) = false) (hov : decide (32768 < q) = false) (heq : (q == 32768) = true) (jn : ∀ w, Calls Tryd.prog 79 #[.int .i64 2, .int .i64 a, .int .i64 b, .bool true] w fun e w' => e = .returned (.tuple #[.int .u64 h, .int .u64 l]) ∧ w = w') (zd : ∀ w, Calls Tryd.prog 64 #[.int .i64 d, .int .i64 2] w fun e w' => e = .returned (.int .i64 x0) ∧ w = w') (sd : ∀ w, Calls Tryd.prog 81 #[.int .i64 d, .int .i64 2] w fun e w' => e = .returned (.int .i64 x) ∧ w = w') (us : ∀ w, Calls Tryd.prog 80 #[.int .i64 x] w fun e w' => e = .returned (.int .u64 y) ∧ w = w') (dv : ∀ w, Calls Tryd.prog 82 #[.int .u64 h2, .int .u64 0, .int .u64 y] w fun e w' => e = .returned (.tuple #[.int .u64 q, .int .u64 r]) ∧ w = w') (w : World) :
    Calls Tryd.prog 49 #[.int .i64 16, .int .i64 2, .int .i64 a, .int .i64 b, .int .i64 d] w fun e w' => e = .returned (.tuple #[.int .i64 0, .int .i64 0, .bool false]) ∧ w = w' := by
  have Czd := Lib.hid zd; have Cjn := Lib.hid jn; have Csd := Lib.hid sd; have Cus := Lib.hid us; have Cdv := Lib.hid dv
  have nh' : bits .xor .u64 (if IntKind.u64.signed = true then -1 else IntKind.u64.max) h = h1 := nh
  clear jn zd sd us dv
  go_enter Tryd.func49, Tryd.ntmps49
  go_wp2_with fail
  refine (Cjn.out _).mono ?_
  rintro e w1 ⟨rfl, rfl⟩
  go_wp2_with fail
  refine (Czd.out _).mono ?_
  rintro e w1 ⟨rfl, rfl⟩
  go_wp2_with fail
  refine (Csd.out _).mono ?_
  rintro e w1 ⟨rfl, rfl⟩
  go_wp2_with fail
  refine (Cus.out _).mono ?_
  rintro e w1 ⟨rfl, rfl⟩
  go_wp2_with fail
  refine (Csd.out _).mono ?_
  rintro e w1 ⟨rfl, rfl⟩
  go_wp2_with fail
  refine (Cdv.out _).mono ?_
  rintro e w1 ⟨rfl, rfl⟩
  go_wp2
  go_ret3
  exact ⟨rfl, rfl⟩
set_option maxRecDepth 100000 in
set_option maxHeartbeats 1000000 in
theorem divS16YnT0T2 (a b d h l h1 h2 l2 x0 x y q r q2 r2 q1 r1 : Int) (hmi : (h / 9223372036854775808 == 1) = true) (nh : bits .xor .u64 IntKind.u64.max h = h1) (nl : IntKind.u64.wrap (-l) = 0) (nh2 : IntKind.u64.wrap (h1 + 1) = h2)  (hsn : decide (x < 0) = true) (hge : decide (y ≤ h2) = false) (hov : decide (32768 < q) = false) (heq : (q == 32768) = false) (nr : IntKind.u64.wrap (-r) = r2) (jn : ∀ w, Calls Tryd.prog 79 #[.int .i64 2, .int .i64 a, .int .i64 b, .bool true] w fun e w' => e = .returned (.tuple #[.int .u64 h, .int .u64 l]) ∧ w = w') (zd : ∀ w, Calls Tryd.prog 64 #[.int .i64 d, .int .i64 2] w fun e w' => e = .returned (.int .i64 x0) ∧ w = w') (sd : ∀ w, Calls Tryd.prog 81 #[.int .i64 d, .int .i64 2] w fun e w' => e = .returned (.int .i64 x) ∧ w = w') (us : ∀ w, Calls Tryd.prog 80 #[.int .i64 x] w fun e w' => e = .returned (.int .u64 y) ∧ w = w') (dv : ∀ w, Calls Tryd.prog 82 #[.int .u64 h2, .int .u64 0, .int .u64 y] w fun e w' => e = .returned (.tuple #[.int .u64 q, .int .u64 r]) ∧ w = w') (zq : ∀ w, Calls Tryd.prog 64 #[.int .i64 (wrap64 q), .int .i64 2] w fun e w' => e = .returned (.int .i64 q1) ∧ w = w') (zr : ∀ w, Calls Tryd.prog 64 #[.int .i64 (wrap64 r2), .int .i64 2] w fun e w' => e = .returned (.int .i64 r1) ∧ w = w') (w : World) :
    Calls Tryd.prog 49 #[.int .i64 16, .int .i64 2, .int .i64 a, .int .i64 b, .int .i64 d] w fun e w' => e = .returned (.tuple #[.int .i64 q1, .int .i64 r1, .bool true]) ∧ w = w' := by
  have Czd := Lib.hid zd; have Cjn := Lib.hid jn; have Csd := Lib.hid sd; have Cus := Lib.hid us; have Cdv := Lib.hid dv; have Czq := Lib.hid zq; have Czr := Lib.hid zr
  have nh' : bits .xor .u64 (if IntKind.u64.signed = true then -1 else IntKind.u64.max) h = h1 := nh
  clear jn zd sd us dv zq zr
  go_enter Tryd.func49, Tryd.ntmps49
  go_wp2_with fail
  refine (Cjn.out _).mono ?_
  rintro e w1 ⟨rfl, rfl⟩
  go_wp2_with fail
  refine (Czd.out _).mono ?_
  rintro e w1 ⟨rfl, rfl⟩
  go_wp2_with fail
  refine (Csd.out _).mono ?_
  rintro e w1 ⟨rfl, rfl⟩
  go_wp2_with fail
  refine (Cus.out _).mono ?_
  rintro e w1 ⟨rfl, rfl⟩
  go_wp2_with fail
  refine (Csd.out _).mono ?_
  rintro e w1 ⟨rfl, rfl⟩
  go_wp2_with fail
  refine (Cdv.out _).mono ?_
  rintro e w1 ⟨rfl, rfl⟩
  go_wp2_with fail
  refine (Czq.out _).mono ?_
  rintro e w1 ⟨rfl, rfl⟩
  go_wp2_with fail
  refine (Czr.out _).mono ?_
  rintro e w1 ⟨rfl, rfl⟩
  go_wp2
  go_ret3
  exact ⟨rfl, rfl⟩
set_option maxRecDepth 100000 in
set_option maxHeartbeats 1000000 in
theorem divS16AT1F2 (a b d h l h1 h2 l2 x0 x y q r q2 r2 q1 r1 : Int) (hmi : (h / 9223372036854775808 == 1) = true) (nh : bits .xor .u64 IntKind.u64.max h = h1) (nl : IntKind.u64.wrap (-l) = l2) (nz : (l2 == 0) = false)  (hsn : decide (x < 0) = false) (hge : decide (y ≤ h1) = true) (jn : ∀ w, Calls Tryd.prog 79 #[.int .i64 2, .int .i64 a, .int .i64 b, .bool true] w fun e w' => e = .returned (.tuple #[.int .u64 h, .int .u64 l]) ∧ w = w') (zd : ∀ w, Calls Tryd.prog 64 #[.int .i64 d, .int .i64 2] w fun e w' => e = .returned (.int .i64 x0) ∧ w = w') (sd : ∀ w, Calls Tryd.prog 81 #[.int .i64 d, .int .i64 2] w fun e w' => e = .returned (.int .i64 x) ∧ w = w') (us : ∀ w, Calls Tryd.prog 80 #[.int .i64 x] w fun e w' => e = .returned (.int .u64 y) ∧ w = w') (w : World) :
    Calls Tryd.prog 49 #[.int .i64 16, .int .i64 2, .int .i64 a, .int .i64 b, .int .i64 d] w fun e w' => e = .returned (.tuple #[.int .i64 0, .int .i64 0, .bool false]) ∧ w = w' := by
  have Czd := Lib.hid zd; have Cjn := Lib.hid jn; have Csd := Lib.hid sd; have Cus := Lib.hid us
  have nh' : bits .xor .u64 (if IntKind.u64.signed = true then -1 else IntKind.u64.max) h = h1 := nh
  clear jn zd sd us
  go_enter Tryd.func49, Tryd.ntmps49
  go_wp2_with fail
  refine (Cjn.out _).mono ?_
  rintro e w1 ⟨rfl, rfl⟩
  go_wp2_with fail
  refine (Czd.out _).mono ?_
  rintro e w1 ⟨rfl, rfl⟩
  go_wp2_with fail
  refine (Csd.out _).mono ?_
  rintro e w1 ⟨rfl, rfl⟩
  go_wp2_with fail
  refine (Cus.out _).mono ?_
  rintro e w1 ⟨rfl, rfl⟩
  go_wp2_with fail
  refine (Csd.out _).mono ?_
  rintro e w1 ⟨rfl, rfl⟩
  go_wp2
  go_ret3
  exact ⟨rfl, rfl⟩
set_option maxRecDepth 100000 in
set_option maxHeartbeats 1000000 in
theorem divS16BT1F2 (a b d h l h1 h2 l2 x0 x y q r q2 r2 q1 r1 : Int) (hmi : (h / 9223372036854775808 == 1) = true) (nh : bits .xor .u64 IntKind.u64.max h = h1) (nl : IntKind.u64.wrap (-l) = l2) (nz : (l2 == 0) = false)  (hsn : decide (x < 0) = false) (hge : decide (y ≤ h1) = false) (hov : decide (32768 < q) = true) (jn : ∀ w, Calls Tryd.prog 79 #[.int .i64 2, .int .i64 a, .int .i64 b, .bool true] w fun e w' => e = .returned (.tuple #[.int .u64 h, .int .u64 l]) ∧ w = w') (zd : ∀ w, Calls Tryd.prog 64 #[.int .i64 d, .int .i64 2] w fun e w' => e = .returned (.int .i64 x0) ∧ w = w') (sd : ∀ w, Calls Tryd.prog 81 #[.int .i64 d, .int .i64 2] w fun e w' => e = .returned (.int .i64 x) ∧ w = w') (us : ∀ w, Calls Tryd.prog 80 #[.int .i64 x] w fun e w' => e = .returned (.int .u64 y) ∧ w = w') (dv : ∀ w, Calls Tryd.prog 82 #[.int .u64 h1, .int .u64 l2, .int .u64 y] w fun e w' => e = .returned (.tuple #[.int .u64 q, .int .u64 r]) ∧ w = w') (w : World) :
    Calls Tryd.prog 49 #[.int .i64 16, .int .i64 2, .int .i64 a, .int .i64 b, .int .i64 d] w fun e w' => e = .returned (.tuple #[.int .i64 0, .int .i64 0, .bool false]) ∧ w = w' := by
  have Czd := Lib.hid zd; have Cjn := Lib.hid jn; have Csd := Lib.hid sd; have Cus := Lib.hid us; have Cdv := Lib.hid dv
  have nh' : bits .xor .u64 (if IntKind.u64.signed = true then -1 else IntKind.u64.max) h = h1 := nh
  clear jn zd sd us dv
  go_enter Tryd.func49, Tryd.ntmps49
  go_wp2_with fail
  refine (Cjn.out _).mono ?_
  rintro e w1 ⟨rfl, rfl⟩
  go_wp2_with fail
  refine (Czd.out _).mono ?_
  rintro e w1 ⟨rfl, rfl⟩
  go_wp2_with fail
  refine (Csd.out _).mono ?_
  rintro e w1 ⟨rfl, rfl⟩
  go_wp2_with fail
  refine (Cus.out _).mono ?_
  rintro e w1 ⟨rfl, rfl⟩
  go_wp2_with fail
  refine (Csd.out _).mono ?_
  rintro e w1 ⟨rfl, rfl⟩
  go_wp2_with fail
  refine (Cdv.out _).mono ?_
  rintro e w1 ⟨rfl, rfl⟩
  go_wp2
  go_ret3
  exact ⟨rfl, rfl⟩
set_option maxRecDepth 100000 in
set_option maxHeartbeats 1000000 in
theorem divS16YeT1F2 (a b d h l h1 h2 l2 x0 x y q r q2 r2 q1 r1 : Int) (hmi : (h / 9223372036854775808 == 1) = true) (nh : bits .xor .u64 IntKind.u64.max h = h1) (nl : IntKind.u64.wrap (-l) = l2) (nz : (l2 == 0) = false)  (hsn : decide (x < 0) = false) (hge : decide (y ≤ h1) = false) (hov : decide (32768 < q) = false) (heq : (q == 32768) = true) (nq : IntKind.u64.wrap (-q) = q2) (nr : IntKind.u64.wrap (-r) = r2) (jn : ∀ w, Calls Tryd.prog 79 #[.int .i64 2, .int .i64 a, .int .i64 b, .bool true] w fun e w' => e = .returned (.tuple #[.int .u64 h, .int .u64 l]) ∧ w = w') (zd : ∀ w, Calls Tryd.prog 64 #[.int .i64 d, .int .i64 2] w fun e w' => e = .returned (.int .i64 x0) ∧ w = w') (sd : ∀ w, Calls Tryd.prog 81 #[.int .i64 d, .int .i64 2] w fun e w' => e = .returned (.int .i64 x) ∧ w = w') (us : ∀ w, Calls Tryd.prog 80 #[.int .i64 x] w fun e w' => e = .returned (.int .u64 y) ∧ w = w') (dv : ∀ w, Calls Tryd.prog 82 #[.int .u64 h1, .int .u64 l2, .int .u64 y] w fun e w' => e = .returned (.tuple #[.int .u64 q, .int .u64 r]) ∧ w = w') (zq : ∀ w, Calls Tryd.prog 64 #[.int .i64 (wrap64 q2), .int .i64 2] w fun e w' => e = .returned (.int .i64 q1) ∧ w = w') (zr : ∀ w, Calls Tryd.prog 64 #[.int .i64 (wrap64 r2), .int .i64 2] w fun e w' => e = .returned (.int .i64 r1) ∧ w = w') (w : World) :
    Calls Tryd.prog 49 #[.int .i64 16, .int .i64 2, .int .i64 a, .int .i64 b, .int .i64 d] w fun e w' => e = .returned (.tuple #[.int .i64 q1, .int .i64 r1, .bool true]) ∧ w = w' := by
  have Czd := Lib.hid zd; have Cjn := Lib.hid jn; have Csd := Lib.hid sd; have Cus := Lib.hid us; have Cdv := Lib.hid dv; have Czq := Lib.hid zq; have Czr := Lib.hid zr
  have nh' : bits .xor .u64 (if IntKind.u64.signed = true then -1 else IntKind.u64.max) h = h1 := nh
  clear jn zd sd us dv zq zr
  go_enter Tryd.func49, Tryd.ntmps49
  go_wp2_with fail
  refine (Cjn.out _).mono ?_
  rintro e w1 ⟨rfl, rfl⟩
  go_wp2_with fail
  refine (Czd.out _).mono ?_
  rintro e w1 ⟨rfl, rfl⟩
  go_wp2_with fail
  refine (Csd.out _).mono ?_
  rintro e w1 ⟨rfl, rfl⟩
  go_wp2_with fail
  refine (Cus.out _).mono ?_
  rintro e w1 ⟨rfl, rfl⟩
  go_wp2_with fail
  refine (Csd.out _).mono ?_
  rintro e w1 ⟨rfl, rfl⟩
  go_wp2_with fail
  refine (Cdv.out _).mono ?_
  rintro e w1 ⟨rfl, rfl⟩
  go_wp2_with fail
  refine (Czq.out _).mono ?_
  rintro e w1 ⟨rfl, rfl⟩
  go_wp2_with fail
  refine (Czr.out _).mono ?_
  rintro e w1 ⟨rfl, rfl⟩
  go_wp2
  go_ret3
  exact ⟨rfl, rfl⟩
set_option maxRecDepth 100000 in
set_option maxHeartbeats 1000000 in
theorem divS16YnT1F2 (a b d h l h1 h2 l2 x0 x y q r q2 r2 q1 r1 : Int) (hmi : (h / 9223372036854775808 == 1) = true) (nh : bits .xor .u64 IntKind.u64.max h = h1) (nl : IntKind.u64.wrap (-l) = l2) (nz : (l2 == 0) = false)  (hsn : decide (x < 0) = false) (hge : decide (y ≤ h1) = false) (hov : decide (32768 < q) = false) (heq : (q == 32768) = false) (nq : IntKind.u64.wrap (-q) = q2) (nr : IntKind.u64.wrap (-r) = r2) (jn : ∀ w, Calls Tryd.prog 79 #[.int .i64 2, .int .i64 a, .int .i64 b, .bool true] w fun e w' => e = .returned (.tuple #[.int .u64 h, .int .u64 l]) ∧ w = w') (zd : ∀ w, Calls Tryd.prog 64 #[.int .i64 d, .int .i64 2] w fun e w' => e = .returned (.int .i64 x0) ∧ w = w') (sd : ∀ w, Calls Tryd.prog 81 #[.int .i64 d, .int .i64 2] w fun e w' => e = .returned (.int .i64 x) ∧ w = w') (us : ∀ w, Calls Tryd.prog 80 #[.int .i64 x] w fun e w' => e = .returned (.int .u64 y) ∧ w = w') (dv : ∀ w, Calls Tryd.prog 82 #[.int .u64 h1, .int .u64 l2, .int .u64 y] w fun e w' => e = .returned (.tuple #[.int .u64 q, .int .u64 r]) ∧ w = w') (zq : ∀ w, Calls Tryd.prog 64 #[.int .i64 (wrap64 q2), .int .i64 2] w fun e w' => e = .returned (.int .i64 q1) ∧ w = w') (zr : ∀ w, Calls Tryd.prog 64 #[.int .i64 (wrap64 r2), .int .i64 2] w fun e w' => e = .returned (.int .i64 r1) ∧ w = w') (w : World) :
    Calls Tryd.prog 49 #[.int .i64 16, .int .i64 2, .int .i64 a, .int .i64 b, .int .i64 d] w fun e w' => e = .returned (.tuple #[.int .i64 q1, .int .i64 r1, .bool true]) ∧ w = w' := by
  have Czd := Lib.hid zd; have Cjn := Lib.hid jn; have Csd := Lib.hid sd; have Cus := Lib.hid us; have Cdv := Lib.hid dv; have Czq := Lib.hid zq; have Czr := Lib.hid zr
  have nh' : bits .xor .u64 (if IntKind.u64.signed = true then -1 else IntKind.u64.max) h = h1 := nh
  clear jn zd sd us dv zq zr
  go_enter Tryd.func49, Tryd.ntmps49
  go_wp2_with fail
  refine (Cjn.out _).mono ?_
  rintro e w1 ⟨rfl, rfl⟩
  go_wp2_with fail
  refine (Czd.out _).mono ?_
  rintro e w1 ⟨rfl, rfl⟩
  go_wp2_with fail
  refine (Csd.out _).mono ?_
  rintro e w1 ⟨rfl, rfl⟩
  go_wp2_with fail
  refine (Cus.out _).mono ?_
  rintro e w1 ⟨rfl, rfl⟩
  go_wp2_with fail
  refine (Csd.out _).mono ?_
  rintro e w1 ⟨rfl, rfl⟩
  go_wp2_with fail
  refine (Cdv.out _).mono ?_
  rintro e w1 ⟨rfl, rfl⟩
  go_wp2_with fail
  refine (Czq.out _).mono ?_
  rintro e w1 ⟨rfl, rfl⟩
  go_wp2_with fail
  refine (Czr.out _).mono ?_
  rintro e w1 ⟨rfl, rfl⟩
  go_wp2
  go_ret3
  exact ⟨rfl, rfl⟩
set_option maxRecDepth 100000 in
set_option maxHeartbeats 1000000 in
theorem divS16AT1T2 (a b d h l h1 h2 l2 x0 x y q r q2 r2 q1 r1 : Int) (hmi : (h / 9223372036854775808 == 1) = true) (nh : bits .xor .u64 IntKind.u64.max h = h1) (nl : IntKind.u64.wrap (-l) = l2) (nz : (l2 == 0) = false)  (hsn : decide (x < 0) = true) (hge : decide (y ≤ h1) = true) (jn : ∀ w, Calls Tryd.prog 79 #[.int .i64 2, .int .i64 a, .int .i64 b, .bool true] w fun e w' => e = .returned (.tuple #[.int .u64 h, .int .u64 l]) ∧ w = w') (zd : ∀ w, Calls Tryd.prog 64 #[.int .i64 d, .int .i64 2] w fun e w' => e = .returned (.int .i64 x0) ∧ w = w') (sd : ∀ w, Calls Tryd.prog 81 #[.int .i64 d, .int .i64 2] w fun e w' => e = .returned (.int .i64 x) ∧ w = w') (us : ∀ w, Calls Tryd.prog 80 #[.int .i64 x] w fun e w' => e = .returned (.int .u64 y) ∧ w = w') (w : World) :
    Calls Tryd.prog 49 #[.int .i64 16, .int .i64 2, .int .i64 a, .int .i64 b, .int .i64 d] w fun e w' => e = .returned (.tuple #[.int .i64 0, .int .i64 0, .bool false]) ∧ w = w' := by
  have Czd := Lib.hid zd; have Cjn := Lib.hid jn; have Csd := Lib.hid sd; have Cus := Lib.hid us
  have nh' : bits .xor .u64 (if IntKind.u64.signed = true then -1 else IntKind.u64.max) h = h1 := nh
  clear jn zd sd us
  go_enter Tryd.func49, Tryd.ntmps49
  go_wp2_with fail
  refine (Cjn.out _).mono ?_
  rintro e w1 ⟨rfl, rfl⟩
  go_wp2_with fail
  refine (Czd.out _).mono ?_
  rintro e w1 ⟨rfl, rfl⟩
  go_wp2_with fail
  refine (Csd.out _).mono ?_
  rintro e w1 ⟨rfl, rfl⟩
  go_wp2_with fail
  refine (Cus.out _).mono ?_
  rintro e w1 ⟨rfl, rfl⟩
  go_wp2_with fail
  refine (Csd.out _).mono ?_
  rintro e w1 ⟨rfl, rfl⟩
  go_wp2
  go_ret3
  exact ⟨rfl, rfl⟩
set_option maxRecDepth 100000 in
set_option maxHeartbeats 1000000 in
theorem divS16BT1T2 (a b d h l h1 h2 l2 x0 x y q r q2 r2 q1 r1 : Int) (hmi : (h / 9223372036854775808 == 1) = true) (nh : bits .xor .u64 IntKind.u64.max h = h1) (nl : IntKind.u64.wrap (-l) = l2) (nz : (l2 == 0) = false)  (hsn : decide (x < 0) = true) (hge : decide (y ≤ h1) = false) (hov : decide (32768 < q) = true) (jn : ∀ w, Calls Tryd.prog 79 #[.int .i64 2, .int .i64 a, .int .i64 b, .bool true] w fun e w' => e = .returned (.tuple #[.int .u64 h, .int .u64 l]) ∧ w = w') (zd : ∀ w, Calls Tryd.prog 64 #[.int .i64 d, .int .i64 2] w fun e w' => e = .returned (.int .i64 x0) ∧ w = w') (sd : ∀ w, Calls Tryd.prog 81 #[.int .i64 d, .int .i64 2] w fun e w' => e = .returned (.int .i64 x) ∧ w = w') (us : ∀ w, Calls Tryd.prog 80 #[.int .i64 x] w fun e w' => e = .returned (.int .u64 y) ∧ w = w') (dv : ∀ w, Calls Tryd.prog 82 #[.int .u64 h1, .int .u64 l2, .int .u64 y] w fun e w' => e = .returned (.tuple #[.int .u64 q, .int .u64 r]) ∧ w = w') (w : World) :
    Calls Tryd.prog 49 #[.int .i64 16, .int .i64 2, .int .i64 a, .int .i64 b, .int .i64 d] w fun e w' => e = .returned (.tuple #[.int .i64 0, .int .i64 0, .bool false]) ∧ w = w' := by
  have Czd := Lib.hid zd; have Cjn := Lib.hid jn; have Csd := Lib.hid sd; have Cus := Lib.hid us; have Cdv := Lib.hid dv
  have nh' : bits .xor .u64 (if IntKind.u64.signed = true then -1 else IntKind.u64.max) h = h1 := nh
  clear jn zd sd us dv
  go_enter Tryd.func49, Tryd.ntmps49
  go_wp2_with fail
  refine (Cjn.out _).mono ?_
  rintro e w1 ⟨rfl, rfl⟩
  go_wp2_with fail
  refine (Czd.out _).mono ?_
  rintro e w1 ⟨rfl, rfl⟩
  go_wp2_with fail
  refine (Csd.out _).mono ?_
  rintro e w1 ⟨rfl, rfl⟩
  go_wp2_with fail
  refine (Cus.out _).mono ?_
  rintro e w1 ⟨rfl, rfl⟩
  go_wp2_with fail
  refine (Csd.out _).mono ?_
  rintro e w1 ⟨rfl, rfl⟩
  go_wp2_with fail
  refine (Cdv.out _).mono ?_
  rintro e w1 ⟨rfl, rfl⟩
  go_wp2
  go_ret3
  exact ⟨rfl, rfl⟩
set_option maxRecDepth 100000 in
set_option maxHeartbeats 1000000 in
theorem divS16ET1T2 (a b d h l h1 h2 l2 x0 x y q r q2 r2 q1 r1 : Int) (hmi : (h / 9223372036854775808 == 1) = true) (nh : bits .xor .u64 IntKind.u64.max h = h1) (nl : IntKind.u64.wrap (-l) = l2) (nz : (l2 == 0) = false)  (hsn : decide (x < 0) = true) (hge : decide (y ≤ h1) = false) (hov : decide (32768 < q) = false) (heq : (q == 32768) = true) (jn : ∀ w, Calls Tryd.prog 79 #[.int .i64 2, .int .i64 a, .int .i64 b, .bool true] w fun e w' => e = .returned (.tuple #[.int .u64 h, .int .u64 l]) ∧ w = w') (zd : ∀ w, Calls Tryd.prog 64 #[.int .i64 d, .int .i64 2] w fun e w' => e = .returned (.int .i64 x0) ∧ w = w') (sd : ∀ w, Calls Tryd.prog 81 #[.int .i64 d, .int .i64 2] w fun e w' => e = .returned (.int .i64 x) ∧ w = w') (us : ∀ w, Calls Tryd.prog 80 #[.int .i64 x] w fun e w' => e = .returned (.int .u64 y) ∧ w = w') (dv : ∀ w, Calls Tryd.prog 82 #[.int .u64 h1, .int .u64 l2, .int .u64 y] w fun e w' => e = .returned (.tuple #[.int .u64 q, .int .u64 r]) ∧ w = w') (w : World) :
    Calls Tryd.prog 49 #[.int .i64 16, .int .i64 2, .int .i64 a, .int .i64 b, .int .i64 d] w fun e w' => e = .returned (.tuple #[.int .i64 0, .int .i64 0, .bool false]) ∧ w = w' := by
  have Czd := Lib.hid zd; have Cjn := Lib.hid jn; have Csd := Lib.hid sd; have Cus := Lib.hid us; have Cdv := Lib.hid dv
  have nh' : bits .xor .u64 (if IntKind.u64.signed = true then -1 else IntKind.u64.max) h = h1 := nh
  clear jn zd sd us dv
  go_enter Tryd.func49, Tryd.ntmps49
  go_wp2_with fail
  refine (Cjn.out _).mono ?_
  rintro e w1 ⟨rfl, rfl⟩
  go_wp2_with fail
  refine (Czd.out _).mono ?_
  rintro e w1 ⟨rfl, rfl⟩
  go_wp2_with fail
  refine (Csd.out _).mono ?_
  rintro e w1 ⟨rfl, rfl⟩
  go_wp2_with fail
  refine (Cus.out _).mono ?_
  rintro e w1 ⟨rfl, rfl⟩
  go_wp2_with fail
  refine (Csd.out _).mono ?_
  rintro e w1 ⟨rfl, rfl⟩
  go_wp2_with fail
  refine (Cdv.out _).mono ?_
  rintro e w1 ⟨rfl, rfl⟩
  go_wp2
  go_ret3
  exact ⟨rfl, rfl⟩
set_option maxRecDepth 100000 in
set_option maxHeartbeats 1000000 in
theorem divS16YnT1T2 (a b d h l h1 h2 l2 x0 x y q r q2 r2 q1 r1 : Int) (hmi : (h / 9223372036854775808 == 1) = true) (nh : bits .xor .u64 IntKind.u64.max h = h1) (nl : IntKind.u64.wrap (-l) = l2) (nz : (l2 == 0) = false)  (hsn : decide (x < 0) = true) (hge : decide (y ≤ h1) = false) (hov : decide (32768 < q) = false) (heq : (q == 32768) = false) (nr : IntKind.u64.wrap (-r) = r2) (jn : ∀ w, Calls Tryd.prog 79 #[.int .i64 2, .int .i64 a, .int .i64 b, .bool true] w fun e w' => e = .returned (.tuple #[.int .u64 h, .int .u64 l]) ∧ w = w') (zd : ∀ w, Calls Tryd.prog 64 #[.int .i64 d, .int .i64 2] w fun e w' => e = .returned (.int .i64 x0) ∧ w = w') (sd : ∀ w, Calls Tryd.prog 81 #[.int .i64 d, .int .i64 2] w fun e w' => e = .returned (.int .i64 x) ∧ w = w') (us : ∀ w, Calls Tryd.prog 80 #[.int .i64 x] w fun e w' => e = .returned (.int .u64 y) ∧ w = w') (dv : ∀ w, Calls Tryd.prog 82 #[.int .u64 h1, .int .u64 l2, .int .u64 y] w fun e w' => e = .returned (.tuple #[.int .u64 q, .int .u64 r]) ∧ w = w') (zq : ∀ w, Calls Tryd.prog 64 #[.int .i64 (wrap64 q), .int .i64 2] w fun e w' => e = .returned (.int .i64 q1) ∧ w = w') (zr : ∀ w, Calls Tryd.prog 64 #[.int .i64 (wrap64 r2), .int .i64 2] w fun e w' => e = .returned (.int .i64 r1) ∧ w = w') (w : World) :
    Calls Tryd.prog 49 #[.int .i64 16, .int .i64 2, .int .i64 a, .int .i64 b, .int .i64 d] w fun e w' => e = .returned (.tuple #[.int .i64 q1, .int .i64 r1, .bool true]) ∧ w = w' := by
  have Czd := Lib.hid zd; have Cjn := Lib.hid jn; have Csd := Lib.hid sd; have Cus := Lib.hid us; have Cdv := Lib.hid dv; have Czq := Lib.hid zq; have Czr := Lib.hid zr
  have nh' : bits .xor .u64 (if IntKind.u64.signed = true then -1 else IntKind.u64.max) h = h1 := nh
  clear jn zd sd us dv zq zr
  go_enter Tryd.func49, Tryd.ntmps49
  go_wp2_with fail
  refine (Cjn.out _).mono ?_
  rintro e w1 ⟨rfl, rfl⟩
  go_wp2_with fail
  refine (Czd.out _).mono ?_
  rintro e w1 ⟨rfl, rfl⟩
  go_wp2_with fail
  refine (Csd.out _).mono ?_
  rintro e w1 ⟨rfl, rfl⟩
  go_wp2_with fail
  refine (Cus.out _).mono ?_
  rintro e w1 ⟨rfl, rfl⟩
  go_wp2_with fail
  refine (Csd.out _).mono ?_
  rintro e w1 ⟨rfl, rfl⟩
  go_wp2_with fail
  refine (Cdv.out _).mono ?_
  rintro e w1 ⟨rfl, rfl⟩
  go_wp2_with fail
  refine (Czq.out _).mono ?_
  rintro e w1 ⟨rfl, rfl⟩
  go_wp2_with fail
  refine (Czr.out _).mono ?_
  rintro e w1 ⟨rfl, rfl⟩
  go_wp2
  go_ret3
  exact ⟨rfl, rfl⟩
end Go.Proofs.YtbcbepdfijcbmaaDoor
