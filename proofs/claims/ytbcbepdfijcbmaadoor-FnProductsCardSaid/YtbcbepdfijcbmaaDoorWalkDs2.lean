/-
  spec.l06Divide of a size, told by the contracts of its helpers; conditions: those in each head.
-/
import Derived.Test.YtbcbepdfijcbmaaDoorWalkDs
namespace Go.Proofs.YtbcbepdfijcbmaaDoor
open Go.RowKit
set_option linter.unusedVariables false
set_option maxRecDepth 100000 in
set_option maxHeartbeats 1000000 in
theorem divS15No1 (a b d h l x : Int) (hge : decide (IntKind.u64.wrap x ≤ h) = true) (jn : ∀ w, Calls Tryd.prog 79 #[.int .i64 1, .int .i64 a, .int .i64 b, .bool false] w fun e w' => e = .returned (.tuple #[.int .u64 h, .int .u64 l]) ∧ w = w') (zd : ∀ w, Calls Tryd.prog 64 #[.int .i64 d, .int .i64 1] w fun e w' => e = .returned (.int .i64 x) ∧ w = w') (w : World) :
    Calls Tryd.prog 49 #[.int .i64 15, .int .i64 1, .int .i64 a, .int .i64 b, .int .i64 d] w fun e w' => e = .returned (.tuple #[.int .i64 0, .int .i64 0, .bool false]) ∧ w = w' := by
  have Cjn := Lib.hid jn; have Czd := Lib.hid zd
  clear jn zd
  go_enter Tryd.func49, Tryd.ntmps49
  go_wp2_with fail
  refine (Cjn.out _).mono ?_
  rintro e w1 ⟨rfl, rfl⟩
  go_wp2_with fail
  refine (Czd.out _).mono ?_
  rintro e w1 ⟨rfl, rfl⟩
  go_wp2
  go_ret3
  exact ⟨rfl, rfl⟩
set_option maxRecDepth 100000 in
set_option maxHeartbeats 1000000 in
theorem divS15Yes1 (a b d h l x q r : Int) (hge : decide (IntKind.u64.wrap x ≤ h) = false) (jn : ∀ w, Calls Tryd.prog 79 #[.int .i64 1, .int .i64 a, .int .i64 b, .bool false] w fun e w' => e = .returned (.tuple #[.int .u64 h, .int .u64 l]) ∧ w = w') (zd : ∀ w, Calls Tryd.prog 64 #[.int .i64 d, .int .i64 1] w fun e w' => e = .returned (.int .i64 x) ∧ w = w') (dv : ∀ w, Calls Tryd.prog 82 #[.int .u64 h, .int .u64 l, .int .u64 (IntKind.u64.wrap x)] w fun e w' => e = .returned (.tuple #[.int .u64 q, .int .u64 r]) ∧ w = w') (w : World) :
    Calls Tryd.prog 49 #[.int .i64 15, .int .i64 1, .int .i64 a, .int .i64 b, .int .i64 d] w fun e w' => e = .returned (.tuple #[.int .i64 (wrap64 q), .int .i64 (wrap64 r), .bool ((q / 256 == 0))]) ∧ w = w' := by
  have Cjn := Lib.hid jn; have Czd := Lib.hid zd; have Cdv := Lib.hid dv
  clear jn zd dv
  go_enter Tryd.func49, Tryd.ntmps49
  go_wp2_with fail
  refine (Cjn.out _).mono ?_
  rintro e w1 ⟨rfl, rfl⟩
  go_wp2_with fail
  refine (Czd.out _).mono ?_
  rintro e w1 ⟨rfl, rfl⟩
  go_wp2_with fail
  refine (Cdv.out _).mono ?_
  rintro e w1 ⟨rfl, rfl⟩
  go_wp2
  go_ret3
  exact ⟨rfl, rfl⟩
set_option maxRecDepth 100000 in
set_option maxHeartbeats 1000000 in
theorem divS15No2 (a b d h l x : Int) (hge : decide (IntKind.u64.wrap x ≤ h) = true) (jn : ∀ w, Calls Tryd.prog 79 #[.int .i64 2, .int .i64 a, .int .i64 b, .bool false] w fun e w' => e = .returned (.tuple #[.int .u64 h, .int .u64 l]) ∧ w = w') (zd : ∀ w, Calls Tryd.prog 64 #[.int .i64 d, .int .i64 2] w fun e w' => e = .returned (.int .i64 x) ∧ w = w') (w : World) :
    Calls Tryd.prog 49 #[.int .i64 15, .int .i64 2, .int .i64 a, .int .i64 b, .int .i64 d] w fun e w' => e = .returned (.tuple #[.int .i64 0, .int .i64 0, .bool false]) ∧ w = w' := by
  have Cjn := Lib.hid jn; have Czd := Lib.hid zd
  clear jn zd
  go_enter Tryd.func49, Tryd.ntmps49
  go_wp2_with fail
  refine (Cjn.out _).mono ?_
  rintro e w1 ⟨rfl, rfl⟩
  go_wp2_with fail
  refine (Czd.out _).mono ?_
  rintro e w1 ⟨rfl, rfl⟩
  go_wp2
  go_ret3
  exact ⟨rfl, rfl⟩
set_option maxRecDepth 100000 in
set_option maxHeartbeats 1000000 in
theorem divS15Yes2 (a b d h l x q r : Int) (hge : decide (IntKind.u64.wrap x ≤ h) = false) (jn : ∀ w, Calls Tryd.prog 79 #[.int .i64 2, .int .i64 a, .int .i64 b, .bool false] w fun e w' => e = .returned (.tuple #[.int .u64 h, .int .u64 l]) ∧ w = w') (zd : ∀ w, Calls Tryd.prog 64 #[.int .i64 d, .int .i64 2] w fun e w' => e = .returned (.int .i64 x) ∧ w = w') (dv : ∀ w, Calls Tryd.prog 82 #[.int .u64 h, .int .u64 l, .int .u64 (IntKind.u64.wrap x)] w fun e w' => e = .returned (.tuple #[.int .u64 q, .int .u64 r]) ∧ w = w') (w : World) :
    Calls Tryd.prog 49 #[.int .i64 15, .int .i64 2, .int .i64 a, .int .i64 b, .int .i64 d] w fun e w' => e = .returned (.tuple #[.int .i64 (wrap64 q), .int .i64 (wrap64 r), .bool ((q / 65536 == 0))]) ∧ w = w' := by
  have Cjn := Lib.hid jn; have Czd := Lib.hid zd; have Cdv := Lib.hid dv
  clear jn zd dv
  go_enter Tryd.func49, Tryd.ntmps49
  go_wp2_with fail
  refine (Cjn.out _).mono ?_
  rintro e w1 ⟨rfl, rfl⟩
  go_wp2_with fail
  refine (Czd.out _).mono ?_
  rintro e w1 ⟨rfl, rfl⟩
  go_wp2_with fail
  refine (Cdv.out _).mono ?_
  rintro e w1 ⟨rfl, rfl⟩
  go_wp2
  go_ret3
  exact ⟨rfl, rfl⟩
set_option maxRecDepth 100000 in
set_option maxHeartbeats 1000000 in
theorem divS15No4 (a b d h l x : Int) (hge : decide (IntKind.u64.wrap x ≤ h) = true) (jn : ∀ w, Calls Tryd.prog 79 #[.int .i64 4, .int .i64 a, .int .i64 b, .bool false] w fun e w' => e = .returned (.tuple #[.int .u64 h, .int .u64 l]) ∧ w = w') (zd : ∀ w, Calls Tryd.prog 64 #[.int .i64 d, .int .i64 4] w fun e w' => e = .returned (.int .i64 x) ∧ w = w') (w : World) :
    Calls Tryd.prog 49 #[.int .i64 15, .int .i64 4, .int .i64 a, .int .i64 b, .int .i64 d] w fun e w' => e = .returned (.tuple #[.int .i64 0, .int .i64 0, .bool false]) ∧ w = w' := by
  have Cjn := Lib.hid jn; have Czd := Lib.hid zd
  clear jn zd
  go_enter Tryd.func49, Tryd.ntmps49
  go_wp2_with fail
  refine (Cjn.out _).mono ?_
  rintro e w1 ⟨rfl, rfl⟩
  go_wp2_with fail
  refine (Czd.out _).mono ?_
  rintro e w1 ⟨rfl, rfl⟩
  go_wp2
  go_ret3
  exact ⟨rfl, rfl⟩
set_option maxRecDepth 100000 in
set_option maxHeartbeats 1000000 in
theorem divS15Yes4 (a b d h l x q r : Int) (hge : decide (IntKind.u64.wrap x ≤ h) = false) (jn : ∀ w, Calls Tryd.prog 79 #[.int .i64 4, .int .i64 a, .int .i64 b, .bool false] w fun e w' => e = .returned (.tuple #[.int .u64 h, .int .u64 l]) ∧ w = w') (zd : ∀ w, Calls Tryd.prog 64 #[.int .i64 d, .int .i64 4] w fun e w' => e = .returned (.int .i64 x) ∧ w = w') (dv : ∀ w, Calls Tryd.prog 82 #[.int .u64 h, .int .u64 l, .int .u64 (IntKind.u64.wrap x)] w fun e w' => e = .returned (.tuple #[.int .u64 q, .int .u64 r]) ∧ w = w') (w : World) :
    Calls Tryd.prog 49 #[.int .i64 15, .int .i64 4, .int .i64 a, .int .i64 b, .int .i64 d] w fun e w' => e = .returned (.tuple #[.int .i64 (wrap64 q), .int .i64 (wrap64 r), .bool ((q / 4294967296 == 0))]) ∧ w = w' := by
  have Cjn := Lib.hid jn; have Czd := Lib.hid zd; have Cdv := Lib.hid dv
  clear jn zd dv
  go_enter Tryd.func49, Tryd.ntmps49
  go_wp2_with fail
  refine (Cjn.out _).mono ?_
  rintro e w1 ⟨rfl, rfl⟩
  go_wp2_with fail
  refine (Czd.out _).mono ?_
  rintro e w1 ⟨rfl, rfl⟩
  go_wp2_with fail
  refine (Cdv.out _).mono ?_
  rintro e w1 ⟨rfl, rfl⟩
  go_wp2
  go_ret3
  exact ⟨rfl, rfl⟩
set_option maxRecDepth 100000 in
set_option maxHeartbeats 1000000 in
theorem divS15No8 (a b d h l x : Int) (hge : decide (IntKind.u64.wrap x ≤ h) = true) (jn : ∀ w, Calls Tryd.prog 79 #[.int .i64 8, .int .i64 a, .int .i64 b, .bool false] w fun e w' => e = .returned (.tuple #[.int .u64 h, .int .u64 l]) ∧ w = w') (zd : ∀ w, Calls Tryd.prog 64 #[.int .i64 d, .int .i64 8] w fun e w' => e = .returned (.int .i64 x) ∧ w = w') (w : World) :
    Calls Tryd.prog 49 #[.int .i64 15, .int .i64 8, .int .i64 a, .int .i64 b, .int .i64 d] w fun e w' => e = .returned (.tuple #[.int .i64 0, .int .i64 0, .bool false]) ∧ w = w' := by
  have Cjn := Lib.hid jn; have Czd := Lib.hid zd
  clear jn zd
  go_enter Tryd.func49, Tryd.ntmps49
  go_wp2_with fail
  refine (Cjn.out _).mono ?_
  rintro e w1 ⟨rfl, rfl⟩
  go_wp2_with fail
  refine (Czd.out _).mono ?_
  rintro e w1 ⟨rfl, rfl⟩
  go_wp2
  go_ret3
  exact ⟨rfl, rfl⟩
set_option maxRecDepth 100000 in
set_option maxHeartbeats 1000000 in
theorem divS15Yes8 (a b d h l x q r : Int) (hge : decide (IntKind.u64.wrap x ≤ h) = false) (jn : ∀ w, Calls Tryd.prog 79 #[.int .i64 8, .int .i64 a, .int .i64 b, .bool false] w fun e w' => e = .returned (.tuple #[.int .u64 h, .int .u64 l]) ∧ w = w') (zd : ∀ w, Calls Tryd.prog 64 #[.int .i64 d, .int .i64 8] w fun e w' => e = .returned (.int .i64 x) ∧ w = w') (dv : ∀ w, Calls Tryd.prog 82 #[.int .u64 h, .int .u64 l, .int .u64 (IntKind.u64.wrap x)] w fun e w' => e = .returned (.tuple #[.int .u64 q, .int .u64 r]) ∧ w = w') (w : World) :
    Calls Tryd.prog 49 #[.int .i64 15, .int .i64 8, .int .i64 a, .int .i64 b, .int .i64 d] w fun e w' => e = .returned (.tuple #[.int .i64 (wrap64 q), .int .i64 (wrap64 r), .bool (true)]) ∧ w = w' := by
  have Cjn := Lib.hid jn; have Czd := Lib.hid zd; have Cdv := Lib.hid dv
  clear jn zd dv
  go_enter Tryd.func49, Tryd.ntmps49
  go_wp2_with fail
  refine (Cjn.out _).mono ?_
  rintro e w1 ⟨rfl, rfl⟩
  go_wp2_with fail
  refine (Czd.out _).mono ?_
  rintro e w1 ⟨rfl, rfl⟩
  go_wp2_with fail
  refine (Cdv.out _).mono ?_
  rintro e w1 ⟨rfl, rfl⟩
  go_wp2
  go_ret3
  exact ⟨rfl, rfl⟩
end Go.Proofs.YtbcbepdfijcbmaaDoor
