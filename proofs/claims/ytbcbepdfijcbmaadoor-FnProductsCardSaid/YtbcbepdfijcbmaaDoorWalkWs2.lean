/-
  What spec.l06Multiply does of a size, told by the contracts of its helpers; conditions: those in each head.
-/
import Derived.Test.YtbcbepdfijcbmaaDoorWalkWs
import Derived.Test.YtbcbepdfijcbmaaDoorWalkFlS
namespace Go.Proofs.YtbcbepdfijcbmaaDoor
open Go.RowKit
set_option linter.unusedVariables false
set_option maxRecDepth 100000 in
set_option maxHeartbeats 1000000 in
theorem mulS13_1 (a b f x0 y0 x y h l lo hi s1 s2 : Int) (m : Bool) (hm : (hi != 0) = m) (zA : ∀ w, Calls Tryd.prog 64 #[.int .i64 a, .int .i64 1] w fun e w' => e = .returned (.int .i64 x0) ∧ w = w') (zB : ∀ w, Calls Tryd.prog 64 #[.int .i64 b, .int .i64 1] w fun e w' => e = .returned (.int .i64 y0) ∧ w = w') (pr : ∀ w, Calls Tryd.prog 88 #[.int .i64 x0, .int .i64 y0, .bool false] w fun e w' => e = .returned (.tuple #[.int .u64 h, .int .u64 l]) ∧ w = w') (zL : ∀ w, Calls Tryd.prog 64 #[.int .i64 (wrap64 l), .int .i64 1] w fun e w' => e = .returned (.int .i64 lo) ∧ w = w') (zH : ∀ w, Calls Tryd.prog 64 #[.int .i64 (wrap64 (l / 256)), .int .i64 1] w fun e w' => e = .returned (.int .i64 hi) ∧ w = w') (w : World) :
    Calls Tryd.prog 63 #[.int .i64 13, .int .i64 1, .int .i64 a, .int .i64 b, .int .i64 f] w fun e w' => e = .returned (.tuple #[.int .i64 lo, .int .i64 (hi), .int .i64 (bits .or .i64 (bits .and .i64 f 196) (bif m then 2049 else 0))]) ∧ w = w' := by
  have CzA := Lib.hid zA
  have CzB := Lib.hid zB
  have Cpr := Lib.hid pr
  have CzL := Lib.hid zL
  have CzH := Lib.hid zH
  have CcI := Lib.hid (ifS m 2049)
  clear zA zB pr zL zH
  go_enter Tryd.func63, Tryd.ntmps63
  go_wp2_with fail
  refine (CzA.out _).mono ?_
  rintro e w1 ⟨rfl, rfl⟩
  go_wp2_with fail
  refine (CzB.out _).mono ?_
  rintro e w1 ⟨rfl, rfl⟩
  go_wp2_with fail
  refine (Cpr.out _).mono ?_
  rintro e w1 ⟨rfl, rfl⟩
  go_wp2_with fail
  refine (CzL.out _).mono ?_
  rintro e w1 ⟨rfl, rfl⟩
  go_wp2_with fail
  refine (CzH.out _).mono ?_
  rintro e w1 ⟨rfl, rfl⟩
  go_wp2_with fail
  refine (CcI.out _).mono ?_
  rintro e w1 ⟨rfl, rfl⟩
  go_wp2
  go_ret3
  exact ⟨rfl, rfl⟩
set_option maxRecDepth 100000 in
set_option maxHeartbeats 1000000 in
theorem mulS13_2 (a b f x0 y0 x y h l lo hi s1 s2 : Int) (m : Bool) (hm : (hi != 0) = m) (zA : ∀ w, Calls Tryd.prog 64 #[.int .i64 a, .int .i64 2] w fun e w' => e = .returned (.int .i64 x0) ∧ w = w') (zB : ∀ w, Calls Tryd.prog 64 #[.int .i64 b, .int .i64 2] w fun e w' => e = .returned (.int .i64 y0) ∧ w = w') (pr : ∀ w, Calls Tryd.prog 88 #[.int .i64 x0, .int .i64 y0, .bool false] w fun e w' => e = .returned (.tuple #[.int .u64 h, .int .u64 l]) ∧ w = w') (zL : ∀ w, Calls Tryd.prog 64 #[.int .i64 (wrap64 l), .int .i64 2] w fun e w' => e = .returned (.int .i64 lo) ∧ w = w') (zH : ∀ w, Calls Tryd.prog 64 #[.int .i64 (wrap64 (l / 65536)), .int .i64 2] w fun e w' => e = .returned (.int .i64 hi) ∧ w = w') (w : World) :
    Calls Tryd.prog 63 #[.int .i64 13, .int .i64 2, .int .i64 a, .int .i64 b, .int .i64 f] w fun e w' => e = .returned (.tuple #[.int .i64 lo, .int .i64 (hi), .int .i64 (bits .or .i64 (bits .and .i64 f 196) (bif m then 2049 else 0))]) ∧ w = w' := by
  have CzA := Lib.hid zA
  have CzB := Lib.hid zB
  have Cpr := Lib.hid pr
  have CzL := Lib.hid zL
  have CzH := Lib.hid zH
  have CcI := Lib.hid (ifS m 2049)
  clear zA zB pr zL zH
  go_enter Tryd.func63, Tryd.ntmps63
  go_wp2_with fail
  refine (CzA.out _).mono ?_
  rintro e w1 ⟨rfl, rfl⟩
  go_wp2_with fail
  refine (CzB.out _).mono ?_
  rintro e w1 ⟨rfl, rfl⟩
  go_wp2_with fail
  refine (Cpr.out _).mono ?_
  rintro e w1 ⟨rfl, rfl⟩
  go_wp2_with fail
  refine (CzL.out _).mono ?_
  rintro e w1 ⟨rfl, rfl⟩
  go_wp2_with fail
  refine (CzH.out _).mono ?_
  rintro e w1 ⟨rfl, rfl⟩
  go_wp2_with fail
  refine (CcI.out _).mono ?_
  rintro e w1 ⟨rfl, rfl⟩
  go_wp2
  go_ret3
  exact ⟨rfl, rfl⟩
set_option maxRecDepth 100000 in
set_option maxHeartbeats 1000000 in
theorem mulS13_4 (a b f x0 y0 x y h l lo hi s1 s2 : Int) (m : Bool) (hm : (hi != 0) = m) (zA : ∀ w, Calls Tryd.prog 64 #[.int .i64 a, .int .i64 4] w fun e w' => e = .returned (.int .i64 x0) ∧ w = w') (zB : ∀ w, Calls Tryd.prog 64 #[.int .i64 b, .int .i64 4] w fun e w' => e = .returned (.int .i64 y0) ∧ w = w') (pr : ∀ w, Calls Tryd.prog 88 #[.int .i64 x0, .int .i64 y0, .bool false] w fun e w' => e = .returned (.tuple #[.int .u64 h, .int .u64 l]) ∧ w = w') (zL : ∀ w, Calls Tryd.prog 64 #[.int .i64 (wrap64 l), .int .i64 4] w fun e w' => e = .returned (.int .i64 lo) ∧ w = w') (zH : ∀ w, Calls Tryd.prog 64 #[.int .i64 (wrap64 (l / 4294967296)), .int .i64 4] w fun e w' => e = .returned (.int .i64 hi) ∧ w = w') (w : World) :
    Calls Tryd.prog 63 #[.int .i64 13, .int .i64 4, .int .i64 a, .int .i64 b, .int .i64 f] w fun e w' => e = .returned (.tuple #[.int .i64 lo, .int .i64 (hi), .int .i64 (bits .or .i64 (bits .and .i64 f 196) (bif m then 2049 else 0))]) ∧ w = w' := by
  have CzA := Lib.hid zA
  have CzB := Lib.hid zB
  have Cpr := Lib.hid pr
  have CzL := Lib.hid zL
  have CzH := Lib.hid zH
  have CcI := Lib.hid (ifS m 2049)
  clear zA zB pr zL zH
  go_enter Tryd.func63, Tryd.ntmps63
  go_wp2_with fail
  refine (CzA.out _).mono ?_
  rintro e w1 ⟨rfl, rfl⟩
  go_wp2_with fail
  refine (CzB.out _).mono ?_
  rintro e w1 ⟨rfl, rfl⟩
  go_wp2_with fail
  refine (Cpr.out _).mono ?_
  rintro e w1 ⟨rfl, rfl⟩
  go_wp2_with fail
  refine (CzL.out _).mono ?_
  rintro e w1 ⟨rfl, rfl⟩
  go_wp2_with fail
  refine (CzH.out _).mono ?_
  rintro e w1 ⟨rfl, rfl⟩
  go_wp2_with fail
  refine (CcI.out _).mono ?_
  rintro e w1 ⟨rfl, rfl⟩
  go_wp2
  go_ret3
  exact ⟨rfl, rfl⟩
set_option maxRecDepth 100000 in
set_option maxHeartbeats 1000000 in
theorem mulS13_8 (a b f x0 y0 x y h l lo hi s1 s2 : Int) (m : Bool) (hm : (wrap64 h != 0) = m) (zA : ∀ w, Calls Tryd.prog 64 #[.int .i64 a, .int .i64 8] w fun e w' => e = .returned (.int .i64 x0) ∧ w = w') (zB : ∀ w, Calls Tryd.prog 64 #[.int .i64 b, .int .i64 8] w fun e w' => e = .returned (.int .i64 y0) ∧ w = w') (pr : ∀ w, Calls Tryd.prog 88 #[.int .i64 x0, .int .i64 y0, .bool false] w fun e w' => e = .returned (.tuple #[.int .u64 h, .int .u64 l]) ∧ w = w') (zL : ∀ w, Calls Tryd.prog 64 #[.int .i64 (wrap64 l), .int .i64 8] w fun e w' => e = .returned (.int .i64 lo) ∧ w = w') (w : World) :
    Calls Tryd.prog 63 #[.int .i64 13, .int .i64 8, .int .i64 a, .int .i64 b, .int .i64 f] w fun e w' => e = .returned (.tuple #[.int .i64 lo, .int .i64 (wrap64 h), .int .i64 (bits .or .i64 (bits .and .i64 f 196) (bif m then 2049 else 0))]) ∧ w = w' := by
  have CzA := Lib.hid zA
  have CzB := Lib.hid zB
  have Cpr := Lib.hid pr
  have CzL := Lib.hid zL
  have CcI := Lib.hid (ifS m 2049)
  clear zA zB pr zL
  go_enter Tryd.func63, Tryd.ntmps63
  go_wp2_with fail
  refine (CzA.out _).mono ?_
  rintro e w1 ⟨rfl, rfl⟩
  go_wp2_with fail
  refine (CzB.out _).mono ?_
  rintro e w1 ⟨rfl, rfl⟩
  go_wp2_with fail
  refine (Cpr.out _).mono ?_
  rintro e w1 ⟨rfl, rfl⟩
  go_wp2_with fail
  refine (CzL.out _).mono ?_
  rintro e w1 ⟨rfl, rfl⟩
  go_wp2_with fail
  refine (CcI.out _).mono ?_
  rintro e w1 ⟨rfl, rfl⟩
  go_wp2
  go_ret3
  exact ⟨rfl, rfl⟩
set_option maxRecDepth 100000 in
set_option maxHeartbeats 1000000 in
theorem mulS14_1 (a b f x0 y0 x y h l lo hi s1 s2 : Int) (m : Bool) (hm : (s1 != s2 / 9223372036854775808) = m) (zA : ∀ w, Calls Tryd.prog 64 #[.int .i64 a, .int .i64 1] w fun e w' => e = .returned (.int .i64 x0) ∧ w = w') (zB : ∀ w, Calls Tryd.prog 64 #[.int .i64 b, .int .i64 1] w fun e w' => e = .returned (.int .i64 y0) ∧ w = w') (sA : ∀ w, Calls Tryd.prog 81 #[.int .i64 a, .int .i64 1] w fun e w' => e = .returned (.int .i64 x) ∧ w = w') (sB : ∀ w, Calls Tryd.prog 81 #[.int .i64 b, .int .i64 1] w fun e w' => e = .returned (.int .i64 y) ∧ w = w') (pr : ∀ w, Calls Tryd.prog 88 #[.int .i64 x, .int .i64 y, .bool true] w fun e w' => e = .returned (.tuple #[.int .u64 h, .int .u64 l]) ∧ w = w') (zL : ∀ w, Calls Tryd.prog 64 #[.int .i64 (wrap64 l), .int .i64 1] w fun e w' => e = .returned (.int .i64 lo) ∧ w = w') (zH : ∀ w, Calls Tryd.prog 64 #[.int .i64 (wrap64 (l / 256)), .int .i64 1] w fun e w' => e = .returned (.int .i64 hi) ∧ w = w') (sH : ∀ w, Calls Tryd.prog 81 #[.int .i64 hi, .int .i64 1] w fun e w' => e = .returned (.int .i64 s1) ∧ w = w') (sL : ∀ w, Calls Tryd.prog 81 #[.int .i64 lo, .int .i64 1] w fun e w' => e = .returned (.int .i64 s2) ∧ w = w') (w : World) :
    Calls Tryd.prog 63 #[.int .i64 14, .int .i64 1, .int .i64 a, .int .i64 b, .int .i64 f] w fun e w' => e = .returned (.tuple #[.int .i64 lo, .int .i64 (hi), .int .i64 (bits .or .i64 (bits .and .i64 f 196) (bif m then 2049 else 0))]) ∧ w = w' := by
  have CzA := Lib.hid zA
  have CzB := Lib.hid zB
  have CsA := Lib.hid sA
  have CsB := Lib.hid sB
  have Cpr := Lib.hid pr
  have CzL := Lib.hid zL
  have CzH := Lib.hid zH
  have CsH := Lib.hid sH
  have CsL := Lib.hid sL
  have CcI := Lib.hid (ifS m 2049)
  clear zA zB sA sB pr zL zH sH sL
  go_enter Tryd.func63, Tryd.ntmps63
  go_wp2_with fail
  refine (CzA.out _).mono ?_
  rintro e w1 ⟨rfl, rfl⟩
  go_wp2_with fail
  refine (CzB.out _).mono ?_
  rintro e w1 ⟨rfl, rfl⟩
  go_wp2_with fail
  refine (CsA.out _).mono ?_
  rintro e w1 ⟨rfl, rfl⟩
  go_wp2_with fail
  refine (CsB.out _).mono ?_
  rintro e w1 ⟨rfl, rfl⟩
  go_wp2_with fail
  refine (Cpr.out _).mono ?_
  rintro e w1 ⟨rfl, rfl⟩
  go_wp2_with fail
  refine (CzL.out _).mono ?_
  rintro e w1 ⟨rfl, rfl⟩
  go_wp2_with fail
  refine (CzH.out _).mono ?_
  rintro e w1 ⟨rfl, rfl⟩
  go_wp2_with fail
  refine (CsH.out _).mono ?_
  rintro e w1 ⟨rfl, rfl⟩
  go_wp2_with fail
  refine (CsL.out _).mono ?_
  rintro e w1 ⟨rfl, rfl⟩
  go_wp2_with fail
  refine (CcI.out _).mono ?_
  rintro e w1 ⟨rfl, rfl⟩
  go_wp2
  go_ret3
  exact ⟨rfl, rfl⟩
set_option maxRecDepth 100000 in
set_option maxHeartbeats 1000000 in
theorem mulS14_2 (a b f x0 y0 x y h l lo hi s1 s2 : Int) (m : Bool) (hm : (s1 != s2 / 9223372036854775808) = m) (zA : ∀ w, Calls Tryd.prog 64 #[.int .i64 a, .int .i64 2] w fun e w' => e = .returned (.int .i64 x0) ∧ w = w') (zB : ∀ w, Calls Tryd.prog 64 #[.int .i64 b, .int .i64 2] w fun e w' => e = .returned (.int .i64 y0) ∧ w = w') (sA : ∀ w, Calls Tryd.prog 81 #[.int .i64 a, .int .i64 2] w fun e w' => e = .returned (.int .i64 x) ∧ w = w') (sB : ∀ w, Calls Tryd.prog 81 #[.int .i64 b, .int .i64 2] w fun e w' => e = .returned (.int .i64 y) ∧ w = w') (pr : ∀ w, Calls Tryd.prog 88 #[.int .i64 x, .int .i64 y, .bool true] w fun e w' => e = .returned (.tuple #[.int .u64 h, .int .u64 l]) ∧ w = w') (zL : ∀ w, Calls Tryd.prog 64 #[.int .i64 (wrap64 l), .int .i64 2] w fun e w' => e = .returned (.int .i64 lo) ∧ w = w') (zH : ∀ w, Calls Tryd.prog 64 #[.int .i64 (wrap64 (l / 65536)), .int .i64 2] w fun e w' => e = .returned (.int .i64 hi) ∧ w = w') (sH : ∀ w, Calls Tryd.prog 81 #[.int .i64 hi, .int .i64 2] w fun e w' => e = .returned (.int .i64 s1) ∧ w = w') (sL : ∀ w, Calls Tryd.prog 81 #[.int .i64 lo, .int .i64 2] w fun e w' => e = .returned (.int .i64 s2) ∧ w = w') (w : World) :
    Calls Tryd.prog 63 #[.int .i64 14, .int .i64 2, .int .i64 a, .int .i64 b, .int .i64 f] w fun e w' => e = .returned (.tuple #[.int .i64 lo, .int .i64 (hi), .int .i64 (bits .or .i64 (bits .and .i64 f 196) (bif m then 2049 else 0))]) ∧ w = w' := by
  have CzA := Lib.hid zA
  have CzB := Lib.hid zB
  have CsA := Lib.hid sA
  have CsB := Lib.hid sB
  have Cpr := Lib.hid pr
  have CzL := Lib.hid zL
  have CzH := Lib.hid zH
  have CsH := Lib.hid sH
  have CsL := Lib.hid sL
  have CcI := Lib.hid (ifS m 2049)
  clear zA zB sA sB pr zL zH sH sL
  go_enter Tryd.func63, Tryd.ntmps63
  go_wp2_with fail
  refine (CzA.out _).mono ?_
  rintro e w1 ⟨rfl, rfl⟩
  go_wp2_with fail
  refine (CzB.out _).mono ?_
  rintro e w1 ⟨rfl, rfl⟩
  go_wp2_with fail
  refine (CsA.out _).mono ?_
  rintro e w1 ⟨rfl, rfl⟩
  go_wp2_with fail
  refine (CsB.out _).mono ?_
  rintro e w1 ⟨rfl, rfl⟩
  go_wp2_with fail
  refine (Cpr.out _).mono ?_
  rintro e w1 ⟨rfl, rfl⟩
  go_wp2_with fail
  refine (CzL.out _).mono ?_
  rintro e w1 ⟨rfl, rfl⟩
  go_wp2_with fail
  refine (CzH.out _).mono ?_
  rintro e w1 ⟨rfl, rfl⟩
  go_wp2_with fail
  refine (CsH.out _).mono ?_
  rintro e w1 ⟨rfl, rfl⟩
  go_wp2_with fail
  refine (CsL.out _).mono ?_
  rintro e w1 ⟨rfl, rfl⟩
  go_wp2_with fail
  refine (CcI.out _).mono ?_
  rintro e w1 ⟨rfl, rfl⟩
  go_wp2
  go_ret3
  exact ⟨rfl, rfl⟩
set_option maxRecDepth 100000 in
set_option maxHeartbeats 1000000 in
theorem mulS14_4 (a b f x0 y0 x y h l lo hi s1 s2 : Int) (m : Bool) (hm : (s1 != s2 / 9223372036854775808) = m) (zA : ∀ w, Calls Tryd.prog 64 #[.int .i64 a, .int .i64 4] w fun e w' => e = .returned (.int .i64 x0) ∧ w = w') (zB : ∀ w, Calls Tryd.prog 64 #[.int .i64 b, .int .i64 4] w fun e w' => e = .returned (.int .i64 y0) ∧ w = w') (sA : ∀ w, Calls Tryd.prog 81 #[.int .i64 a, .int .i64 4] w fun e w' => e = .returned (.int .i64 x) ∧ w = w') (sB : ∀ w, Calls Tryd.prog 81 #[.int .i64 b, .int .i64 4] w fun e w' => e = .returned (.int .i64 y) ∧ w = w') (pr : ∀ w, Calls Tryd.prog 88 #[.int .i64 x, .int .i64 y, .bool true] w fun e w' => e = .returned (.tuple #[.int .u64 h, .int .u64 l]) ∧ w = w') (zL : ∀ w, Calls Tryd.prog 64 #[.int .i64 (wrap64 l), .int .i64 4] w fun e w' => e = .returned (.int .i64 lo) ∧ w = w') (zH : ∀ w, Calls Tryd.prog 64 #[.int .i64 (wrap64 (l / 4294967296)), .int .i64 4] w fun e w' => e = .returned (.int .i64 hi) ∧ w = w') (sH : ∀ w, Calls Tryd.prog 81 #[.int .i64 hi, .int .i64 4] w fun e w' => e = .returned (.int .i64 s1) ∧ w = w') (sL : ∀ w, Calls Tryd.prog 81 #[.int .i64 lo, .int .i64 4] w fun e w' => e = .returned (.int .i64 s2) ∧ w = w') (w : World) :
    Calls Tryd.prog 63 #[.int .i64 14, .int .i64 4, .int .i64 a, .int .i64 b, .int .i64 f] w fun e w' => e = .returned (.tuple #[.int .i64 lo, .int .i64 (hi), .int .i64 (bits .or .i64 (bits .and .i64 f 196) (bif m then 2049 else 0))]) ∧ w = w' := by
  have CzA := Lib.hid zA
  have CzB := Lib.hid zB
  have CsA := Lib.hid sA
  have CsB := Lib.hid sB
  have Cpr := Lib.hid pr
  have CzL := Lib.hid zL
  have CzH := Lib.hid zH
  have CsH := Lib.hid sH
  have CsL := Lib.hid sL
  have CcI := Lib.hid (ifS m 2049)
  clear zA zB sA sB pr zL zH sH sL
  go_enter Tryd.func63, Tryd.ntmps63
  go_wp2_with fail
  refine (CzA.out _).mono ?_
  rintro e w1 ⟨rfl, rfl⟩
  go_wp2_with fail
  refine (CzB.out _).mono ?_
  rintro e w1 ⟨rfl, rfl⟩
  go_wp2_with fail
  refine (CsA.out _).mono ?_
  rintro e w1 ⟨rfl, rfl⟩
  go_wp2_with fail
  refine (CsB.out _).mono ?_
  rintro e w1 ⟨rfl, rfl⟩
  go_wp2_with fail
  refine (Cpr.out _).mono ?_
  rintro e w1 ⟨rfl, rfl⟩
  go_wp2_with fail
  refine (CzL.out _).mono ?_
  rintro e w1 ⟨rfl, rfl⟩
  go_wp2_with fail
  refine (CzH.out _).mono ?_
  rintro e w1 ⟨rfl, rfl⟩
  go_wp2_with fail
  refine (CsH.out _).mono ?_
  rintro e w1 ⟨rfl, rfl⟩
  go_wp2_with fail
  refine (CsL.out _).mono ?_
  rintro e w1 ⟨rfl, rfl⟩
  go_wp2_with fail
  refine (CcI.out _).mono ?_
  rintro e w1 ⟨rfl, rfl⟩
  go_wp2
  go_ret3
  exact ⟨rfl, rfl⟩
set_option maxRecDepth 100000 in
set_option maxHeartbeats 1000000 in
theorem mulS14_8 (a b f x0 y0 x y h l lo hi s1 s2 : Int) (m : Bool) (hm : (s1 != s2 / 9223372036854775808) = m) (zA : ∀ w, Calls Tryd.prog 64 #[.int .i64 a, .int .i64 8] w fun e w' => e = .returned (.int .i64 x0) ∧ w = w') (zB : ∀ w, Calls Tryd.prog 64 #[.int .i64 b, .int .i64 8] w fun e w' => e = .returned (.int .i64 y0) ∧ w = w') (sA : ∀ w, Calls Tryd.prog 81 #[.int .i64 a, .int .i64 8] w fun e w' => e = .returned (.int .i64 x) ∧ w = w') (sB : ∀ w, Calls Tryd.prog 81 #[.int .i64 b, .int .i64 8] w fun e w' => e = .returned (.int .i64 y) ∧ w = w') (pr : ∀ w, Calls Tryd.prog 88 #[.int .i64 x, .int .i64 y, .bool true] w fun e w' => e = .returned (.tuple #[.int .u64 h, .int .u64 l]) ∧ w = w') (zL : ∀ w, Calls Tryd.prog 64 #[.int .i64 (wrap64 l), .int .i64 8] w fun e w' => e = .returned (.int .i64 lo) ∧ w = w') (sH : ∀ w, Calls Tryd.prog 81 #[.int .i64 (wrap64 h), .int .i64 8] w fun e w' => e = .returned (.int .i64 s1) ∧ w = w') (sL : ∀ w, Calls Tryd.prog 81 #[.int .i64 lo, .int .i64 8] w fun e w' => e = .returned (.int .i64 s2) ∧ w = w') (w : World) :
    Calls Tryd.prog 63 #[.int .i64 14, .int .i64 8, .int .i64 a, .int .i64 b, .int .i64 f] w fun e w' => e = .returned (.tuple #[.int .i64 lo, .int .i64 (wrap64 h), .int .i64 (bits .or .i64 (bits .and .i64 f 196) (bif m then 2049 else 0))]) ∧ w = w' := by
  have CzA := Lib.hid zA
  have CzB := Lib.hid zB
  have CsA := Lib.hid sA
  have CsB := Lib.hid sB
  have Cpr := Lib.hid pr
  have CzL := Lib.hid zL
  have CsH := Lib.hid sH
  have CsL := Lib.hid sL
  have CcI := Lib.hid (ifS m 2049)
  clear zA zB sA sB pr zL sH sL
  go_enter Tryd.func63, Tryd.ntmps63
  go_wp2_with fail
  refine (CzA.out _).mono ?_
  rintro e w1 ⟨rfl, rfl⟩
  go_wp2_with fail
  refine (CzB.out _).mono ?_
  rintro e w1 ⟨rfl, rfl⟩
  go_wp2_with fail
  refine (CsA.out _).mono ?_
  rintro e w1 ⟨rfl, rfl⟩
  go_wp2_with fail
  refine (CsB.out _).mono ?_
  rintro e w1 ⟨rfl, rfl⟩
  go_wp2_with fail
  refine (Cpr.out _).mono ?_
  rintro e w1 ⟨rfl, rfl⟩
  go_wp2_with fail
  refine (CzL.out _).mono ?_
  rintro e w1 ⟨rfl, rfl⟩
  go_wp2_with fail
  refine (CsH.out _).mono ?_
  rintro e w1 ⟨rfl, rfl⟩
  go_wp2_with fail
  refine (CsL.out _).mono ?_
  rintro e w1 ⟨rfl, rfl⟩
  go_wp2_with fail
  refine (CcI.out _).mono ?_
  rintro e w1 ⟨rfl, rfl⟩
  go_wp2
  go_ret3
  exact ⟨rfl, rfl⟩
set_option maxRecDepth 100000 in
set_option maxHeartbeats 1000000 in
theorem mulS17_1 (a b f x0 y0 x y h l lo hi s1 s2 : Int) (m : Bool) (hm : (s1 != s2 / 9223372036854775808) = m) (zA : ∀ w, Calls Tryd.prog 64 #[.int .i64 a, .int .i64 1] w fun e w' => e = .returned (.int .i64 x0) ∧ w = w') (zB : ∀ w, Calls Tryd.prog 64 #[.int .i64 b, .int .i64 1] w fun e w' => e = .returned (.int .i64 y0) ∧ w = w') (sA : ∀ w, Calls Tryd.prog 81 #[.int .i64 a, .int .i64 1] w fun e w' => e = .returned (.int .i64 x) ∧ w = w') (sB : ∀ w, Calls Tryd.prog 81 #[.int .i64 b, .int .i64 1] w fun e w' => e = .returned (.int .i64 y) ∧ w = w') (pr : ∀ w, Calls Tryd.prog 88 #[.int .i64 x, .int .i64 y, .bool true] w fun e w' => e = .returned (.tuple #[.int .u64 h, .int .u64 l]) ∧ w = w') (zL : ∀ w, Calls Tryd.prog 64 #[.int .i64 (wrap64 l), .int .i64 1] w fun e w' => e = .returned (.int .i64 lo) ∧ w = w') (zH : ∀ w, Calls Tryd.prog 64 #[.int .i64 (wrap64 (l / 256)), .int .i64 1] w fun e w' => e = .returned (.int .i64 hi) ∧ w = w') (sH : ∀ w, Calls Tryd.prog 81 #[.int .i64 hi, .int .i64 1] w fun e w' => e = .returned (.int .i64 s1) ∧ w = w') (sL : ∀ w, Calls Tryd.prog 81 #[.int .i64 lo, .int .i64 1] w fun e w' => e = .returned (.int .i64 s2) ∧ w = w') (w : World) :
    Calls Tryd.prog 63 #[.int .i64 17, .int .i64 1, .int .i64 a, .int .i64 b, .int .i64 f] w fun e w' => e = .returned (.tuple #[.int .i64 lo, .int .i64 (hi), .int .i64 (bits .or .i64 (bits .and .i64 f 196) (bif m then 2049 else 0))]) ∧ w = w' := by
  have CzA := Lib.hid zA
  have CzB := Lib.hid zB
  have CsA := Lib.hid sA
  have CsB := Lib.hid sB
  have Cpr := Lib.hid pr
  have CzL := Lib.hid zL
  have CzH := Lib.hid zH
  have CsH := Lib.hid sH
  have CsL := Lib.hid sL
  have CcI := Lib.hid (ifS m 2049)
  clear zA zB sA sB pr zL zH sH sL
  go_enter Tryd.func63, Tryd.ntmps63
  go_wp2_with fail
  refine (CzA.out _).mono ?_
  rintro e w1 ⟨rfl, rfl⟩
  go_wp2_with fail
  refine (CzB.out _).mono ?_
  rintro e w1 ⟨rfl, rfl⟩
  go_wp2_with fail
  refine (CsA.out _).mono ?_
  rintro e w1 ⟨rfl, rfl⟩
  go_wp2_with fail
  refine (CsB.out _).mono ?_
  rintro e w1 ⟨rfl, rfl⟩
  go_wp2_with fail
  refine (Cpr.out _).mono ?_
  rintro e w1 ⟨rfl, rfl⟩
  go_wp2_with fail
  refine (CzL.out _).mono ?_
  rintro e w1 ⟨rfl, rfl⟩
  go_wp2_with fail
  refine (CzH.out _).mono ?_
  rintro e w1 ⟨rfl, rfl⟩
  go_wp2_with fail
  refine (CsH.out _).mono ?_
  rintro e w1 ⟨rfl, rfl⟩
  go_wp2_with fail
  refine (CsL.out _).mono ?_
  rintro e w1 ⟨rfl, rfl⟩
  go_wp2_with fail
  refine (CcI.out _).mono ?_
  rintro e w1 ⟨rfl, rfl⟩
  go_wp2
  go_ret3
  exact ⟨rfl, rfl⟩
set_option maxRecDepth 100000 in
set_option maxHeartbeats 1000000 in
theorem mulS17_2 (a b f x0 y0 x y h l lo hi s1 s2 : Int) (m : Bool) (hm : (s1 != s2 / 9223372036854775808) = m) (zA : ∀ w, Calls Tryd.prog 64 #[.int .i64 a, .int .i64 2] w fun e w' => e = .returned (.int .i64 x0) ∧ w = w') (zB : ∀ w, Calls Tryd.prog 64 #[.int .i64 b, .int .i64 2] w fun e w' => e = .returned (.int .i64 y0) ∧ w = w') (sA : ∀ w, Calls Tryd.prog 81 #[.int .i64 a, .int .i64 2] w fun e w' => e = .returned (.int .i64 x) ∧ w = w') (sB : ∀ w, Calls Tryd.prog 81 #[.int .i64 b, .int .i64 2] w fun e w' => e = .returned (.int .i64 y) ∧ w = w') (pr : ∀ w, Calls Tryd.prog 88 #[.int .i64 x, .int .i64 y, .bool true] w fun e w' => e = .returned (.tuple #[.int .u64 h, .int .u64 l]) ∧ w = w') (zL : ∀ w, Calls Tryd.prog 64 #[.int .i64 (wrap64 l), .int .i64 2] w fun e w' => e = .returned (.int .i64 lo) ∧ w = w') (zH : ∀ w, Calls Tryd.prog 64 #[.int .i64 (wrap64 (l / 65536)), .int .i64 2] w fun e w' => e = .returned (.int .i64 hi) ∧ w = w') (sH : ∀ w, Calls Tryd.prog 81 #[.int .i64 hi, .int .i64 2] w fun e w' => e = .returned (.int .i64 s1) ∧ w = w') (sL : ∀ w, Calls Tryd.prog 81 #[.int .i64 lo, .int .i64 2] w fun e w' => e = .returned (.int .i64 s2) ∧ w = w') (w : World) :
    Calls Tryd.prog 63 #[.int .i64 17, .int .i64 2, .int .i64 a, .int .i64 b, .int .i64 f] w fun e w' => e = .returned (.tuple #[.int .i64 lo, .int .i64 (hi), .int .i64 (bits .or .i64 (bits .and .i64 f 196) (bif m then 2049 else 0))]) ∧ w = w' := by
  have CzA := Lib.hid zA
  have CzB := Lib.hid zB
  have CsA := Lib.hid sA
  have CsB := Lib.hid sB
  have Cpr := Lib.hid pr
  have CzL := Lib.hid zL
  have CzH := Lib.hid zH
  have CsH := Lib.hid sH
  have CsL := Lib.hid sL
  have CcI := Lib.hid (ifS m 2049)
  clear zA zB sA sB pr zL zH sH sL
  go_enter Tryd.func63, Tryd.ntmps63
  go_wp2_with fail
  refine (CzA.out _).mono ?_
  rintro e w1 ⟨rfl, rfl⟩
  go_wp2_with fail
  refine (CzB.out _).mono ?_
  rintro e w1 ⟨rfl, rfl⟩
  go_wp2_with fail
  refine (CsA.out _).mono ?_
  rintro e w1 ⟨rfl, rfl⟩
  go_wp2_with fail
  refine (CsB.out _).mono ?_
  rintro e w1 ⟨rfl, rfl⟩
  go_wp2_with fail
  refine (Cpr.out _).mono ?_
  rintro e w1 ⟨rfl, rfl⟩
  go_wp2_with fail
  refine (CzL.out _).mono ?_
  rintro e w1 ⟨rfl, rfl⟩
  go_wp2_with fail
  refine (CzH.out _).mono ?_
  rintro e w1 ⟨rfl, rfl⟩
  go_wp2_with fail
  refine (CsH.out _).mono ?_
  rintro e w1 ⟨rfl, rfl⟩
  go_wp2_with fail
  refine (CsL.out _).mono ?_
  rintro e w1 ⟨rfl, rfl⟩
  go_wp2_with fail
  refine (CcI.out _).mono ?_
  rintro e w1 ⟨rfl, rfl⟩
  go_wp2
  go_ret3
  exact ⟨rfl, rfl⟩
set_option maxRecDepth 100000 in
set_option maxHeartbeats 1000000 in
theorem mulS17_4 (a b f x0 y0 x y h l lo hi s1 s2 : Int) (m : Bool) (hm : (s1 != s2 / 9223372036854775808) = m) (zA : ∀ w, Calls Tryd.prog 64 #[.int .i64 a, .int .i64 4] w fun e w' => e = .returned (.int .i64 x0) ∧ w = w') (zB : ∀ w, Calls Tryd.prog 64 #[.int .i64 b, .int .i64 4] w fun e w' => e = .returned (.int .i64 y0) ∧ w = w') (sA : ∀ w, Calls Tryd.prog 81 #[.int .i64 a, .int .i64 4] w fun e w' => e = .returned (.int .i64 x) ∧ w = w') (sB : ∀ w, Calls Tryd.prog 81 #[.int .i64 b, .int .i64 4] w fun e w' => e = .returned (.int .i64 y) ∧ w = w') (pr : ∀ w, Calls Tryd.prog 88 #[.int .i64 x, .int .i64 y, .bool true] w fun e w' => e = .returned (.tuple #[.int .u64 h, .int .u64 l]) ∧ w = w') (zL : ∀ w, Calls Tryd.prog 64 #[.int .i64 (wrap64 l), .int .i64 4] w fun e w' => e = .returned (.int .i64 lo) ∧ w = w') (zH : ∀ w, Calls Tryd.prog 64 #[.int .i64 (wrap64 (l / 4294967296)), .int .i64 4] w fun e w' => e = .returned (.int .i64 hi) ∧ w = w') (sH : ∀ w, Calls Tryd.prog 81 #[.int .i64 hi, .int .i64 4] w fun e w' => e = .returned (.int .i64 s1) ∧ w = w') (sL : ∀ w, Calls Tryd.prog 81 #[.int .i64 lo, .int .i64 4] w fun e w' => e = .returned (.int .i64 s2) ∧ w = w') (w : World) :
    Calls Tryd.prog 63 #[.int .i64 17, .int .i64 4, .int .i64 a, .int .i64 b, .int .i64 f] w fun e w' => e = .returned (.tuple #[.int .i64 lo, .int .i64 (hi), .int .i64 (bits .or .i64 (bits .and .i64 f 196) (bif m then 2049 else 0))]) ∧ w = w' := by
  have CzA := Lib.hid zA
  have CzB := Lib.hid zB
  have CsA := Lib.hid sA
  have CsB := Lib.hid sB
  have Cpr := Lib.hid pr
  have CzL := Lib.hid zL
  have CzH := Lib.hid zH
  have CsH := Lib.hid sH
  have CsL := Lib.hid sL
  have CcI := Lib.hid (ifS m 2049)
  clear zA zB sA sB pr zL zH sH sL
  go_enter Tryd.func63, Tryd.ntmps63
  go_wp2_with fail
  refine (CzA.out _).mono ?_
  rintro e w1 ⟨rfl, rfl⟩
  go_wp2_with fail
  refine (CzB.out _).mono ?_
  rintro e w1 ⟨rfl, rfl⟩
  go_wp2_with fail
  refine (CsA.out _).mono ?_
  rintro e w1 ⟨rfl, rfl⟩
  go_wp2_with fail
  refine (CsB.out _).mono ?_
  rintro e w1 ⟨rfl, rfl⟩
  go_wp2_with fail
  refine (Cpr.out _).mono ?_
  rintro e w1 ⟨rfl, rfl⟩
  go_wp2_with fail
  refine (CzL.out _).mono ?_
  rintro e w1 ⟨rfl, rfl⟩
  go_wp2_with fail
  refine (CzH.out _).mono ?_
  rintro e w1 ⟨rfl, rfl⟩
  go_wp2_with fail
  refine (CsH.out _).mono ?_
  rintro e w1 ⟨rfl, rfl⟩
  go_wp2_with fail
  refine (CsL.out _).mono ?_
  rintro e w1 ⟨rfl, rfl⟩
  go_wp2_with fail
  refine (CcI.out _).mono ?_
  rintro e w1 ⟨rfl, rfl⟩
  go_wp2
  go_ret3
  exact ⟨rfl, rfl⟩
set_option maxRecDepth 100000 in
set_option maxHeartbeats 1000000 in
theorem mulS17_8 (a b f x0 y0 x y h l lo hi s1 s2 : Int) (m : Bool) (hm : (s1 != s2 / 9223372036854775808) = m) (zA : ∀ w, Calls Tryd.prog 64 #[.int .i64 a, .int .i64 8] w fun e w' => e = .returned (.int .i64 x0) ∧ w = w') (zB : ∀ w, Calls Tryd.prog 64 #[.int .i64 b, .int .i64 8] w fun e w' => e = .returned (.int .i64 y0) ∧ w = w') (sA : ∀ w, Calls Tryd.prog 81 #[.int .i64 a, .int .i64 8] w fun e w' => e = .returned (.int .i64 x) ∧ w = w') (sB : ∀ w, Calls Tryd.prog 81 #[.int .i64 b, .int .i64 8] w fun e w' => e = .returned (.int .i64 y) ∧ w = w') (pr : ∀ w, Calls Tryd.prog 88 #[.int .i64 x, .int .i64 y, .bool true] w fun e w' => e = .returned (.tuple #[.int .u64 h, .int .u64 l]) ∧ w = w') (zL : ∀ w, Calls Tryd.prog 64 #[.int .i64 (wrap64 l), .int .i64 8] w fun e w' => e = .returned (.int .i64 lo) ∧ w = w') (sH : ∀ w, Calls Tryd.prog 81 #[.int .i64 (wrap64 h), .int .i64 8] w fun e w' => e = .returned (.int .i64 s1) ∧ w = w') (sL : ∀ w, Calls Tryd.prog 81 #[.int .i64 lo, .int .i64 8] w fun e w' => e = .returned (.int .i64 s2) ∧ w = w') (w : World) :
    Calls Tryd.prog 63 #[.int .i64 17, .int .i64 8, .int .i64 a, .int .i64 b, .int .i64 f] w fun e w' => e = .returned (.tuple #[.int .i64 lo, .int .i64 (wrap64 h), .int .i64 (bits .or .i64 (bits .and .i64 f 196) (bif m then 2049 else 0))]) ∧ w = w' := by
  have CzA := Lib.hid zA
  have CzB := Lib.hid zB
  have CsA := Lib.hid sA
  have CsB := Lib.hid sB
  have Cpr := Lib.hid pr
  have CzL := Lib.hid zL
  have CsH := Lib.hid sH
  have CsL := Lib.hid sL
  have CcI := Lib.hid (ifS m 2049)
  clear zA zB sA sB pr zL sH sL
  go_enter Tryd.func63, Tryd.ntmps63
  go_wp2_with fail
  refine (CzA.out _).mono ?_
  rintro e w1 ⟨rfl, rfl⟩
  go_wp2_with fail
  refine (CzB.out _).mono ?_
  rintro e w1 ⟨rfl, rfl⟩
  go_wp2_with fail
  refine (CsA.out _).mono ?_
  rintro e w1 ⟨rfl, rfl⟩
  go_wp2_with fail
  refine (CsB.out _).mono ?_
  rintro e w1 ⟨rfl, rfl⟩
  go_wp2_with fail
  refine (Cpr.out _).mono ?_
  rintro e w1 ⟨rfl, rfl⟩
  go_wp2_with fail
  refine (CzL.out _).mono ?_
  rintro e w1 ⟨rfl, rfl⟩
  go_wp2_with fail
  refine (CsH.out _).mono ?_
  rintro e w1 ⟨rfl, rfl⟩
  go_wp2_with fail
  refine (CsL.out _).mono ?_
  rintro e w1 ⟨rfl, rfl⟩
  go_wp2_with fail
  refine (CcI.out _).mono ?_
  rintro e w1 ⟨rfl, rfl⟩
  go_wp2
  go_ret3
  exact ⟨rfl, rfl⟩
end Go.Proofs.YtbcbepdfijcbmaaDoor
