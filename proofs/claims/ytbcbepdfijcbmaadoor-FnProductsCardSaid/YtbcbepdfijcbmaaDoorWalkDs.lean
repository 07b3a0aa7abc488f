/-
  spec.l06Join: the dividend of two halves, told by the contracts of its helpers; conditions: those in each head.
-/
import Derived.Test.YtbcbepdfijcbmaaDoorWalkWs
namespace Go.Proofs.YtbcbepdfijcbmaaDoor
open Go.RowKit
set_option linter.unusedVariables false
set_option maxHeartbeats 1000000 in
theorem joinS8 (h l : Int) (b : Bool) (w : World) :
    Calls Tryd.prog 79 #[.int .i64 8, .int .i64 h, .int .i64 l, .bool b] w fun e w' => e = .returned (.tuple #[.int .u64 (IntKind.u64.wrap h), .int .u64 (IntKind.u64.wrap l)]) ∧ w = w' := by
  go_enter Tryd.func79, Tryd.ntmps79
  go_wp2
  go_ret2
  exact ⟨rfl, rfl⟩
set_option maxRecDepth 100000 in
set_option maxHeartbeats 1000000 in
theorem joinSP1 (h l x y : Int) (hH : ∀ w, Calls Tryd.prog 64 #[.int .i64 h, .int .i64 1] w fun e w' => e = .returned (.int .i64 x) ∧ w = w') (hL : ∀ w, Calls Tryd.prog 64 #[.int .i64 l, .int .i64 1] w fun e w' => e = .returned (.int .i64 y) ∧ w = w') (w : World) :
    Calls Tryd.prog 79 #[.int .i64 1, .int .i64 h, .int .i64 l, .bool false] w fun e w' => e = .returned (.tuple #[.int .u64 0, .int .u64 (bits .or .u64 (IntKind.u64.wrap (IntKind.u64.wrap x * 256)) (IntKind.u64.wrap y))]) ∧ w = w' := by
  have CH := Lib.hid hH; have CL := Lib.hid hL
  clear hH hL
  go_enter Tryd.func79, Tryd.ntmps79
  go_wp2_with fail
  refine (CH.out _).mono ?_
  rintro e w1 ⟨rfl, rfl⟩
  go_wp2_with fail
  refine (CL.out _).mono ?_
  rintro e w1 ⟨rfl, rfl⟩
  go_wp2
  go_ret2
  exact ⟨rfl, rfl⟩
set_option maxRecDepth 100000 in
set_option maxHeartbeats 1000000 in
theorem joinSN01 (h l x y : Int) (hH : ∀ w, Calls Tryd.prog 64 #[.int .i64 h, .int .i64 1] w fun e w' => e = .returned (.int .i64 x) ∧ w = w') (hL : ∀ w, Calls Tryd.prog 64 #[.int .i64 l, .int .i64 1] w fun e w' => e = .returned (.int .i64 y) ∧ w = w') (hB : ∀ w, Calls Tryd.prog 90 #[.int .i64 h, .int .i64 7] w fun e w' => e = .returned (.int .i64 0) ∧ w = w') (w : World) :
    Calls Tryd.prog 79 #[.int .i64 1, .int .i64 h, .int .i64 l, .bool true] w fun e w' => e = .returned (.tuple #[.int .u64 0, .int .u64 (bits .or .u64 (IntKind.u64.wrap (IntKind.u64.wrap x * 256)) (IntKind.u64.wrap y))]) ∧ w = w' := by
  have CH := Lib.hid hH; have CL := Lib.hid hL; have CB := Lib.hid hB
  clear hH hL hB
  go_enter Tryd.func79, Tryd.ntmps79
  go_wp2_with fail
  refine (CH.out _).mono ?_
  rintro e w1 ⟨rfl, rfl⟩
  go_wp2_with fail
  refine (CL.out _).mono ?_
  rintro e w1 ⟨rfl, rfl⟩
  go_wp2_with fail
  refine (CB.out _).mono ?_
  rintro e w1 ⟨rfl, rfl⟩
  go_wp2
  go_ret2
  exact ⟨rfl, rfl⟩
set_option maxRecDepth 100000 in
set_option maxHeartbeats 1000000 in
theorem joinSN11 (h l x y : Int) (hH : ∀ w, Calls Tryd.prog 64 #[.int .i64 h, .int .i64 1] w fun e w' => e = .returned (.int .i64 x) ∧ w = w') (hL : ∀ w, Calls Tryd.prog 64 #[.int .i64 l, .int .i64 1] w fun e w' => e = .returned (.int .i64 y) ∧ w = w') (hB : ∀ w, Calls Tryd.prog 90 #[.int .i64 h, .int .i64 7] w fun e w' => e = .returned (.int .i64 1) ∧ w = w') (w : World) :
    Calls Tryd.prog 79 #[.int .i64 1, .int .i64 h, .int .i64 l, .bool true] w fun e w' => e = .returned (.tuple #[.int .u64 18446744073709551615, .int .u64 (bits .or .u64 (bits .or .u64 (IntKind.u64.wrap (IntKind.u64.wrap x * 256)) (IntKind.u64.wrap y)) 18446744073709486080)]) ∧ w = w' := by
  have CH := Lib.hid hH; have CL := Lib.hid hL; have CB := Lib.hid hB
  clear hH hL hB
  go_enter Tryd.func79, Tryd.ntmps79
  go_wp2_with fail
  refine (CH.out _).mono ?_
  rintro e w1 ⟨rfl, rfl⟩
  go_wp2_with fail
  refine (CL.out _).mono ?_
  rintro e w1 ⟨rfl, rfl⟩
  go_wp2_with fail
  refine (CB.out _).mono ?_
  rintro e w1 ⟨rfl, rfl⟩
  go_wp2
  go_ret2
  exact ⟨rfl, rfl⟩
set_option maxRecDepth 100000 in
set_option maxHeartbeats 1000000 in
theorem joinSP2 (h l x y : Int) (hH : ∀ w, Calls Tryd.prog 64 #[.int .i64 h, .int .i64 2] w fun e w' => e = .returned (.int .i64 x) ∧ w = w') (hL : ∀ w, Calls Tryd.prog 64 #[.int .i64 l, .int .i64 2] w fun e w' => e = .returned (.int .i64 y) ∧ w = w') (w : World) :
    Calls Tryd.prog 79 #[.int .i64 2, .int .i64 h, .int .i64 l, .bool false] w fun e w' => e = .returned (.tuple #[.int .u64 0, .int .u64 (bits .or .u64 (IntKind.u64.wrap (IntKind.u64.wrap x * 65536)) (IntKind.u64.wrap y))]) ∧ w = w' := by
  have CH := Lib.hid hH; have CL := Lib.hid hL
  clear hH hL
  go_enter Tryd.func79, Tryd.ntmps79
  go_wp2_with fail
  refine (CH.out _).mono ?_
  rintro e w1 ⟨rfl, rfl⟩
  go_wp2_with fail
  refine (CL.out _).mono ?_
  rintro e w1 ⟨rfl, rfl⟩
  go_wp2
  go_ret2
  exact ⟨rfl, rfl⟩
set_option maxRecDepth 100000 in
set_option maxHeartbeats 1000000 in
theorem joinSN02 (h l x y : Int) (hH : ∀ w, Calls Tryd.prog 64 #[.int .i64 h, .int .i64 2] w fun e w' => e = .returned (.int .i64 x) ∧ w = w') (hL : ∀ w, Calls Tryd.prog 64 #[.int .i64 l, .int .i64 2] w fun e w' => e = .returned (.int .i64 y) ∧ w = w') (hB : ∀ w, Calls Tryd.prog 90 #[.int .i64 h, .int .i64 15] w fun e w' => e = .returned (.int .i64 0) ∧ w = w') (w : World) :
    Calls Tryd.prog 79 #[.int .i64 2, .int .i64 h, .int .i64 l, .bool true] w fun e w' => e = .returned (.tuple #[.int .u64 0, .int .u64 (bits .or .u64 (IntKind.u64.wrap (IntKind.u64.wrap x * 65536)) (IntKind.u64.wrap y))]) ∧ w = w' := by
  have CH := Lib.hid hH; have CL := Lib.hid hL; have CB := Lib.hid hB
  clear hH hL hB
  go_enter Tryd.func79, Tryd.ntmps79
  go_wp2_with fail
  refine (CH.out _).mono ?_
  rintro e w1 ⟨rfl, rfl⟩
  go_wp2_with fail
  refine (CL.out _).mono ?_
  rintro e w1 ⟨rfl, rfl⟩
  go_wp2_with fail
  refine (CB.out _).mono ?_
  rintro e w1 ⟨rfl, rfl⟩
  go_wp2
  go_ret2
  exact ⟨rfl, rfl⟩
set_option maxRecDepth 100000 in
set_option maxHeartbeats 1000000 in
theorem joinSN12 (h l x y : Int) (hH : ∀ w, Calls Tryd.prog 64 #[.int .i64 h, .int .i64 2] w fun e w' => e = .returned (.int .i64 x) ∧ w = w') (hL : ∀ w, Calls Tryd.prog 64 #[.int .i64 l, .int .i64 2] w fun e w' => e = .returned (.int .i64 y) ∧ w = w') (hB : ∀ w, Calls Tryd.prog 90 #[.int .i64 h, .int .i64 15] w fun e w' => e = .returned (.int .i64 1) ∧ w = w') (w : World) :
    Calls Tryd.prog 79 #[.int .i64 2, .int .i64 h, .int .i64 l, .bool true] w fun e w' => e = .returned (.tuple #[.int .u64 18446744073709551615, .int .u64 (bits .or .u64 (bits .or .u64 (IntKind.u64.wrap (IntKind.u64.wrap x * 65536)) (IntKind.u64.wrap y)) 18446744069414584320)]) ∧ w = w' := by
  have CH := Lib.hid hH; have CL := Lib.hid hL; have CB := Lib.hid hB
  clear hH hL hB
  go_enter Tryd.func79, Tryd.ntmps79
  go_wp2_with fail
  refine (CH.out _).mono ?_
  rintro e w1 ⟨rfl, rfl⟩
  go_wp2_with fail
  refine (CL.out _).mono ?_
  rintro e w1 ⟨rfl, rfl⟩
  go_wp2_with fail
  refine (CB.out _).mono ?_
  rintro e w1 ⟨rfl, rfl⟩
  go_wp2
  go_ret2
  exact ⟨rfl, rfl⟩
set_option maxRecDepth 100000 in
set_option maxHeartbeats 1000000 in
theorem joinSP4 (h l x y : Int) (hH : ∀ w, Calls Tryd.prog 64 #[.int .i64 h, .int .i64 4] w fun e w' => e = .returned (.int .i64 x) ∧ w = w') (hL : ∀ w, Calls Tryd.prog 64 #[.int .i64 l, .int .i64 4] w fun e w' => e = .returned (.int .i64 y) ∧ w = w') (w : World) :
    Calls Tryd.prog 79 #[.int .i64 4, .int .i64 h, .int .i64 l, .bool false] w fun e w' => e = .returned (.tuple #[.int .u64 0, .int .u64 (bits .or .u64 (IntKind.u64.wrap (IntKind.u64.wrap x * 4294967296)) (IntKind.u64.wrap y))]) ∧ w = w' := by
  have CH := Lib.hid hH; have CL := Lib.hid hL
  clear hH hL
  go_enter Tryd.func79, Tryd.ntmps79
  go_wp2_with fail
  refine (CH.out _).mono ?_
  rintro e w1 ⟨rfl, rfl⟩
  go_wp2_with fail
  refine (CL.out _).mono ?_
  rintro e w1 ⟨rfl, rfl⟩
  go_wp2
  go_ret2
  exact ⟨rfl, rfl⟩
set_option maxRecDepth 100000 in
set_option maxHeartbeats 1000000 in
theorem joinSN04 (h l x y : Int) (hH : ∀ w, Calls Tryd.prog 64 #[.int .i64 h, .int .i64 4] w fun e w' => e = .returned (.int .i64 x) ∧ w = w') (hL : ∀ w, Calls Tryd.prog 64 #[.int .i64 l, .int .i64 4] w fun e w' => e = .returned (.int .i64 y) ∧ w = w') (hB : ∀ w, Calls Tryd.prog 90 #[.int .i64 h, .int .i64 31] w fun e w' => e = .returned (.int .i64 0) ∧ w = w') (w : World) :
    Calls Tryd.prog 79 #[.int .i64 4, .int .i64 h, .int .i64 l, .bool true] w fun e w' => e = .returned (.tuple #[.int .u64 0, .int .u64 (bits .or .u64 (IntKind.u64.wrap (IntKind.u64.wrap x * 4294967296)) (IntKind.u64.wrap y))]) ∧ w = w' := by
  have CH := Lib.hid hH; have CL := Lib.hid hL; have CB := Lib.hid hB
  clear hH hL hB
  go_enter Tryd.func79, Tryd.ntmps79
  go_wp2_with fail
  refine (CH.out _).mono ?_
  rintro e w1 ⟨rfl, rfl⟩
  go_wp2_with fail
  refine (CL.out _).mono ?_
  rintro e w1 ⟨rfl, rfl⟩
  go_wp2_with fail
  refine (CB.out _).mono ?_
  rintro e w1 ⟨rfl, rfl⟩
  go_wp2
  go_ret2
  exact ⟨rfl, rfl⟩
set_option maxRecDepth 100000 in
set_option maxHeartbeats 1000000 in
theorem joinSN14 (h l x y : Int) (hH : ∀ w, Calls Tryd.prog 64 #[.int .i64 h, .int .i64 4] w fun e w' => e = .returned (.int .i64 x) ∧ w = w') (hL : ∀ w, Calls Tryd.prog 64 #[.int .i64 l, .int .i64 4] w fun e w' => e = .returned (.int .i64 y) ∧ w = w') (hB : ∀ w, Calls Tryd.prog 90 #[.int .i64 h, .int .i64 31] w fun e w' => e = .returned (.int .i64 1) ∧ w = w') (w : World) :
    Calls Tryd.prog 79 #[.int .i64 4, .int .i64 h, .int .i64 l, .bool true] w fun e w' => e = .returned (.tuple #[.int .u64 18446744073709551615, .int .u64 (bits .or .u64 (IntKind.u64.wrap (IntKind.u64.wrap x * 4294967296)) (IntKind.u64.wrap y))]) ∧ w = w' := by
  have CH := Lib.hid hH; have CL := Lib.hid hL; have CB := Lib.hid hB
  clear hH hL hB
  go_enter Tryd.func79, Tryd.ntmps79
  go_wp2_with fail
  refine (CH.out _).mono ?_
  rintro e w1 ⟨rfl, rfl⟩
  go_wp2_with fail
  refine (CL.out _).mono ?_
  rintro e w1 ⟨rfl, rfl⟩
  go_wp2_with fail
  refine (CB.out _).mono ?_
  rintro e w1 ⟨rfl, rfl⟩
  go_wp2
  go_ret2
  exact ⟨rfl, rfl⟩
end Go.Proofs.YtbcbepdfijcbmaaDoor
