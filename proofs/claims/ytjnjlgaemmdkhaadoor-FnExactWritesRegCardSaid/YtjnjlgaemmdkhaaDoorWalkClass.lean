/-
  What impl.ClassOf and spec.ClassOf do: the class of an operation, changing nothing that was there; no condition but those in each head.
-/
import Derived.Test.YtjnjlgaemmdkhaaDoorProg
import Derived.WalkKit
import Derived.WalkSpells
import Derived.WalkLawsBesides
import Derived.Lib.Hide
import Derived.Laws.Rows
namespace Go.Proofs.YtjnjlgaemmdkhaaDoor.Cl
open Go.RowKit
set_option maxHeartbeats 400000 in
theorem inYes (v lo hi : Int) (w : World) (h1 : lo ≤ v) (h2 : v ≤ hi) : Calls Tryd.prog 24 #[.int .i64 v, .int .i64 lo, .int .i64 hi] w fun e w' => e = .returned (.bool true) ∧ w' = w := by
  go_enter Tryd.func24, Tryd.ntmps24
  go_wp2
  go_ret
  exact ⟨rfl, rfl⟩
set_option maxHeartbeats 400000 in
theorem inNo (v lo hi : Int) (w : World) (h : v < lo ∨ hi < v) : Calls Tryd.prog 24 #[.int .i64 v, .int .i64 lo, .int .i64 hi] w fun e w' => e = .returned (.bool false) ∧ w' = w := by
  by_cases h1 : v < lo
  · clear h
    go_enter Tryd.func24, Tryd.ntmps24
    go_wp2
    go_ret
    exact ⟨rfl, rfl⟩
  · have h2 : decide (v ≤ hi) = false := decide_eq_false (by omega)
    have h3 : lo ≤ v := by omega
    clear h h1
    go_enter Tryd.func24, Tryd.ntmps24
    go_wp2
    go_ret
    exact ⟨rfl, rfl⟩
set_option maxHeartbeats 400000 in
theorem isOpYes (c : Int) (w : World) (h1 : 1 ≤ c) (h2 : c ≤ 44) : Calls Tryd.prog 57 #[.int .i64 c] w fun e w' => e = .returned (.bool true) ∧ w = w' := by
  go_enter Tryd.func57, Tryd.ntmps57
  go_wp2
  go_ret
  exact ⟨rfl, rfl⟩
set_option maxHeartbeats 400000 in
theorem isOpNo (c : Int) (w : World) (h : c < 1 ∨ 44 < c) : Calls Tryd.prog 57 #[.int .i64 c] w fun e w' => e = .returned (.bool false) ∧ w = w' := by
  by_cases h1 : c < 1
  · clear h
    go_enter Tryd.func57, Tryd.ntmps57
    go_wp2
    go_ret
    exact ⟨rfl, rfl⟩
  · have h2 : decide (c ≤ 44) = false := decide_eq_false (by omega)
    have h3 : 1 ≤ c := by omega
    clear h h1
    go_enter Tryd.func57, Tryd.ntmps57
    go_wp2
    go_ret
    exact ⟨rfl, rfl⟩
set_option maxHeartbeats 400000 in
theorem l03OpYes (c : Int) (w : World) (h1 : 1 ≤ c) (h2 : c ≤ 44) : Calls Tryd.prog 38 #[.int .i64 c] w fun e w' => e = .returned (.bool true) ∧ w = w' := by
  have C := Lib.hid (fun w => inYes c 1 44 w h1 h2)
  go_enter Tryd.func38, Tryd.ntmps38
  go_wp2_with (go_at_call 24; refine (C.out _).mono ?_; rintro e w' ⟨rfl, rfl⟩)
  go_ret
  exact ⟨rfl, rfl⟩
set_option maxHeartbeats 400000 in
theorem l03OpNo (c : Int) (w : World) (h : c < 1 ∨ 44 < c) : Calls Tryd.prog 38 #[.int .i64 c] w fun e w' => e = .returned (.bool false) ∧ w = w' := by
  have C := Lib.hid (fun w => inNo c 1 44 w h)
  clear h
  go_enter Tryd.func38, Tryd.ntmps38
  go_wp2_with (go_at_call 24; refine (C.out _).mono ?_; rintro e w' ⟨rfl, rfl⟩)
  go_ret
  exact ⟨rfl, rfl⟩
/-- the class of an operation -/
def clsOf (c : Int) : Int := if c = 31 ∨ c = 32 ∨ c = 33 then 2 else if c = 34 ∨ c = 41 ∨ c = 42 ∨ c = 43 ∨ c = 44 then 3 else 1
def ClsOut (c : Int) (e : Ending) : Prop := e = .returned (.tuple #[.int .i64 (clsOf c), .int .i64 0])
def ClsOne (c : Int) (e : Ending) : Prop := e = .returned (.int .i64 (clsOf c))
theorem cls2 {c : Int} (h : c = 31 ∨ c = 32 ∨ c = 33) : clsOf c = 2 := by unfold clsOf; rw [if_pos h]
theorem cls3 {c : Int} (h : c = 34 ∨ c = 41 ∨ c = 42 ∨ c = 43 ∨ c = 44) : clsOf c = 3 := by unfold clsOf; rw [if_neg (by omega), if_pos h]
theorem cls1 {c : Int} (h1 : ¬ (c = 31 ∨ c = 32 ∨ c = 33)) (h2 : ¬ (c = 34 ∨ c = 41 ∨ c = 42 ∨ c = 43 ∨ c = 44)) : clsOf c = 1 := by unfold clsOf; rw [if_neg h1, if_neg h2]
set_option maxHeartbeats 1000000 in
theorem classI (c : Int) (w : World) (h1 : 1 ≤ c) (h2 : c ≤ 44) : Calls Tryd.prog 36 #[.int .i64 c] w fun e w' => ClsOut c e ∧ w = w' := by
  have C := Lib.hid (fun w => isOpYes c w h1 h2)
  by_cases g2 : c = 31 ∨ c = 32 ∨ c = 33
  · rcases g2 with rfl | rfl | rfl
    all_goals
      go_enter Tryd.func36, Tryd.ntmps36
      go_wp2_with (go_at_call 57; refine (C.out _).mono ?_; rintro e w' ⟨rfl, rfl⟩)
      go_ret2
      exact ⟨rfl, rfl⟩
  by_cases g3 : c = 34 ∨ c = 41 ∨ c = 42 ∨ c = 43 ∨ c = 44
  · rcases g3 with rfl | rfl | rfl | rfl | rfl
    all_goals
      go_enter Tryd.func36, Tryd.ntmps36
      go_wp2_with (go_at_call 57; refine (C.out _).mono ?_; rintro e w' ⟨rfl, rfl⟩)
      go_ret2
      exact ⟨rfl, rfl⟩
  have HV := Lib.hid (cls1 g2 g3)
  have n31 : (c == 31) = false := beq_eq_false_iff_ne.mpr (by omega)
  have n32 : (c == 32) = false := beq_eq_false_iff_ne.mpr (by omega)
  have n33 : (c == 33) = false := beq_eq_false_iff_ne.mpr (by omega)
  have n34 : (c == 34) = false := beq_eq_false_iff_ne.mpr (by omega)
  have n41 : (c == 41) = false := beq_eq_false_iff_ne.mpr (by omega)
  have n42 : (c == 42) = false := beq_eq_false_iff_ne.mpr (by omega)
  have n43 : (c == 43) = false := beq_eq_false_iff_ne.mpr (by omega)
  have n44 : (c == 44) = false := beq_eq_false_iff_ne.mpr (by omega)
  clear g2 g3
  go_enter Tryd.func36, Tryd.ntmps36
  go_wp2_with (go_at_call 57; refine (C.out _).mono ?_; rintro e w' ⟨rfl, rfl⟩)
  go_ret2
  exact ⟨by unfold ClsOut; rw [HV.out]; rfl, rfl⟩
set_option maxHeartbeats 1000000 in
theorem classNoI (c : Int) (w : World) (h : c < 1 ∨ 44 < c) : Calls Tryd.prog 36 #[.int .i64 c] w fun e w' => e = .returned (.tuple #[.int .i64 0, .int .i64 4]) ∧ w = w' := by
  have C := Lib.hid (fun w => isOpNo c w h)
  clear h
  go_enter Tryd.func36, Tryd.ntmps36
  go_wp2_with (go_at_call 57; refine (C.out _).mono ?_; rintro e w' ⟨rfl, rfl⟩)
  go_ret2
  exact ⟨rfl, rfl⟩
set_option maxHeartbeats 1000000 in
theorem l03ClassC (c : Int) (w : World) : Calls Tryd.prog 78 #[.int .i64 c] w fun e w' => e = .returned (.int .i64 (clsOf c)) ∧ w = w' := by
  by_cases g2 : c = 31 ∨ c = 32 ∨ c = 33
  · rcases g2 with rfl | rfl | rfl
    all_goals
      go_enter Tryd.func78, Tryd.ntmps78
      go_wp2
      go_ret
      exact ⟨rfl, rfl⟩
  by_cases g3 : c = 34 ∨ c = 41 ∨ c = 42 ∨ c = 43 ∨ c = 44
  · rcases g3 with rfl | rfl | rfl | rfl | rfl
    all_goals
      go_enter Tryd.func78, Tryd.ntmps78
      go_wp2
      go_ret
      exact ⟨rfl, rfl⟩
  have HV := Lib.hid (cls1 g2 g3)
  have n31 : (c == 31) = false := beq_eq_false_iff_ne.mpr (by omega)
  have n32 : (c == 32) = false := beq_eq_false_iff_ne.mpr (by omega)
  have n33 : (c == 33) = false := beq_eq_false_iff_ne.mpr (by omega)
  have n34 : (c == 34) = false := beq_eq_false_iff_ne.mpr (by omega)
  have n41 : (c == 41) = false := beq_eq_false_iff_ne.mpr (by omega)
  have n42 : (c == 42) = false := beq_eq_false_iff_ne.mpr (by omega)
  have n43 : (c == 43) = false := beq_eq_false_iff_ne.mpr (by omega)
  have n44 : (c == 44) = false := beq_eq_false_iff_ne.mpr (by omega)
  clear g2 g3
  go_enter Tryd.func78, Tryd.ntmps78
  go_wp2
  go_ret
  exact ⟨by rw [HV.out]; rfl, rfl⟩
end Go.Proofs.YtjnjlgaemmdkhaaDoor.Cl
