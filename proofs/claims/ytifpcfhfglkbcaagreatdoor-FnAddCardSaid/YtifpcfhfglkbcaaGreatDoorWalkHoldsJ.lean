/-
  What impl.Holds and spec.Holds do: whether a condition holds, or ErrRange; no condition but those in each head.
-/
import Derived.Test.YtifpcfhfglkbcaaGreatDoorWalkHoldsI
import Derived.Test.YtifpcfhfglkbcaaGreatDoorWalkHoldsS
import Derived.Test.YtifpcfhfglkbcaaGreatDoorWalkHoldsS2
import Derived.Laws.Tables
import Derived.Laws.CopyOwn
import Derived.Laws.NewBlocks
namespace Go.Proofs.YtifpcfhfglkbcaaGreatDoor
open Go.RowKit
set_option linter.unusedVariables false
def hB (cond : Int) (c p z s o : Bool) : Bool := hvB (cond.toNat / 2) c p z s o == (cond.toNat % 2 == 0)
theorem nb_eq (r : Bool) : (!r) = (r == false) := by cases r <;> rfl
theorem eb_eq (r : Bool) : r = (r == true) := by cases r <;> rfl
theorem lessB (c p z s o : Bool) : ((bits .and .i64 (flV c p z s o) 128 != 0) != (bits .and .i64 (flV c p z s o) 2048 != 0)) = (s != o) := by rw [bit_s, bit_o]
theorem holdsI (cond : Int) (c p z s o : Bool) (w : World) (h0 : 0 ≤ cond) (h1 : cond ≤ 15) : Calls Tryz.prog 11 #[.int .i64 cond, .int .i64 (flV c p z s o)] w fun e w' => e = .returned (.tuple #[.bool (hB cond c p z s o), .int .i64 0]) ∧ Below w.heap.size w w' := by
  have CF := Lib.hid (flagsYesI c p z s o)
  have : cond = 0 ∨ cond = 1 ∨ cond = 2 ∨ cond = 3 ∨ cond = 4 ∨ cond = 5 ∨ cond = 6 ∨ cond = 7 ∨ cond = 8 ∨ cond = 9 ∨ cond = 10 ∨ cond = 11 ∨ cond = 12 ∨ cond = 13 ∨ cond = 14 ∨ cond = 15 := by omega
  rcases this with rfl | rfl | rfl | rfl | rfl | rfl | rfl | rfl | rfl | rfl | rfl | rfl | rfl | rfl | rfl | rfl
  · have q : hB 0 c p z s o = (o) := by clear CF; revert c p z s o; decide
    rw [q]; exact hI_0 (flV c p z s o) _ (bit_o c p z s o) w CF
  · have q : hB 1 c p z s o = (!(o)) := by clear CF; revert c p z s o; decide
    rw [q]; exact hI_1 (flV c p z s o) _ (bit_o c p z s o) w CF
  · have q : hB 2 c p z s o = (c) := by clear CF; revert c p z s o; decide
    rw [q]; exact hI_2 (flV c p z s o) _ (bit_c c p z s o) w CF
  · have q : hB 3 c p z s o = (!(c)) := by clear CF; revert c p z s o; decide
    rw [q]; exact hI_3 (flV c p z s o) _ (bit_c c p z s o) w CF
  · have q : hB 4 c p z s o = (z) := by clear CF; revert c p z s o; decide
    rw [q]; exact hI_4 (flV c p z s o) _ (bit_z c p z s o) w CF
  · have q : hB 5 c p z s o = (!(z)) := by clear CF; revert c p z s o; decide
    rw [q]; exact hI_5 (flV c p z s o) _ (bit_z c p z s o) w CF
  · have q : hB 6 c p z s o = (c || z) := by clear CF; revert c p z s o; decide
    rw [q]; exact hI_6 (flV c p z s o) _ (bit_cz c p z s o) w CF
  · have q : hB 7 c p z s o = (!(c || z)) := by clear CF; revert c p z s o; decide
    rw [q]; exact hI_7 (flV c p z s o) _ (bit_cz c p z s o) w CF
  · have q : hB 8 c p z s o = (s) := by clear CF; revert c p z s o; decide
    rw [q]; exact hI_8 (flV c p z s o) _ (bit_s c p z s o) w CF
  · have q : hB 9 c p z s o = (!(s)) := by clear CF; revert c p z s o; decide
    rw [q]; exact hI_9 (flV c p z s o) _ (bit_s c p z s o) w CF
  · have q : hB 10 c p z s o = (p) := by clear CF; revert c p z s o; decide
    rw [q]; exact hI_10 (flV c p z s o) _ (bit_p c p z s o) w CF
  · have q : hB 11 c p z s o = (!(p)) := by clear CF; revert c p z s o; decide
    rw [q]; exact hI_11 (flV c p z s o) _ (bit_p c p z s o) w CF
  · have q : hB 12 c p z s o = (s != o) := by clear CF; revert c p z s o; decide
    rw [q]; exact hI_12 (flV c p z s o) _ (lessB c p z s o) w CF
  · have q : hB 13 c p z s o = (!(s != o)) := by clear CF; revert c p z s o; decide
    rw [q]; exact hI_13 (flV c p z s o) _ (lessB c p z s o) w CF
  · have q : hB 14 c p z s o = (z || s != o) := by clear CF; revert c p z s o; decide
    rw [q]; exact hI_14 (flV c p z s o) (s != o) (z || s != o) (by rw [bit_z]; exact Bool.or_comm _ _) (lessB c p z s o) w CF
  · have q : hB 15 c p z s o = (!(z || s != o)) := by clear CF; revert c p z s o; decide
    rw [q]; exact hI_15 (flV c p z s o) (s != o) (z || s != o) (by rw [bit_z]; exact Bool.or_comm _ _) (lessB c p z s o) w CF
set_option maxHeartbeats 1000000 in
theorem holdsINo (cond f : Int) (w : World) (hf : (Lit.int .i64 f).wf = true) (h : (cond < 0 ∨ 15 < cond) ∨ ¬ FlOK f) : Calls Tryz.prog 11 #[.int .i64 cond, .int .i64 f] w fun e w' => e = .returned (.tuple #[.bool false, .int .i64 4]) ∧ w' = w := by
  by_cases h0 : cond < 0
  · clear h
    go_enter Tryz.func11, Tryz.ntmps11
    go_wp2
    go_ret2
    exact ⟨rfl, rfl⟩
  · by_cases h2 : 15 < cond
    · have h3 : 0 ≤ cond := by omega
      clear h h0
      go_enter Tryz.func11, Tryz.ntmps11
      go_wp2
      go_ret2
      exact ⟨rfl, rfl⟩
    · have h3 : 0 ≤ cond := by omega
      have h4 : cond ≤ 15 := by omega
      have C2 := Lib.hid (fun w => flagsNoI f w hf (h.resolve_left (by omega)))
      clear h h0 h2
      go_enter Tryz.func11, Tryz.ntmps11
      go_wp2_with fail
      refine (C2.out _).mono ?_
      rintro e w1 ⟨rfl, e1⟩
      obtain rfl := e1.symm
      go_wp2
      go_ret2
      exact ⟨rfl, rfl⟩
end Go.Proofs.YtifpcfhfglkbcaaGreatDoor
