/-
  What impl.Holds and spec.Holds do: whether a condition holds, or ErrRange; no condition but those in each head.
-/
import Derived.Test.YtifpcfhfglkbcaaWalkHoldsI
import Derived.Test.YtifpcfhfglkbcaaWalkHoldsS
import Derived.Test.YtifpcfhfglkbcaaWalkHoldsS2
import Derived.Laws.Tables
import Derived.Laws.CopyOwn
import Derived.Laws.NewBlocks
namespace Go.Proofs.Ytifpcfhfglkbcaa
open Go.RowKit
set_option linter.unusedVariables false
def hB (cond : Int) (c p z s o : Bool) : Bool := hvB (cond.toNat / 2) c p z s o == (cond.toNat % 2 == 0)
theorem nb_eq (r : Bool) : (!r) = (r == false) := by cases r <;> rfl
theorem eb_eq (r : Bool) : r = (r == true) := by cases r <;> rfl
theorem lessB (c p z s o : Bool) : ((bits .and .i64 (flV c p z s o) 128 != 0) != (bits .and .i64 (flV c p z s o) 2048 != 0)) = (s != o) := by rw [bit_s, bit_o]
theorem holdsI (cond : Int) (c p z s o : Bool) (w : World) (h0 : 0 ≤ cond) (h1 : cond ≤ 15) : Calls Try.prog 6 #[.int .i64 cond, .int .i64 (flV c p z s o)] w fun e w' => e = .returned (.tuple #[.bool (hB cond c p z s o), .int .i64 0]) ∧ Below w.heap.size w w' := by
  have CF := Lib.hid (flagsYesI c p z s o)
  have : cond = 0 ∨ cond = 1 ∨ cond = 2 ∨ cond = 3 ∨ cond = 4 ∨ cond = 5 ∨ cond = 6 ∨ cond = 7 ∨ cond = 8 ∨ cond = 9 ∨ cond = 10 ∨ cond = 11 ∨ cond = 12 ∨ cond = 13 ∨ cond = 14 ∨ cond = 15 := by omega
  rcases this with rfl | rfl | rfl | rfl | rfl | rfl | rfl | rfl | rfl | rfl | rfl | rfl | rfl | rfl | rfl | rfl
  · have q : hB 0 c p z s o = (o) := by clear CF; revert c p z s o; decide
    rw [q]; exact hI_0 (flV c p z s o) _ (bit_o c p z s o) w CF
  · have q : hB 1 c p z s o = (!(o)) := by clear CF; revert c p z s o; decide
    rw [q]; exact hI_1 (flV c p z s o) _ (bit_o c p z s o) w CF
  · have q : hB 2 c p z s o = (c) := by clear CF; revert c p z s o; decide
    rw [q]; exact hI_2 (flV c p z s o) _ (bit_c c p z s o) w CF
  · have q : hB 3 c p z s o = (!(c)) := by clear CF; revert c p z s o; decide
    rw [q]; exact hI_3 (flV c p z s o) _ (bit_c c p z s o) w CF
  · have q : hB 4 c p z s o = (z) := by clear CF; revert c p z s o; decide
    rw [q]; exact hI_4 (flV c p z s o) _ (bit_z c p z s o) w CF
  · have q : hB 5 c p z s o = (!(z)) := by clear CF; revert c p z s o; decide
    rw [q]; exact hI_5 (flV c p z s o) _ (bit_z c p z s o) w CF
  · have q : hB 6 c p z s o = (c || z) := by clear CF; revert c p z s o; decide
    rw [q]; exact hI_6 (flV c p z s o) _ (bit_cz c p z s o) w CF
  · have q : hB 7 c p z s o = (!(c || z)) := by clear CF; revert c p z s o; decide
    rw [q]; exact hI_7 (flV c p z s o) _ (bit_cz c p z s o) w CF
  · have q : hB 8 c p z s o = (s) := by clear CF; revert c p z s o; decide
    rw [q]; exact hI_8 (flV c p z s o) _ (bit_s c p z s o) w CF
  · have q : hB 9 c p z s o = (!(s)) := by clear CF; revert c p z s o; decide
    rw [q]; exact hI_9 (flV c p z s o) _ (bit_s c p z s o) w CF
  · have q : hB 10 c p z s o = (p) := by clear CF; revert c p z s o; decide
    rw [q]; exact hI_10 (flV c p z s o) _ (bit_p c p z s o) w CF
  · have q : hB 11 c p z s o = (!(p)) := by clear CF; revert c p z s o; decide
    rw [q]; exact hI_11 (flV c p z s o) _ (bit_p c p z s o) w CF
  · have q : hB 12 c p z s o = (s != o) := by clear CF; revert c p z s o; decide
    rw [q]; exact hI_12 (flV c p z s o) _ (lessB c p z s o) w CF
  · have q : hB 13 c p z s o = (!(s != o)) := by clear CF; revert c p z s o; decide
    rw [q]; exact hI_13 (flV c p z s o) _ (lessB c p z s o) w CF
  · have q : hB 14 c p z s o = (z || s != o) := by clear CF; revert c p z s o; decide
    rw [q]; exact hI_14 (flV c p z s o) (s != o) (z || s != o) (by rw [bit_z]; exact Bool.or_comm _ _) (lessB c p z s o) w CF
  · have q : hB 15 c p z s o = (!(z || s != o)) := by clear CF; revert c p z s o; decide
    rw [q]; exact hI_15 (flV c p z s o) (s != o) (z || s != o) (by rw [bit_z]; exact Bool.or_comm _ _) (lessB c p z s o) w CF
theorem holdsS0 (cond : Int) (c p z s o : Bool) (w : World) (h0 : 0 ≤ cond) (h1 : cond ≤ 15) : Calls Try.prog 10 #[.int .i64 cond, .int .i64 (flV c p z s o)] w fun e w' => e = .returned (.bool (hB cond c p z s o)) ∧ Below w.heap.size w w' := by
  have e1 := bit_c c p z s o; have e2 := bit_z c p z s o; have e3 := bit_s c p z s o; have e4 := bit_o c p z s o; have e5 := bit_p c p z s o
  generalize flV c p z s o = f at *
  have : cond = 0 ∨ cond = 1 ∨ cond = 2 ∨ cond = 3 ∨ cond = 4 ∨ cond = 5 ∨ cond = 6 ∨ cond = 7 ∨ cond = 8 ∨ cond = 9 ∨ cond = 10 ∨ cond = 11 ∨ cond = 12 ∨ cond = 13 ∨ cond = 14 ∨ cond = 15 := by omega
  rcases this with rfl | rfl | rfl | rfl | rfl | rfl | rfl | rfl | rfl | rfl | rfl | rfl | rfl | rfl | rfl | rfl
  · cases c <;> cases z
    · exact hS_0ff f p s o w e1 e2 e3 e4 e5
    · exact hS_0ft f p s o w e1 e2 e3 e4 e5
    · exact hS_0tf f p s o w e1 e2 e3 e4 e5
    · exact hS_0tt f p s o w e1 e2 e3 e4 e5
  · cases c <;> cases z
    · exact hS_1ff f p s o w e1 e2 e3 e4 e5
    · exact hS_1ft f p s o w e1 e2 e3 e4 e5
    · exact hS_1tf f p s o w e1 e2 e3 e4 e5
    · exact hS_1tt f p s o w e1 e2 e3 e4 e5
  · cases c <;> cases z
    · exact hS_2ff f p s o w e1 e2 e3 e4 e5
    · exact hS_2ft f p s o w e1 e2 e3 e4 e5
    · exact hS_2tf f p s o w e1 e2 e3 e4 e5
    · exact hS_2tt f p s o w e1 e2 e3 e4 e5
  · cases c <;> cases z
    · exact hS_3ff f p s o w e1 e2 e3 e4 e5
    · exact hS_3ft f p s o w e1 e2 e3 e4 e5
    · exact hS_3tf f p s o w e1 e2 e3 e4 e5
    · exact hS_3tt f p s o w e1 e2 e3 e4 e5
  · cases c <;> cases z
    · exact hS_4ff f p s o w e1 e2 e3 e4 e5
    · exact hS_4ft f p s o w e1 e2 e3 e4 e5
    · exact hS_4tf f p s o w e1 e2 e3 e4 e5
    · exact hS_4tt f p s o w e1 e2 e3 e4 e5
  · cases c <;> cases z
    · exact hS_5ff f p s o w e1 e2 e3 e4 e5
    · exact hS_5ft f p s o w e1 e2 e3 e4 e5
    · exact hS_5tf f p s o w e1 e2 e3 e4 e5
    · exact hS_5tt f p s o w e1 e2 e3 e4 e5
  · cases c <;> cases z
    · exact hS_6ff f p s o w e1 e2 e3 e4 e5
    · exact hS_6ft f p s o w e1 e2 e3 e4 e5
    · exact hS_6tf f p s o w e1 e2 e3 e4 e5
    · exact hS_6tt f p s o w e1 e2 e3 e4 e5
  · cases c <;> cases z
    · exact hS_7ff f p s o w e1 e2 e3 e4 e5
    · exact hS_7ft f p s o w e1 e2 e3 e4 e5
    · exact hS_7tf f p s o w e1 e2 e3 e4 e5
    · exact hS_7tt f p s o w e1 e2 e3 e4 e5
  · cases c <;> cases z
    · exact hS_8ff f p s o w e1 e2 e3 e4 e5
    · exact hS_8ft f p s o w e1 e2 e3 e4 e5
    · exact hS_8tf f p s o w e1 e2 e3 e4 e5
    · exact hS_8tt f p s o w e1 e2 e3 e4 e5
  · cases c <;> cases z
    · exact hS_9ff f p s o w e1 e2 e3 e4 e5
    · exact hS_9ft f p s o w e1 e2 e3 e4 e5
    · exact hS_9tf f p s o w e1 e2 e3 e4 e5
    · exact hS_9tt f p s o w e1 e2 e3 e4 e5
  · cases c <;> cases z
    · exact hS_10ff f p s o w e1 e2 e3 e4 e5
    · exact hS_10ft f p s o w e1 e2 e3 e4 e5
    · exact hS_10tf f p s o w e1 e2 e3 e4 e5
    · exact hS_10tt f p s o w e1 e2 e3 e4 e5
  · cases c <;> cases z
    · exact hS_11ff f p s o w e1 e2 e3 e4 e5
    · exact hS_11ft f p s o w e1 e2 e3 e4 e5
    · exact hS_11tf f p s o w e1 e2 e3 e4 e5
    · exact hS_11tt f p s o w e1 e2 e3 e4 e5
  · cases c <;> cases z
    · exact hS_12ff f p s o w e1 e2 e3 e4 e5
    · exact hS_12ft f p s o w e1 e2 e3 e4 e5
    · exact hS_12tf f p s o w e1 e2 e3 e4 e5
    · exact hS_12tt f p s o w e1 e2 e3 e4 e5
  · cases c <;> cases z
    · exact hS_13ff f p s o w e1 e2 e3 e4 e5
    · exact hS_13ft f p s o w e1 e2 e3 e4 e5
    · exact hS_13tf f p s o w e1 e2 e3 e4 e5
    · exact hS_13tt f p s o w e1 e2 e3 e4 e5
  · cases c <;> cases z
    · exact hS_14ff f p s o w e1 e2 e3 e4 e5
    · exact hS_14ft f p s o w e1 e2 e3 e4 e5
    · exact hS_14tf f p s o w e1 e2 e3 e4 e5
    · exact hS_14tt f p s o w e1 e2 e3 e4 e5
  · cases c <;> cases z
    · exact hS_15ff f p s o w e1 e2 e3 e4 e5
    · exact hS_15ft f p s o w e1 e2 e3 e4 e5
    · exact hS_15tf f p s o w e1 e2 e3 e4 e5
    · exact hS_15tt f p s o w e1 e2 e3 e4 e5
set_option maxHeartbeats 1000000 in
theorem holdsS (cond : Int) (c p z s o : Bool) (w : World) (h0 : 0 ≤ cond) (h1 : cond ≤ 15) : Calls Try.prog 5 #[.int .i64 cond, .int .i64 (flV c p z s o)] w fun e w' => e = .returned (.tuple #[.bool (hB cond c p z s o), .int .i64 0]) ∧ Below w.heap.size w w' := by
  have C1 := Lib.hid (fun w => inYes cond 0 15 w h0 h1)
  have C2 := Lib.hid (flagsYesS c p z s o)
  have C3 := Lib.hid (fun w => holdsS0 cond c p z s o w h0 h1)
  generalize flV c p z s o = f at *
  generalize hB cond c p z s o = v at *
  clear h0 h1
  go_enter Try.func5, Try.ntmps5
  go_wp2_with fail
  refine (C1.out _).mono ?_
  rintro e w1 ⟨rfl, e1⟩
  obtain rfl := e1.symm
  go_wp2_with fail
  refine (C2.out _).mono ?_
  rintro e w1 ⟨rfl, e1⟩
  obtain rfl := e1.symm
  go_wp2_with fail
  refine (C3.out _).mono ?_
  rintro e w1 ⟨rfl, hb⟩
  go_wp2
  go_ret2
  exact ⟨rfl, hb⟩
set_option maxHeartbeats 1000000 in
theorem holdsSNo (cond f : Int) (w : World) (hf : (Lit.int .i64 f).wf = true) (h : (cond < 0 ∨ 15 < cond) ∨ ¬ FlOK f) : Calls Try.prog 5 #[.int .i64 cond, .int .i64 f] w fun e w' => e = .returned (.tuple #[.bool false, .int .i64 4]) ∧ w' = w := by
  by_cases h0 : cond < 0 ∨ 15 < cond
  · have C1 := Lib.hid (fun w => inNo cond 0 15 w h0)
    clear h0 h
    go_enter Try.func5, Try.ntmps5
    go_wp2_with fail
    refine (C1.out _).mono ?_
    rintro e w1 ⟨rfl, e1⟩
    obtain rfl := e1.symm
    go_wp2
    go_ret2
    exact ⟨rfl, rfl⟩
  · have C1 := Lib.hid (fun w => inYes cond 0 15 w (by omega) (by omega))
    have C2 := Lib.hid (fun w => flagsNoS f w hf (h.resolve_left h0))
    clear h0 h
    go_enter Try.func5, Try.ntmps5
    go_wp2_with fail
    refine (C1.out _).mono ?_
    rintro e w1 ⟨rfl, e1⟩
    obtain rfl := e1.symm
    go_wp2_with fail
    refine (C2.out _).mono ?_
    rintro e w1 ⟨rfl, e1⟩
    obtain rfl := e1.symm
    go_wp2
    go_ret2
    exact ⟨rfl, rfl⟩
set_option maxHeartbeats 1000000 in
theorem holdsINo (cond f : Int) (w : World) (hf : (Lit.int .i64 f).wf = true) (h : (cond < 0 ∨ 15 < cond) ∨ ¬ FlOK f) : Calls Try.prog 6 #[.int .i64 cond, .int .i64 f] w fun e w' => e = .returned (.tuple #[.bool false, .int .i64 4]) ∧ w' = w := by
  by_cases h0 : cond < 0
  · clear h
    go_enter Try.func6, Try.ntmps6
    go_wp2
    go_ret2
    exact ⟨rfl, rfl⟩
  · by_cases h2 : 15 < cond
    · have h3 : 0 ≤ cond := by omega
      clear h h0
      go_enter Try.func6, Try.ntmps6
      go_wp2
      go_ret2
      exact ⟨rfl, rfl⟩
    · have h3 : 0 ≤ cond := by omega
      have h4 : cond ≤ 15 := by omega
      have C2 := Lib.hid (fun w => flagsNoI f w hf (h.resolve_left (by omega)))
      clear h h0 h2
      go_enter Try.func6, Try.ntmps6
      go_wp2_with fail
      refine (C2.out _).mono ?_
      rintro e w1 ⟨rfl, e1⟩
      obtain rfl := e1.symm
      go_wp2
      go_ret2
      exact ⟨rfl, rfl⟩
end Go.Proofs.Ytifpcfhfglkbcaa
