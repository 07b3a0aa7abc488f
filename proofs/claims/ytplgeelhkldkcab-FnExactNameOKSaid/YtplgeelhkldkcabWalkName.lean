/-
  What impl.NameOK and spec.NameOK do: for every text both return whether it is a letter and letters and digits, of 1 to 20 bytes, and change nothing; no condition.
-/
import Derived.Test.YtplgeelhkldkcabRows
import Derived.WalkKit
import Derived.WalkSpells
import Derived.WalkLawsBesides
import Derived.Lib.Hide
namespace Go.Proofs.Ytplgeelhkldkcab
open Go.RowKit
def letB (c : Int) : Bool := decide (97 ≤ c ∧ c ≤ 122 ∨ 65 ≤ c ∧ c ≤ 90 ∨ c = 95)
def digB (c : Int) : Bool := decide (48 ≤ c ∧ c ≤ 57)
def wrdB (c : UInt8) : Bool := letB c.toNat || digB c.toNat
def nameB (l : List UInt8) : Bool := decide (1 ≤ l.length ∧ l.length ≤ 20) && letB (l.headD 0).toNat && l.all wrdB
theorem ret_bool {a b : Bool} (h : a = b) : Ending.returned (.bool a) = .returned (.bool b) := by rw [h]
theorem head_list (l : List UInt8) (h : 0 < l.length) : l.headD 0 = l[0] := by
  cases l with
  | nil => simp at h
  | cons a r => simp
theorem head_get (s : ByteArray) (h : 0 < s.size) : s.data.toList.headD 0 = s[0] := head_list _ (by simpa using h)
theorem take_snoc (s : ByteArray) (k : Nat) (h : k < s.size) : s.data.toList.take (k + 1) = s.data.toList.take k ++ [s[k]] := by
  rw [List.take_succ_eq_append_getElem (by simpa using h)]; rfl
theorem all_snoc {s : ByteArray} {k : Nat} (h : k < s.size) (h1 : (s.data.toList.take k).all wrdB = true) (h2 : wrdB s[k] = true) : (s.data.toList.take (k + 1)).all wrdB = true := by
  rw [take_snoc s k h, List.all_append, h1]; simp [h2]
theorem all_no {s : ByteArray} {k : Nat} (h : k < s.size) (h2 : wrdB s[k] = false) : s.data.toList.all wrdB = false := by
  rw [List.all_eq_false]
  exact ⟨s[k], by have : s[k] ∈ s.data := Array.getElem_mem h; simpa using this, by simp [h2]⟩
theorem wrd_let {c : UInt8} (h : letB c.toNat = true) : wrdB c = true := by simp [wrdB, h]
theorem wrd_dig {c : UInt8} (h : digB c.toNat = true) : wrdB c = true := by simp [wrdB, h]
theorem wrd_no {c : UInt8} (h : letB c.toNat = false) (h2 : digB c.toNat = false) : wrdB c = false := by simp [wrdB, h, h2]
theorem len_size (s : ByteArray) : s.data.toList.length = s.size := by simp
theorem name_small {s : ByteArray} (h : ¬ (1 ≤ s.size ∧ s.size ≤ 20)) : nameB s.data.toList = false := by
  unfold nameB; rw [len_size, decide_eq_false h]; rfl
theorem name_head {s : ByteArray} (h : 0 < s.size) (h1 : letB s[0].toNat = false) : nameB s.data.toList = false := by
  unfold nameB; rw [head_get s h, h1]; simp
theorem name_no {s : ByteArray} (h2 : s.data.toList.all wrdB = false) : nameB s.data.toList = false := by
  unfold nameB; rw [h2]; simp
theorem name_yes {s : ByteArray} (h : 1 ≤ s.size ∧ s.size ≤ 20) (h0 : 0 < s.size) (h1 : letB s[0].toNat = true) (h2 : (s.data.toList.take s.size).all wrdB = true) : nameB s.data.toList = true := by
  rw [List.take_of_length_le (by rw [len_size]; omega)] at h2
  unfold nameB; rw [head_get s h0, h1, h2, len_size, decide_eq_true h]; rfl
theorem letB_eq (c : Int) : letB c = (decide (97 ≤ c) && decide (c ≤ 122) || decide (65 ≤ c) && decide (c ≤ 90) || c == 95) := by
  unfold letB; rw [Bool.eq_iff_iff]; simp; omega
set_option maxHeartbeats 400000 in
theorem implLetter (c : Int) (w : World) :
    Calls Try.prog 7 #[.int .u8 c] w fun e w' => e = .returned (.bool (letB c)) ∧ w = w' := by
  rw [letB_eq]
  go_enter Try.func7, Try.ntmps7
  go_wp2
  all_goals go_ret
  all_goals (refine ⟨ret_bool ?_, rfl⟩; (first | rfl | (rw [Bool.eq_iff_iff]; (first | done | (simp; done) | (simp; omega)))))
set_option maxHeartbeats 400000 in
theorem implDigit (c : Int) (w : World) :
    Calls Try.prog 8 #[.int .u8 c] w fun e w' => e = .returned (.bool (digB c)) ∧ w = w' := by
  go_enter Try.func8, Try.ntmps8
  go_wp2
  all_goals go_ret
  all_goals (refine ⟨ret_bool ?_, rfl⟩; unfold digB; (first | rfl | (rw [Bool.eq_iff_iff]; (first | done | (simp; done) | (simp; omega)))))
set_option maxHeartbeats 400000 in
theorem specLetter (c : Int) (w : World) :
    Calls Try.prog 9 #[.int .u8 c] w fun e w' => e = .returned (.bool (letB c)) ∧ w = w' := by
  rw [letB_eq]
  go_enter Try.func9, Try.ntmps9
  go_wp2
  all_goals go_ret
  all_goals (refine ⟨ret_bool ?_, rfl⟩; (first | rfl | (rw [Bool.eq_iff_iff]; (first | done | (simp; done) | (simp; omega)))))
set_option maxHeartbeats 400000 in
theorem specDigit (c : Int) (w : World) :
    Calls Try.prog 10 #[.int .u8 c] w fun e w' => e = .returned (.bool (digB c)) ∧ w = w' := by
  go_enter Try.func10, Try.ntmps10
  go_wp2
  all_goals go_ret
  all_goals (refine ⟨ret_bool ?_, rfl⟩; unfold digB; (first | rfl | (rw [Bool.eq_iff_iff]; (first | done | (simp; done) | (simp; omega)))))
set_option maxHeartbeats 400000 in
theorem implName (s : ByteArray) (w : World) (hs : s.size ≤ maxLen) :
    Calls Try.prog 5 #[.string s] w fun e w' => e = .returned (.bool (nameB s.data.toList)) ∧ w = w' := by
  unfold maxLen at hs
  by_cases h1 : 1 ≤ s.size
  rotate_left
  · have hn := Lib.hid (name_small (s := s) (by omega))
    have hb0 : ((s.size : Int) == 0) = true := beq_iff_eq.mpr (by omega)
    go_enter Try.func5, Try.ntmps5
    go_wp2
    go_ret
    exact ⟨ret_bool hn.out.symm, rfl⟩
  have hb0 : ((s.size : Int) == 0) = false := beq_eq_false_iff_ne.mpr (by omega)
  by_cases h2 : s.size ≤ 20
  rotate_left
  · have hn := Lib.hid (name_small (s := s) (by omega))
    have hb1 : decide ((20 : Int) < (s.size : Int)) = true := by simp; omega
    go_enter Try.func5, Try.ntmps5
    go_wp2
    go_ret
    exact ⟨ret_bool hn.out.symm, rfl⟩
  have hb1 : decide ((20 : Int) < (s.size : Int)) = false := by simp; omega
  have h0 : 0 < s.size := by omega
  by_cases hl : letB s[0].toNat = true
  rotate_left
  · have hl' : letB s[0].toNat = false := by simpa using hl
    clear hl
    have hn := Lib.hid (name_head h0 hl')
    go_enter Try.func5, Try.ntmps5
    go_wp2_with (go_at_call 7; refine (implLetter _ _).mono ?_; rintro e w' ⟨rfl, rfl⟩)
    go_ret
    exact ⟨ret_bool hn.out.symm, rfl⟩
  go_enter Try.func5, Try.ntmps5
  go_wp2_with (go_at_call 7; refine (implLetter _ _).mono ?_; rintro e w' ⟨rfl, rfl⟩)
  have HL := Lib.hid hl
  clear hl
  go_loop [3, 20] (fun _ i => ∃ k : Nat, k ≤ s.size ∧ i = .int .i64 k ∧ Hid ((s.data.toList.take k).all wrdB = true)) (fun _ i => s.size - (intOf i).toNat)
  case atStart => exact ⟨0, Nat.zero_le _, rfl, Lib.hid rfl⟩
  case round =>
    obtain ⟨k, hk, rfl, HA⟩ := hrel
    by_cases hlt : k < s.size
    · by_cases a1 : letB s[k].toNat = true
      · have HA' := Lib.hid (all_snoc hlt HA.out (wrd_let a1))
        go_wp2_with (go_at_call 7; refine (implLetter _ _).mono ?_; rintro e w' ⟨rfl, rfl⟩)
        go_round
        case rel => exact ⟨k + 1, by omega, by go_num, HA'⟩
        case measure => simp [intOf]; omega
      · have a1' : letB s[k].toNat = false := by simpa using a1
        clear a1
        by_cases a2 : digB s[k].toNat = true
        · have HA' := Lib.hid (all_snoc hlt HA.out (wrd_dig a2))
          go_wp2_with (first | (go_at_call 7; refine (implLetter _ _).mono ?_; rintro e w' ⟨rfl, rfl⟩) | (go_at_call 8; refine (implDigit _ _).mono ?_; rintro e w' ⟨rfl, rfl⟩))
          go_round
          case rel => exact ⟨k + 1, by omega, by go_num, HA'⟩
          case measure => simp [intOf]; omega
        · have a2' : digB s[k].toNat = false := by simpa using a2
          clear a2
          have hn := Lib.hid (name_no (all_no hlt (wrd_no a1' a2')))
          go_wp2_with (first | (go_at_call 7; refine (implLetter _ _).mono ?_; rintro e w' ⟨rfl, rfl⟩) | (go_at_call 8; refine (implDigit _ _).mono ?_; rintro e w' ⟨rfl, rfl⟩))
          go_ret
          exact ⟨ret_bool hn.out.symm, rfl⟩
    · obtain rfl : k = s.size := by omega
      have hn := Lib.hid (name_yes ⟨h1, h2⟩ h0 HL.out HA.out)
      go_wp2
      go_ret
      exact ⟨ret_bool hn.out.symm, rfl⟩
set_option maxHeartbeats 400000 in
theorem specWord (s : ByteArray) (w : World) (hs : s.size ≤ maxLen) :
    Calls Try.prog 6 #[.string s] w fun e w' => e = .returned (.bool (nameB s.data.toList)) ∧ w = w' := by
  unfold maxLen at hs
  by_cases h1 : 1 ≤ s.size
  rotate_left
  · have hn := Lib.hid (name_small (s := s) (by omega))
    have hb0 : decide ((s.size : Int) < 1) = true := decide_eq_true (by omega)
    go_enter Try.func6, Try.ntmps6
    go_wp2
    go_ret
    exact ⟨ret_bool hn.out.symm, rfl⟩
  have hb0 : decide ((s.size : Int) < 1) = false := decide_eq_false (by omega)
  by_cases h2 : s.size ≤ 20
  rotate_left
  · have hn := Lib.hid (name_small (s := s) (by omega))
    have hb1 : decide ((20 : Int) < (s.size : Int)) = true := by simp; omega
    go_enter Try.func6, Try.ntmps6
    go_wp2
    go_ret
    exact ⟨ret_bool hn.out.symm, rfl⟩
  have hb1 : decide ((20 : Int) < (s.size : Int)) = false := by simp; omega
  have h0 : 0 < s.size := by omega
  by_cases hl : letB s[0].toNat = true
  rotate_left
  · have hl' : letB s[0].toNat = false := by simpa using hl
    clear hl
    have hn := Lib.hid (name_head h0 hl')
    go_enter Try.func6, Try.ntmps6
    go_wp2_with (go_at_call 9; refine (specLetter _ _).mono ?_; rintro e w' ⟨rfl, rfl⟩)
    go_ret
    exact ⟨ret_bool hn.out.symm, rfl⟩
  go_enter Try.func6, Try.ntmps6
  go_wp2_with (go_at_call 9; refine (specLetter _ _).mono ?_; rintro e w' ⟨rfl, rfl⟩)
  have HL := Lib.hid hl
  clear hl
  have HT := Lib.hid (all_snoc (k := 0) h0 rfl (wrd_let HL.out))
  go_loop [3] (fun i => ∃ k : Nat, k ≤ s.size ∧ i = .int .i64 k ∧ Hid ((s.data.toList.take k).all wrdB = true)) (fun i => s.size - (intOf i).toNat)
  case atStart => exact ⟨1, h1, rfl, HT⟩
  case round =>
    obtain ⟨k, hk, rfl, HA⟩ := hrel
    by_cases hlt : k < s.size
    · by_cases a1 : letB s[k].toNat = true
      · have HA' := Lib.hid (all_snoc hlt HA.out (wrd_let a1))
        go_wp2_with (go_at_call 9; refine (specLetter _ _).mono ?_; rintro e w' ⟨rfl, rfl⟩)
        go_round
        case rel => exact ⟨k + 1, by omega, by go_num, HA'⟩
        case measure => simp [intOf]; omega
      · have a1' : letB s[k].toNat = false := by simpa using a1
        clear a1
        by_cases a2 : digB s[k].toNat = true
        · have HA' := Lib.hid (all_snoc hlt HA.out (wrd_dig a2))
          go_wp2_with (first | (go_at_call 9; refine (specLetter _ _).mono ?_; rintro e w' ⟨rfl, rfl⟩) | (go_at_call 10; refine (specDigit _ _).mono ?_; rintro e w' ⟨rfl, rfl⟩))
          go_round
          case rel => exact ⟨k + 1, by omega, by go_num, HA'⟩
          case measure => simp [intOf]; omega
        · have a2' : digB s[k].toNat = false := by simpa using a2
          clear a2
          have hn := Lib.hid (name_no (all_no hlt (wrd_no a1' a2')))
          go_wp2_with (first | (go_at_call 9; refine (specLetter _ _).mono ?_; rintro e w' ⟨rfl, rfl⟩) | (go_at_call 10; refine (specDigit _ _).mono ?_; rintro e w' ⟨rfl, rfl⟩))
          go_ret
          exact ⟨ret_bool hn.out.symm, rfl⟩
    · obtain rfl : k = s.size := by omega
      have hn := Lib.hid (name_yes ⟨h1, h2⟩ h0 HL.out HA.out)
      go_wp2
      go_ret
      exact ⟨ret_bool hn.out.symm, rfl⟩
set_option maxHeartbeats 400000 in
theorem specName (s : ByteArray) (w : World) (hs : s.size ≤ maxLen) :
    Calls Try.prog 4 #[.string s] w fun e w' => e = .returned (.bool (nameB s.data.toList)) ∧ w = w' := by
  go_enter Try.func4, Try.ntmps4
  go_wp2_with (go_at_call 6; refine (specWord _ _ hs).mono ?_; rintro e w' ⟨rfl, rfl⟩)
  go_ret
  exact ⟨rfl, rfl⟩
end Go.Proofs.Ytplgeelhkldkcab
