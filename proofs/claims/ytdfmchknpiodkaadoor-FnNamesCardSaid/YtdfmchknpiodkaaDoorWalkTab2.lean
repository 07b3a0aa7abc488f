/-
  What impl.OpName, spec.OpName, impl.CondName, spec.CondName, impl.OpOf, spec.OpOf, impl.CondOf and spec.CondOf do: the name of a number and the number of a name, changing nothing that was there; condition: the program's tables hold these names.
-/
import Derived.Test.YtdfmchknpiodkaaDoorWalkTab
namespace Go.Proofs.YtdfmchknpiodkaaDoor
open Go.RowKit
set_option maxHeartbeats 400000 in
theorem opNameS (i : Nat) (w : World) (hi : i < 44) :
    Calls Tryd.prog 24 #[.int .i64 ((i : Int) + 1)] w fun e w' => e = .returned (.string (nm opsL i)) ∧ Below w.heap.size w w' := by
  have C := Lib.hid (fun w => l03OpYes ((i : Int) + 1) w (by omega) (by omega))
  have h2 : (i : Int) < 44 := by omega
  go_enter Tryd.func24, Tryd.ntmps24
  go_wp2_with (go_at_call 34; refine (C.out _).mono ?_; rintro e w' ⟨rfl, rfl⟩)
  refine (namesS _).mono ?_
  rintro e w1 ⟨rfl, hn, hb⟩
  have hc := hn.cell i hi
  clear hn
  go_wp2
  go_ret
  exact ⟨rfl, hb⟩
set_option maxHeartbeats 400000 in
theorem opNameSNo (c : Int) (w : World) (h : c < 1 ∨ 44 < c) :
    Calls Tryd.prog 24 #[.int .i64 c] w fun e w' => e = .returned (.string ⟨#[]⟩) ∧ w = w' := by
  have C := Lib.hid (fun w => l03OpNo c w h)
  clear h
  go_enter Tryd.func24, Tryd.ntmps24
  go_wp2_with (go_at_call 34; refine (C.out _).mono ?_; rintro e w' ⟨rfl, rfl⟩)
  go_ret
  exact ⟨rfl, rfl⟩
set_option maxHeartbeats 400000 in
theorem condNameI (i : Nat) (w : World) (hi : i < 16) (hn : Nms w 6 condsL) :
    Calls Tryd.prog 26 #[.int .i64 (i : Int)] w fun e w' => e = .returned (.string (nm condsL i)) ∧ w = w' := by
  have hc := hn.cell i hi
  have h2 : (i : Int) < 16 := by omega
  clear hn
  go_enter Tryd.func26, Tryd.ntmps26
  go_wp2
  go_ret
  exact ⟨rfl, rfl⟩
set_option maxHeartbeats 400000 in
theorem condNameINo (c : Int) (w : World) (h : c < 0 ∨ 16 ≤ c) :
    Calls Tryd.prog 26 #[.int .i64 c] w fun e w' => e = .returned (.string ⟨#[]⟩) ∧ w = w' := by
  rcases h with h | h
  all_goals
    go_enter Tryd.func26, Tryd.ntmps26
    go_wp2
    go_ret
    exact ⟨rfl, rfl⟩
set_option maxHeartbeats 400000 in
theorem condNameS (i : Nat) (w : World) (hi : i < 16) :
    Calls Tryd.prog 27 #[.int .i64 (i : Int)] w fun e w' => e = .returned (.string (nm condsL i)) ∧ Below w.heap.size w w' := by
  have C := Lib.hid (fun w => inYes (i : Int) 0 15 w (by omega) (by omega))
  have h2 : (i : Int) < 16 := by omega
  go_enter Tryd.func27, Tryd.ntmps27
  go_wp2_with (go_at_call 38; refine (C.out _).mono ?_; rintro e w' ⟨rfl, rfl⟩)
  refine (condsS _).mono ?_
  rintro e w1 ⟨rfl, hn, hb⟩
  have hc := hn.cell i hi
  clear hn
  go_wp2
  go_ret
  exact ⟨rfl, hb⟩
set_option maxHeartbeats 400000 in
theorem condNameSNo (c : Int) (w : World) (h : c < 0 ∨ 15 < c) :
    Calls Tryd.prog 27 #[.int .i64 c] w fun e w' => e = .returned (.string ⟨#[]⟩) ∧ w = w' := by
  have C := Lib.hid (fun w => inNo c 0 15 w h)
  clear h
  go_enter Tryd.func27, Tryd.ntmps27
  go_wp2_with (go_at_call 38; refine (C.out _).mono ?_; rintro e w' ⟨rfl, rfl⟩)
  go_ret
  exact ⟨rfl, rfl⟩
theorem ret_int {a b : Int} (h : a = b) : Ending.returned (.int .i64 a) = .returned (.int .i64 b) := by rw [h]
/-- a search in the names l that answers the place of s, or -1 -/
def AtOut (l : List (List UInt8)) (s : ByteArray) (d : Int) (w : World) (e : Ending) (w' : World) : Prop := ∃ r : Int, IsAt l s r ∧ e = .returned (.int .i64 (r + d)) ∧ Below w.heap.size w w'
set_option maxHeartbeats 1000000 in
theorem atS (g n : Nat) (l : List (List UInt8)) (s : ByteArray) (w : World) (hl : l.length = n) (hn : n ≤ 1000) (hm : Nms w g l) :
    Calls Tryd.prog 43 #[.slice (some ⟨g, 0, none⟩) n n, .string s] w fun e w' => ∃ r : Int, IsAt l s r ∧ e = .returned (.int .i64 r) ∧ w = w' := by
  have HM := Lib.hid hm
  have HL := Lib.hid hl
  clear hm hl
  go_enter Tryd.func43, Tryd.ntmps43
  go_wp2
  go_loop [5] (fun i => ∃ k : Nat, k ≤ n ∧ i = .int .i64 k ∧ Hid (∀ j, j < k → (nm l j).toList ≠ s.toList)) (fun i => n - (intOf i).toNat)
  case atStart => exact ⟨0, by omega, rfl, Lib.hid (fun j hj => by omega)⟩
  case round =>
    obtain ⟨k, hk, rfl, HN⟩ := hrel
    by_cases hlt : k < n
    · have hc := HM.out.cell k (by have := HL.out; omega)
      by_cases ht : ((nm l k).toList == s.toList) = true
      · have HR := Lib.hid (IsAt.hit (by have := HL.out; omega) (eq_of_beq ht) HN.out)
        go_wp2
        go_ret
        exact ⟨_, HR.out, rfl, rfl⟩
      · have ht' : ((nm l k).toList == s.toList) = false := by simpa using ht
        clear ht
        have HN' := Lib.hid (nm_next HN.out ht')
        go_wp2
        go_round
        case rel => exact ⟨k + 1, by omega, by go_num, HN'⟩
        case measure => simp [intOf]; omega
    · obtain rfl : k = n := by omega
      have HR := Lib.hid (IsAt.miss (by rw [HL.out]; exact HN.out))
      go_wp2
      go_ret
      exact ⟨_, HR.out, rfl, rfl⟩
set_option maxHeartbeats 400000 in
theorem opOfS (s : ByteArray) (w : World) (hs : s.size ≤ maxLen) :
    Calls Tryd.prog 29 #[.string s] w (AtOut opsL s 1 w) := by
  unfold maxLen at hs
  by_cases hbig : (65536 : Int) < s.size
  · have HR : Hid (IsAt opsL s (-1)) := Lib.hid (IsAt.miss (nm_short 7 (by decide) (by omega)))
    go_enter Tryd.func29, Tryd.ntmps29
    go_wp2
    go_ret
    exact ⟨_, HR.out, rfl, Below.refl _ _⟩
  · go_enter Tryd.func29, Tryd.ntmps29
    go_wp2_with fail
    refine (namesS _).mono ?_
    rintro e w1 ⟨rfl, hn, hb⟩
    go_wp2_with fail
    refine (atS w.heap.size 44 opsL s _ rfl (by omega) hn).mono ?_
    rintro e w' ⟨r, hr, rfl, rfl⟩
    have HR := Lib.hid hr
    have h1 := hr.range
    have h2 : opsL.length = 44 := rfl
    have r0 : -1 ≤ r := h1.1
    have r1 : r < 44 := by omega
    clear hr hn h1 h2
    go_wp2
    go_ret
    exact ⟨r, HR.out, rfl, hb⟩
set_option maxHeartbeats 400000 in
theorem condOfS (s : ByteArray) (w : World) :
    Calls Tryd.prog 30 #[.string s] w (AtOut condsL s 0 w) := by
  go_enter Tryd.func30, Tryd.ntmps30
  go_wp2_with fail
  refine (condsS _).mono ?_
  rintro e w1 ⟨rfl, hn, hb⟩
  go_wp2_with fail
  refine (atS w.heap.size 16 condsL s _ rfl (by omega) hn).mono ?_
  rintro e w' ⟨r, hr, rfl, rfl⟩
  have HR := Lib.hid hr
  clear hr hn
  go_wp2
  go_ret
  exact ⟨r, HR.out, ret_int (Int.add_zero _).symm, hb⟩
theorem index_ops (w : World) : ∀ i : Nat, i < 44 → (Instr.index 54 (.agg (nmV opsL)) (.int .i64 (i : Int))).run Tryd.prog w = .ok (.string (nm opsL i)) w
  | 0, _ => by kernel_rfl
  | 1, _ => by kernel_rfl
  | 2, _ => by kernel_rfl
  | 3, _ => by kernel_rfl
  | 4, _ => by kernel_rfl
  | 5, _ => by kernel_rfl
  | 6, _ => by kernel_rfl
  | 7, _ => by kernel_rfl
  | 8, _ => by kernel_rfl
  | 9, _ => by kernel_rfl
  | 10, _ => by kernel_rfl
  | 11, _ => by kernel_rfl
  | 12, _ => by kernel_rfl
  | 13, _ => by kernel_rfl
  | 14, _ => by kernel_rfl
  | 15, _ => by kernel_rfl
  | 16, _ => by kernel_rfl
  | 17, _ => by kernel_rfl
  | 18, _ => by kernel_rfl
  | 19, _ => by kernel_rfl
  | 20, _ => by kernel_rfl
  | 21, _ => by kernel_rfl
  | 22, _ => by kernel_rfl
  | 23, _ => by kernel_rfl
  | 24, _ => by kernel_rfl
  | 25, _ => by kernel_rfl
  | 26, _ => by kernel_rfl
  | 27, _ => by kernel_rfl
  | 28, _ => by kernel_rfl
  | 29, _ => by kernel_rfl
  | 30, _ => by kernel_rfl
  | 31, _ => by kernel_rfl
  | 32, _ => by kernel_rfl
  | 33, _ => by kernel_rfl
  | 34, _ => by kernel_rfl
  | 35, _ => by kernel_rfl
  | 36, _ => by kernel_rfl
  | 37, _ => by kernel_rfl
  | 38, _ => by kernel_rfl
  | 39, _ => by kernel_rfl
  | 40, _ => by kernel_rfl
  | 41, _ => by kernel_rfl
  | 42, _ => by kernel_rfl
  | 43, _ => by kernel_rfl
  | n + 44, h => by omega
theorem index_conds (w : World) : ∀ i : Nat, i < 16 → (Instr.index 46 (.agg (nmV condsL)) (.int .i64 (i : Int))).run Tryd.prog w = .ok (.string (nm condsL i)) w
  | 0, _ => by kernel_rfl
  | 1, _ => by kernel_rfl
  | 2, _ => by kernel_rfl
  | 3, _ => by kernel_rfl
  | 4, _ => by kernel_rfl
  | 5, _ => by kernel_rfl
  | 6, _ => by kernel_rfl
  | 7, _ => by kernel_rfl
  | 8, _ => by kernel_rfl
  | 9, _ => by kernel_rfl
  | 10, _ => by kernel_rfl
  | 11, _ => by kernel_rfl
  | 12, _ => by kernel_rfl
  | 13, _ => by kernel_rfl
  | 14, _ => by kernel_rfl
  | 15, _ => by kernel_rfl
  | n + 16, h => by omega
theorem nmV_hid (l : List (List UInt8)) : ∃ V, V = nmV l := ⟨_, rfl⟩
set_option maxHeartbeats 1000000 in
theorem opOfI (s : ByteArray) (w : World) (hn : Nms w 5 opsL) :
    Calls Tryd.prog 22 #[.string s] w (AtOut opsL s 1 w) := by
  obtain ⟨t, fr, hb⟩ := hn
  have HX := Lib.hid (fun i hi => index_ops w i hi)
  go_enter Tryd.func22, Tryd.ntmps22
  go_wp2_with (refine wpList_load_row rfl 54 _ rfl 5 rfl t _ fr _ hb Tryd.underlying54 rfl (by kernel_rfl) ?_)
  go_loop [3, 4, 6] (fun _ _ i => ∃ k : Nat, k ≤ 44 ∧ i = .int .i64 k ∧ Hid (∀ j, j < k → (nm opsL j).toList ≠ s.toList)) (fun _ _ i => 44 - (intOf i).toNat)
  case atStart => exact ⟨0, by omega, rfl, Lib.hid (fun j hj => by omega)⟩
  case round =>
    obtain ⟨k, hk, rfl, HN⟩ := hrel
    by_cases hlt : k < 44
    · have hlt2 : (k : Int) < 44 := by omega
      have hx := HX.out k hlt
      by_cases ht : ((nm opsL k).toList == s.toList) = true
      · have HR := Lib.hid (IsAt.hit hlt (eq_of_beq ht) HN.out)
        go_wp2
        go_ret
        exact ⟨_, HR.out, ret_int (Int.add_comm _ _), Below.refl _ _⟩
      · have ht' : ((nm opsL k).toList == s.toList) = false := by simpa using ht
        clear ht
        have HN' := Lib.hid (nm_next HN.out ht')
        go_wp2
        go_round
        case rel => exact ⟨k + 1, by omega, by go_num, HN'⟩
        case measure => simp [intOf]; omega
    · obtain rfl : k = 44 := by omega
      have HR := Lib.hid (IsAt.miss (l := opsL) HN.out)
      go_wp2
      go_ret
      exact ⟨_, HR.out, rfl, Below.refl _ _⟩
set_option maxHeartbeats 1000000 in
theorem condOfI (s : ByteArray) (w : World) (hn : Nms w 6 condsL) :
    Calls Tryd.prog 25 #[.string s] w (AtOut condsL s 0 w) := by
  obtain ⟨t, fr, hb⟩ := hn
  have HX := Lib.hid (fun i hi => index_conds w i hi)
  go_enter Tryd.func25, Tryd.ntmps25
  go_wp2_with (refine wpList_load_row rfl 46 _ rfl 6 rfl t _ fr _ hb Tryd.underlying46 rfl (by kernel_rfl) ?_)
  go_loop [3, 4, 6] (fun _ _ i => ∃ k : Nat, k ≤ 16 ∧ i = .int .i64 k ∧ Hid (∀ j, j < k → (nm condsL j).toList ≠ s.toList)) (fun _ _ i => 16 - (intOf i).toNat)
  case atStart => exact ⟨0, by omega, rfl, Lib.hid (fun j hj => by omega)⟩
  case round =>
    obtain ⟨k, hk, rfl, HN⟩ := hrel
    by_cases hlt : k < 16
    · have hlt2 : (k : Int) < 16 := by omega
      have hx := HX.out k hlt
      by_cases ht : ((nm condsL k).toList == s.toList) = true
      · have HR := Lib.hid (IsAt.hit hlt (eq_of_beq ht) HN.out)
        go_wp2
        go_ret
        exact ⟨_, HR.out, ret_int (Int.add_zero _).symm, Below.refl _ _⟩
      · have ht' : ((nm condsL k).toList == s.toList) = false := by simpa using ht
        clear ht
        have HN' := Lib.hid (nm_next HN.out ht')
        go_wp2
        go_round
        case rel => exact ⟨k + 1, by omega, by go_num, HN'⟩
        case measure => simp [intOf]; omega
    · obtain rfl : k = 16 := by omega
      have HR := Lib.hid (IsAt.miss (l := condsL) HN.out)
      go_wp2
      go_ret
      exact ⟨_, HR.out, rfl, Below.refl _ _⟩
end Go.Proofs.YtdfmchknpiodkaaDoor
