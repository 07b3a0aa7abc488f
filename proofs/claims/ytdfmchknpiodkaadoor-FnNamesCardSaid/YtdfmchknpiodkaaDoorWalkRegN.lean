/-
  What impl.RegName, spec.RegName, impl.RegOf and spec.RegOf do: the name of a register of a size, and the register and size of a name, changing nothing that was there; condition: the program's four tables hold these names.
-/
import Derived.Test.YtdfmchknpiodkaaDoorWalkRegs
namespace Go.Proofs.YtdfmchknpiodkaaDoor
open Go.RowKit
/-- the four tables of registers -/
def Regs (W : World) : Prop := Nms W 0 regs1 ∧ Nms W 1 regs2 ∧ Nms W 2 regs4 ∧ Nms W 3 regs8
theorem Regs.below {W W' : World} (h : Regs W) (hb : Below W.heap.size W W') : Regs W' := ⟨h.1.below hb, h.2.1.below hb, h.2.2.1.below hb, h.2.2.2.below hb⟩
def Size4 (s : Nat) : Prop := s = 1 ∨ s = 2 ∨ s = 4 ∨ s = 8
set_option maxHeartbeats 400000 in
theorem sizeYesC (s : Nat) (w : World) (h : Size4 s) : Calls Tryd.prog 44 #[.int .i64 (s : Int)] w fun e w' => e = .returned (.bool true) ∧ w = w' := by
  rcases h with rfl | rfl | rfl | rfl
  all_goals
    go_enter Tryd.func44, Tryd.ntmps44
    go_wp2
    go_ret
    exact ⟨rfl, rfl⟩
def NoSize (s : Int) : Prop := s ≠ 1 ∧ s ≠ 2 ∧ s ≠ 4 ∧ s ≠ 8
set_option maxHeartbeats 400000 in
theorem sizeNoC (s : Int) (w : World) (h : NoSize s) : Calls Tryd.prog 44 #[.int .i64 s] w fun e w' => e = .returned (.bool false) ∧ w = w' := by
  have e1 : (s == 1) = false := beq_eq_false_iff_ne.mpr h.1
  have e2 : (s == 2) = false := beq_eq_false_iff_ne.mpr h.2.1
  have e4 : (s == 4) = false := beq_eq_false_iff_ne.mpr h.2.2.1
  have e8 : (s == 8) = false := beq_eq_false_iff_ne.mpr h.2.2.2
  clear h
  go_enter Tryd.func44, Tryd.ntmps44
  go_wp2
  go_ret
  exact ⟨rfl, rfl⟩
theorem regsS (s : Nat) (w : World) (h : Size4 s) : Calls Tryd.prog 45 #[.int .i64 (s : Int)] w fun e w' => RegRow s w w' e := by
  rcases h with rfl | rfl | rfl | rfl
  · exact regs1S w
  · exact regs2S w
  · exact regs4S w
  · exact regs8S w
theorem own_nm {w : World} {B g n cap : Nat} {l : List (List UInt8)} (h : w.ownsRow B 9 1 (.slice (some ⟨g, 0, none⟩) n cap) n (NV l)) (k : Nat) (hk : k < l.length) : w.cell? ⟨g, k, none⟩ = some (.string (nm l k)) := by
  have hn : l.length = n := by have := h.1; rw [NV_len] at this; omega
  rw [h.cellAt k (by omega)]
  simp only [NV, List.getElem?_map, List.getElem?_eq_getElem hk, Option.map_some, nm, List.getD_eq_getElem?_getD, Option.getD_some]
theorem regs_len (s : Nat) : (regsL s).length ≤ 20 ∧ 16 ≤ (regsL s).length := by
  unfold regsL
  split
  · decide
  · split
    · decide
    · split <;> decide
set_option maxHeartbeats 1000000 in
theorem atS2 (g n cap : Nat) (l : List (List UInt8)) (s : ByteArray) (w : World) (hl : l.length = n) (hn : n ≤ 1000) (hm : ∀ k, k < n → w.cell? ⟨g, k, none⟩ = some (.string (nm l k))) :
    Calls Tryd.prog 43 #[.slice (some ⟨g, 0, none⟩) n cap, .string s] w fun e w' => ∃ r : Int, IsAt l s r ∧ e = .returned (.int .i64 r) ∧ w = w' := by
  have HM := Lib.hid hm
  have HL := Lib.hid hl
  clear hm hl
  go_enter Tryd.func43, Tryd.ntmps43
  go_wp2
  go_loop [5] (fun i => ∃ k : Nat, k ≤ n ∧ i = .int .i64 k ∧ Hid (∀ j, j < k → (nm l j).toList ≠ s.toList)) (fun i => n - (intOf i).toNat)
  case atStart => exact ⟨0, by omega, rfl, Lib.hid (fun j hj => by omega)⟩
  case round =>
    obtain ⟨k, hk, rfl, HN⟩ := hrel
    by_cases hlt : k < n
    · have hc := HM.out k hlt
      by_cases ht : ((nm l k).toList == s.toList) = true
      · have HR := Lib.hid (IsAt.hit (by have := HL.out; omega) (eq_of_beq ht) HN.out)
        go_wp2
        go_ret
        exact ⟨_, HR.out, rfl, rfl⟩
      · have ht' : ((nm l k).toList == s.toList) = false := by simpa using ht
        clear ht
        have HN' := Lib.hid (nm_next HN.out ht')
        go_wp2
        go_round
        case rel => exact ⟨k + 1, by omega, by go_num, HN'⟩
        case measure => simp [intOf]; omega
    · obtain rfl : k = n := by omega
      have HR := Lib.hid (IsAt.miss (by rw [HL.out]; exact HN.out))
      go_wp2
      go_ret
      exact ⟨_, HR.out, rfl, rfl⟩
set_option maxHeartbeats 400000 in
theorem regNameI (s i : Nat) (w : World) (h : Size4 s) (hi : i < (regsL s).length) (hR : Regs w) :
    Calls Tryd.prog 15 #[.int .i64 (i : Int), .int .i64 (s : Int)] w fun e w' => e = .returned (.string (nm (regsL s) i)) ∧ w = w' := by
  have h0 : decide ((i : Int) < 0) = false := decide_eq_false (by omega)
  rcases h with rfl | rfl | rfl | rfl
  · have hc := (hR.1).cell i hi
    have hi2 : (i : Int) < 20 := by have : (regsL 1).length = 20 := rfl; omega
    clear hR hi
    go_enter Tryd.func15, Tryd.ntmps15
    go_wp2
    go_ret
    exact ⟨rfl, rfl⟩
  · have hc := (hR.2.1).cell i hi
    have hi2 : (i : Int) < 16 := by have : (regsL 2).length = 16 := rfl; omega
    clear hR hi
    go_enter Tryd.func15, Tryd.ntmps15
    go_wp2
    go_ret
    exact ⟨rfl, rfl⟩
  · have hc := (hR.2.2.1).cell i hi
    have hi2 : (i : Int) < 16 := by have : (regsL 4).length = 16 := rfl; omega
    clear hR hi
    go_enter Tryd.func15, Tryd.ntmps15
    go_wp2
    go_ret
    exact ⟨rfl, rfl⟩
  · have hc := (hR.2.2.2).cell i hi
    have hi2 : (i : Int) < 16 := by have : (regsL 8).length = 16 := rfl; omega
    clear hR hi
    go_enter Tryd.func15, Tryd.ntmps15
    go_wp2
    go_ret
    exact ⟨rfl, rfl⟩
theorem noneNeg (a : Int) (w : World) (s : Int) (h : a < 0) : Calls Tryd.prog 15 #[.int .i64 a, .int .i64 s] w fun e w' => e = .returned (.string ⟨#[]⟩) ∧ w = w' := by
  go_enter Tryd.func15, Tryd.ntmps15
  go_wp2
  go_ret
  exact ⟨rfl, rfl⟩
set_option maxHeartbeats 400000 in
theorem noneBig (s : Nat) (a : Int) (w : World) (h : Size4 s) (ha : ((regsL s).length : Int) ≤ a) :
    Calls Tryd.prog 15 #[.int .i64 a, .int .i64 (s : Int)] w fun e w' => e = .returned (.string ⟨#[]⟩) ∧ w = w' := by
  have hl := regs_len s
  have h0 : decide (a < 0) = false := decide_eq_false (by omega)
  rcases h with rfl | rfl | rfl | rfl
  · have h1 : decide (a < 20) = false := decide_eq_false (by have : (regsL 1).length = 20 := rfl; omega)
    clear ha hl
    go_enter Tryd.func15, Tryd.ntmps15
    go_wp2
    go_ret
    exact ⟨rfl, rfl⟩
  · have h1 : decide (a < 16) = false := decide_eq_false (by have : (regsL 2).length = 16 := rfl; omega)
    clear ha hl
    go_enter Tryd.func15, Tryd.ntmps15
    go_wp2
    go_ret
    exact ⟨rfl, rfl⟩
  · have h1 : decide (a < 16) = false := decide_eq_false (by have : (regsL 4).length = 16 := rfl; omega)
    clear ha hl
    go_enter Tryd.func15, Tryd.ntmps15
    go_wp2
    go_ret
    exact ⟨rfl, rfl⟩
  · have h1 : decide (a < 16) = false := decide_eq_false (by have : (regsL 8).length = 16 := rfl; omega)
    clear ha hl
    go_enter Tryd.func15, Tryd.ntmps15
    go_wp2
    go_ret
    exact ⟨rfl, rfl⟩
set_option maxHeartbeats 400000 in
theorem noneSize (a s : Int) (w : World) (h : NoSize s) :
    Calls Tryd.prog 15 #[.int .i64 a, .int .i64 s] w fun e w' => e = .returned (.string ⟨#[]⟩) ∧ w = w' := by
  have e1 : (s == 1) = false := beq_eq_false_iff_ne.mpr h.1
  have e2 : (s == 2) = false := beq_eq_false_iff_ne.mpr h.2.1
  have e4 : (s == 4) = false := beq_eq_false_iff_ne.mpr h.2.2.1
  have e8 : (s == 8) = false := beq_eq_false_iff_ne.mpr h.2.2.2
  clear h
  by_cases h0 : a < 0
  all_goals
    go_enter Tryd.func15, Tryd.ntmps15
    go_wp2
    go_ret
    exact ⟨rfl, rfl⟩
set_option maxHeartbeats 1000000 in
theorem regNameS (s i : Nat) (w : World) (h : Size4 s) (hi : i < (regsL s).length) :
    Calls Tryd.prog 31 #[.int .i64 (i : Int), .int .i64 (s : Int)] w fun e w' => e = .returned (.string (nm (regsL s) i)) ∧ Below w.heap.size w w' := by
  have C1 := Lib.hid (fun w => sizeYesC s w h)
  have C2 := Lib.hid (fun w => regsS s w h)
  have hl := regs_len s
  obtain ⟨n, hn⟩ : ∃ n, n = (regsL s).length := ⟨_, rfl⟩
  have HN := Lib.hid hn
  rw [← hn] at hi hl
  have hi2 : decide ((n : Int) ≤ (i : Int)) = false := decide_eq_false (by omega)
  have h0 : decide ((i : Int) < 0) = false := decide_eq_false (by omega)
  have hi3 : (i : Int) < n := by omega
  clear hn h
  go_enter Tryd.func31, Tryd.ntmps31
  go_wp2_with fail
  refine (C1.out _).mono ?_
  rintro e w1 ⟨rfl, rfl⟩
  go_wp2_with fail
  refine (C2.out _).mono ?_
  rintro e w1 ⟨g, cap, rfl, ho, hb⟩
  have hc := own_nm ho i (by rw [← HN.out]; exact hi)
  rw [← HN.out]
  clear ho
  go_wp2
  go_ret
  exact ⟨rfl, hb⟩
set_option maxHeartbeats 1000000 in
theorem regNameSNo (s : Nat) (a : Int) (w : World) (h : Size4 s) (ha : a < 0 ∨ ((regsL s).length : Int) ≤ a) :
    Calls Tryd.prog 31 #[.int .i64 a, .int .i64 (s : Int)] w fun e w' => e = .returned (.string ⟨#[]⟩) ∧ Below w.heap.size w w' := by
  have C1 := Lib.hid (fun w => sizeYesC s w h)
  have C2 := Lib.hid (fun w => regsS s w h)
  obtain ⟨n, hn⟩ : ∃ n, n = (regsL s).length := ⟨_, rfl⟩
  have HN := Lib.hid hn
  rw [← hn] at ha
  clear hn h
  by_cases h0 : a < 0
  · go_enter Tryd.func31, Tryd.ntmps31
    go_wp2_with fail
    refine (C1.out _).mono ?_
    rintro e w1 ⟨rfl, rfl⟩
    go_wp2_with fail
    refine (C2.out _).mono ?_
    rintro e w1 ⟨g, cap, rfl, ho, hb⟩
    clear ho ha
    go_wp2
    go_ret
    exact ⟨rfl, hb⟩
  · have h1 : (n : Int) ≤ a := by omega
    have h2 : decide (a < 0) = false := decide_eq_false h0
    clear ha h0
    go_enter Tryd.func31, Tryd.ntmps31
    go_wp2_with fail
    refine (C1.out _).mono ?_
    rintro e w1 ⟨rfl, rfl⟩
    go_wp2_with fail
    refine (C2.out _).mono ?_
    rintro e w1 ⟨g, cap, rfl, ho, hb⟩
    rw [← HN.out]
    clear ho
    go_wp2
    go_ret
    exact ⟨rfl, hb⟩
set_option maxHeartbeats 400000 in
theorem regNameSSize (a s : Int) (w : World) (h : NoSize s) :
    Calls Tryd.prog 31 #[.int .i64 a, .int .i64 s] w fun e w' => e = .returned (.string ⟨#[]⟩) ∧ w = w' := by
  have C1 := Lib.hid (fun w => sizeNoC s w h)
  clear h
  go_enter Tryd.func31, Tryd.ntmps31
  go_wp2_with fail
  refine (C1.out _).mono ?_
  rintro e w1 ⟨rfl, rfl⟩
  go_wp2
  go_ret
  exact ⟨rfl, rfl⟩
end Go.Proofs.YtdfmchknpiodkaaDoor
