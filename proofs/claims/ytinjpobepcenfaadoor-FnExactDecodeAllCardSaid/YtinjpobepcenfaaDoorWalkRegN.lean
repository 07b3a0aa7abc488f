/-
  What impl.RegName, spec.RegName, impl.RegOf and spec.RegOf do: the name of a register of a size, and the register and size of a name, changing nothing that was there; condition: the program's four tables hold these names.
-/
import Derived.Test.YtinjpobepcenfaaDoorWalkRegs
namespace Go.Proofs.YtinjpobepcenfaaDoor
open Go.RowKit
/-- the four tables of registers -/
def Regs (W : World) : Prop := Nms W 1 regs1 ∧ Nms W 2 regs2 ∧ Nms W 3 regs4 ∧ Nms W 4 regs8
theorem Regs.below {W W' : World} (h : Regs W) (hb : Below W.heap.size W W') : Regs W' := ⟨h.1.below hb, h.2.1.below hb, h.2.2.1.below hb, h.2.2.2.below hb⟩
def Size4 (s : Nat) : Prop := s = 1 ∨ s = 2 ∨ s = 4 ∨ s = 8
set_option maxHeartbeats 400000 in
theorem sizeYesC (s : Nat) (w : World) (h : Size4 s) : Calls Tryd.prog 24 #[.int .i64 (s : Int)] w fun e w' => e = .returned (.bool true) ∧ w = w' := by
  rcases h with rfl | rfl | rfl | rfl
  all_goals
    go_enter Tryd.func24, Tryd.ntmps24
    go_wp2
    go_ret
    exact ⟨rfl, rfl⟩
def NoSize (s : Int) : Prop := s ≠ 1 ∧ s ≠ 2 ∧ s ≠ 4 ∧ s ≠ 8
set_option maxHeartbeats 400000 in
theorem sizeNoC (s : Int) (w : World) (h : NoSize s) : Calls Tryd.prog 24 #[.int .i64 s] w fun e w' => e = .returned (.bool false) ∧ w = w' := by
  have e1 : (s == 1) = false := beq_eq_false_iff_ne.mpr h.1
  have e2 : (s == 2) = false := beq_eq_false_iff_ne.mpr h.2.1
  have e4 : (s == 4) = false := beq_eq_false_iff_ne.mpr h.2.2.1
  have e8 : (s == 8) = false := beq_eq_false_iff_ne.mpr h.2.2.2
  clear h
  go_enter Tryd.func24, Tryd.ntmps24
  go_wp2
  go_ret
  exact ⟨rfl, rfl⟩
theorem own_nm {w : World} {B g n cap : Nat} {l : List (List UInt8)} (h : w.ownsRow B 9 1 (.slice (some ⟨g, 0, none⟩) n cap) n (NV l)) (k : Nat) (hk : k < l.length) : w.cell? ⟨g, k, none⟩ = some (.string (nm l k)) := by
  have hn : l.length = n := by have := h.1; rw [NV_len] at this; omega
  rw [h.cellAt k (by omega)]
  simp only [NV, List.getElem?_map, List.getElem?_eq_getElem hk, Option.map_some, nm, List.getD_eq_getElem?_getD, Option.getD_some]
theorem regs_len (s : Nat) : (regsL s).length ≤ 20 ∧ 16 ≤ (regsL s).length := by
  unfold regsL
  split
  · decide
  · split
    · decide
    · split <;> decide
set_option maxHeartbeats 400000 in
theorem regNameI (s i : Nat) (w : World) (h : Size4 s) (hi : i < (regsL s).length) (hR : Regs w) :
    Calls Tryd.prog 44 #[.int .i64 (i : Int), .int .i64 (s : Int)] w fun e w' => e = .returned (.string (nm (regsL s) i)) ∧ w = w' := by
  have h0 : decide ((i : Int) < 0) = false := decide_eq_false (by omega)
  rcases h with rfl | rfl | rfl | rfl
  · have hc := (hR.1).cell i hi
    have hi2 : (i : Int) < 20 := by have : (regsL 1).length = 20 := rfl; omega
    clear hR hi
    go_enter Tryd.func44, Tryd.ntmps44
    go_wp2
    go_ret
    exact ⟨rfl, rfl⟩
  · have hc := (hR.2.1).cell i hi
    have hi2 : (i : Int) < 16 := by have : (regsL 2).length = 16 := rfl; omega
    clear hR hi
    go_enter Tryd.func44, Tryd.ntmps44
    go_wp2
    go_ret
    exact ⟨rfl, rfl⟩
  · have hc := (hR.2.2.1).cell i hi
    have hi2 : (i : Int) < 16 := by have : (regsL 4).length = 16 := rfl; omega
    clear hR hi
    go_enter Tryd.func44, Tryd.ntmps44
    go_wp2
    go_ret
    exact ⟨rfl, rfl⟩
  · have hc := (hR.2.2.2).cell i hi
    have hi2 : (i : Int) < 16 := by have : (regsL 8).length = 16 := rfl; omega
    clear hR hi
    go_enter Tryd.func44, Tryd.ntmps44
    go_wp2
    go_ret
    exact ⟨rfl, rfl⟩
theorem noneNeg (a : Int) (w : World) (s : Int) (h : a < 0) : Calls Tryd.prog 44 #[.int .i64 a, .int .i64 s] w fun e w' => e = .returned (.string ⟨#[]⟩) ∧ w = w' := by
  go_enter Tryd.func44, Tryd.ntmps44
  go_wp2
  go_ret
  exact ⟨rfl, rfl⟩
set_option maxHeartbeats 400000 in
theorem noneBig (s : Nat) (a : Int) (w : World) (h : Size4 s) (ha : ((regsL s).length : Int) ≤ a) :
    Calls Tryd.prog 44 #[.int .i64 a, .int .i64 (s : Int)] w fun e w' => e = .returned (.string ⟨#[]⟩) ∧ w = w' := by
  have hl := regs_len s
  have h0 : decide (a < 0) = false := decide_eq_false (by omega)
  rcases h with rfl | rfl | rfl | rfl
  · have h1 : decide (a < 20) = false := decide_eq_false (by have : (regsL 1).length = 20 := rfl; omega)
    clear ha hl
    go_enter Tryd.func44, Tryd.ntmps44
    go_wp2
    go_ret
    exact ⟨rfl, rfl⟩
  · have h1 : decide (a < 16) = false := decide_eq_false (by have : (regsL 2).length = 16 := rfl; omega)
    clear ha hl
    go_enter Tryd.func44, Tryd.ntmps44
    go_wp2
    go_ret
    exact ⟨rfl, rfl⟩
  · have h1 : decide (a < 16) = false := decide_eq_false (by have : (regsL 4).length = 16 := rfl; omega)
    clear ha hl
    go_enter Tryd.func44, Tryd.ntmps44
    go_wp2
    go_ret
    exact ⟨rfl, rfl⟩
  · have h1 : decide (a < 16) = false := decide_eq_false (by have : (regsL 8).length = 16 := rfl; omega)
    clear ha hl
    go_enter Tryd.func44, Tryd.ntmps44
    go_wp2
    go_ret
    exact ⟨rfl, rfl⟩
set_option maxHeartbeats 400000 in
theorem noneSize (a s : Int) (w : World) (h : NoSize s) :
    Calls Tryd.prog 44 #[.int .i64 a, .int .i64 s] w fun e w' => e = .returned (.string ⟨#[]⟩) ∧ w = w' := by
  have e1 : (s == 1) = false := beq_eq_false_iff_ne.mpr h.1
  have e2 : (s == 2) = false := beq_eq_false_iff_ne.mpr h.2.1
  have e4 : (s == 4) = false := beq_eq_false_iff_ne.mpr h.2.2.1
  have e8 : (s == 8) = false := beq_eq_false_iff_ne.mpr h.2.2.2
  clear h
  by_cases h0 : a < 0
  all_goals
    go_enter Tryd.func44, Tryd.ntmps44
    go_wp2
    go_ret
    exact ⟨rfl, rfl⟩
end Go.Proofs.YtinjpobepcenfaaDoor
