/-
  What impl.OpName, spec.OpName, impl.CondName, spec.CondName, impl.OpOf, spec.OpOf, impl.CondOf and spec.CondOf do: the name of a number and the number of a name, changing nothing that was there; condition: the program's tables hold these names.
-/
import Derived.Test.YtinjpobepcenfaaDoorWalkTab
namespace Go.Proofs.YtinjpobepcenfaaDoor
open Go.RowKit
set_option maxHeartbeats 400000 in
theorem condNameI (i : Nat) (w : World) (hi : i < 16) (hn : Nms w 5 condsL) :
    Calls Tryd.prog 68 #[.int .i64 (i : Int)] w fun e w' => e = .returned (.string (nm condsL i)) ∧ w = w' := by
  have hc := hn.cell i hi
  have h2 : (i : Int) < 16 := by omega
  clear hn
  go_enter Tryd.func68, Tryd.ntmps68
  go_wp2
  go_ret
  exact ⟨rfl, rfl⟩
set_option maxHeartbeats 400000 in
theorem condNameINo (c : Int) (w : World) (h : c < 0 ∨ 16 ≤ c) :
    Calls Tryd.prog 68 #[.int .i64 c] w fun e w' => e = .returned (.string ⟨#[]⟩) ∧ w = w' := by
  rcases h with h | h
  all_goals
    go_enter Tryd.func68, Tryd.ntmps68
    go_wp2
    go_ret
    exact ⟨rfl, rfl⟩
theorem ret_int {a b : Int} (h : a = b) : Ending.returned (.int .i64 a) = .returned (.int .i64 b) := by rw [h]
/-- a search in the names l that answers the place of s, or -1 -/
def AtOut (l : List (List UInt8)) (s : ByteArray) (d : Int) (w : World) (e : Ending) (w' : World) : Prop := ∃ r : Int, IsAt l s r ∧ e = .returned (.int .i64 (r + d)) ∧ Below w.heap.size w w'
theorem index_conds (w : World) : ∀ i : Nat, i < 16 → (Instr.index 86 (.agg (nmV condsL)) (.int .i64 (i : Int))).run Tryd.prog w = .ok (.string (nm condsL i)) w
  | 0, _ => by kernel_rfl
  | 1, _ => by kernel_rfl
  | 2, _ => by kernel_rfl
  | 3, _ => by kernel_rfl
  | 4, _ => by kernel_rfl
  | 5, _ => by kernel_rfl
  | 6, _ => by kernel_rfl
  | 7, _ => by kernel_rfl
  | 8, _ => by kernel_rfl
  | 9, _ => by kernel_rfl
  | 10, _ => by kernel_rfl
  | 11, _ => by kernel_rfl
  | 12, _ => by kernel_rfl
  | 13, _ => by kernel_rfl
  | 14, _ => by kernel_rfl
  | 15, _ => by kernel_rfl
  | n + 16, h => by omega
theorem nmV_hid (l : List (List UInt8)) : ∃ V, V = nmV l := ⟨_, rfl⟩
end Go.Proofs.YtinjpobepcenfaaDoor
