/-
  What sizeAt of laws does: one of the four sizes; conditions: the bytes can be read.
-/
import Derived.Test.YtbcbepdfijcbmaaDoorLawAt
import Derived.Test.YtbcbepdfijcbmaaDoorWalkSign
import Derived.Laws.Tables
import Derived.Laws.NewBlocks
namespace Go.Proofs.YtbcbepdfijcbmaaDoor
open Go.RowKit
set_option linter.unusedVariables false
def SizeOut (w : World) (e : Ending) (w' : World) : Prop := ∃ size : Nat, okSize (size : Int) ∧ e = .returned (.int .i64 (size : Int)) ∧ Below w.heap.size w w'
def sizesV : Array Value := #[.int .i64 1, .int .i64 2, .int .i64 4, .int .i64 8]
theorem sizes_at : ∀ i : Nat, i < 4 → ∃ size : Nat, sizesV[i]? = some (.int .i64 (size : Int)) ∧ okSize (size : Int)
  | 0, _ => ⟨1, rfl, .inl rfl⟩ | 1, _ => ⟨2, rfl, .inr (.inl rfl)⟩ | 2, _ => ⟨4, rfl, .inr (.inr (.inl rfl))⟩ | 3, _ => ⟨8, rfl, .inr (.inr (.inr rfl))⟩
  | n + 4, h => by omega
set_option maxHeartbeats 400000 in
theorem lawSizeAt (i len cap : Nat) (A : Option Addr) (w : World) (hr : Rdb w w.heap.size A len) (hl : len ≤ 140737488355328) (hi : i ≤ 1000000) :
    Calls Tryd.prog 20 #[.slice A len cap, .int .i64 (i : Int)] w (SizeOut w) := by
  have hat : ∀ w, Rdb w w.heap.size A len → Calls Tryd.prog 21 #[.slice A len cap, .int .i64 (i : Int), .int .i64 4] w (IntIn 0 3 w.heap.size w) := fun w hr => lawAt i 4 len cap A w hr hl hi (by omega) (by omega)
  have HAT := Lib.hid hat
  have HR := Lib.hid hr
  clear hat hr
  go_enter Tryd.func20, Tryd.ntmps20
  go_wp2_with fail
  refine (HAT.out _ ((HR.out.alloc (Nat.le_refl _) _).more (by simp))).mono ?_
  rintro e w1 ⟨r, r0, r1, rfl, hb⟩
  obtain ⟨k, rfl⟩ := Int.eq_ofNat_of_zero_le r0
  obtain ⟨size, hv, hok⟩ := sizes_at k (by omega)
  have hc : w1.cell? ⟨w.heap.size, k, none⟩ = some (.int .i64 (size : Int)) := by
    rw [hb.cell (p := ⟨w.heap.size, k, none⟩) (by simp), blk_cell (heap_alloc_new w _) k]; exact hv
  have HOK := Lib.hid hok
  have hk4 : (k : Int) < 4 := by omega
  clear hv hok
  go_wp2
  go_ret
  exact ⟨size, HOK.out, rfl, ((Below.refl _ _).alloc (Nat.le_refl _) _).trans (hb.mono (by simp))⟩
end Go.Proofs.YtbcbepdfijcbmaaDoor
