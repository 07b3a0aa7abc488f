/-
  A block that holds an instruction, and what becomes of it behind stores of its parts; toOperand and toInstr of laws; conditions: those in each head.
-/
import Derived.Test.YtbcbepdfijcbmaaDoorMathOpd
import Derived.Test.YtbcbepdfijcbmaaDoorWalkErr
import Derived.WalkKit
import Derived.Below
import Derived.OpenShut
import Derived.Lib.Hide
import Derived.Deep.MidRow
import Derived.Laws.ResultCell
import Derived.Laws.NewBlocks
namespace Go.Proofs.YtbcbepdfijcbmaaDoor
open Go.RowKit
set_option linter.unusedVariables false
theorem setCells_ot2 (b k : Nat) (hk : k ≠ b) : ∀ (vs : List Value) (o : Nat) (w : World), (w.setCells b o vs).heap[k]? = w.heap[k]?
  | [], o, w => rfl
  | v :: r, o, w => (setCells_ot2 b k hk r (o + 1) _).trans (Below.heap_setCell _ _ _ _ (by simpa using hk))
theorem below_setCs2 {w W : World} {B g : Nat} (h : Below B w W) (hg : B ≤ g) : ∀ (vs : List Value) (o : Nat), Below B w (W.setCells g o vs) := by
  intro vs
  induction vs generalizing W with
  | nil => intro o; exact h
  | cons v r ih => intro o; exact ih (h.setCell (by show B ≤ g; omega) v) (o + 1)
theorem ins_nest {w W W' : World} (h : Below w.heap.size w W) (h' : Below W.heap.size W W') : Below w.heap.size w W' := h.trans (h'.mono h.size)
set_option maxHeartbeats 1000000 in
theorem toOpdC (o : Opd) (w : World) : Calls Tryd.prog 16 #[.agg #[.int .i64 o.k, .int .i64 o.r, .int .i64 o.b, .int .i64 o.i, .int .i64 o.s, .int .i64 o.d, .int .i64 o.m]] w fun e w' => e = .returned (.agg #[.int .i64 o.k, .int .i64 o.r, .int .i64 o.b, .int .i64 o.i, .int .i64 o.s, .int .i64 o.d, .int .i64 o.m]) ∧ Below w.heap.size w w' := by
  obtain ⟨k, r, b, i, s, d, m⟩ := o
  simp only
  go_enter Tryd.func16, Tryd.ntmps16
  go_wp2
  refine bodyPost_ret (v := .agg #[.int .i64 k, .int .i64 r, .int .i64 b, .int .i64 i, .int .i64 s, .int .i64 d, .int .i64 m]) (by exact results_cell_row Tryd.results16 _ _ (w.heap.size + 1) 37 #[.int .i64 k, .int .i64 r, .int .i64 b, .int .i64 i, .int .i64 s, .int .i64 d, .int .i64 m] (0, 0) _ rfl ((Below.heap_alloc _ _ _ (by simp)).trans (by simpa using heap_alloc_new (w.alloc (.cells #[.int .i64 k, .int .i64 r, .int .i64 b, .int .i64 i, .int .i64 s, .int .i64 d, .int .i64 m] 35)) (.cells #[.int .i64 k, .int .i64 r, .int .i64 b, .int .i64 i, .int .i64 s, .int .i64 d, .int .i64 m] 37))) Tryd.underlying37 rfl (by kernel_rfl)) (by rfl) ⟨rfl, ?_⟩
  exact (((Below.refl _ _).alloc (Nat.le_refl _) _).alloc (by simp) _).alloc (by simp; omega) _
end Go.Proofs.YtbcbepdfijcbmaaDoor
