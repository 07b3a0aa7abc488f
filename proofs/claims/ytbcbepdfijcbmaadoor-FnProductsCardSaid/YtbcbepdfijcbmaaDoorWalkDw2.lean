/-
  impl.joined: the number of two halves; conditions: those in each head.
-/
import Derived.Test.YtbcbepdfijcbmaaDoorWalkDw
import Derived.Deep.RegionHeld3
namespace Go.Proofs.YtbcbepdfijcbmaaDoor
open Go.RowKit Go.Sort
set_option linter.unusedVariables false
/-- block b of W holds two numbers, and W is what w became above B -/
def JR (B b : Nat) (w W : World) : Prop := (∃ x y : Int, W.heap[b]? = some (.cells #[.int .i64 x, .int .i64 y] 82 (0, 0))) ∧ Below B w W
theorem JR.drew {B b : Nat} {w W : World} (h : JR B b w W) : JR B b w W.drew := ⟨h.1, h.2.drew⟩
theorem JR.grown {B b : Nat} {w W W' : World} (h : JR B b w W) (hB : B ≤ W.heap.size) (hg : ∃ q os, W' = grow (W.drewN q) os) : JR B b w W' := by
  obtain ⟨q, os, rfl⟩ := hg
  obtain ⟨⟨x, y, hx⟩, hb⟩ := h
  exact ⟨⟨x, y, ((grownB q os).block _ (lt_of_blk hx)).trans hx⟩, hb.trans ((grownB q os).mono hB)⟩
theorem JR.grown' {b : Nat} {w W W' : World} (h : JR w.heap.size b w W) (hg : ∃ q os, W' = grow (W.drewN q) os) : JR w.heap.size b w W' := h.grown (h.2.size) hg
theorem JR.store {B b : Nat} {w W : World} (h : JR B b w W) (p q : Int) : (Instr.storeAt 82 (.pointer (some ⟨b, 0, none⟩)) (.agg #[.int .i64 p, .int .i64 q])).run Tryd.prog W = .ok () (W.setRow b #[.int .i64 p, .int .i64 q]) := by
  obtain ⟨⟨x, y, hx⟩, _⟩ := h
  simp only [Instr.storeAt, Instr.sureAddr, Sem.run_bind, Sem.run_pure, Result.andThen_ok]
  exact run_storeVar_row W b 82 82 _ _ hx (by kernel_rfl) rfl (by kernel_rfl)
theorem JR.row {B b : Nat} {w W : World} (h : JR B b w W) (hB : B ≤ b) (p q : Int) : JR B b w (W.setRow b #[.int .i64 p, .int .i64 q]) := by
  obtain ⟨⟨x, y, hx⟩, hb⟩ := h
  exact ⟨⟨p, q, setRow_heap _ _ _ _ _ _ hx⟩, Go.below_setRow hb hB _⟩
set_option maxHeartbeats 1000000 in
theorem joinX8 (h l : Int) (b : Bool) (w : World) :
    Calls Tryd.prog 54 #[.int .i64 h, .int .i64 l, .int .i64 8, .bool b] w fun e w' => e = .returned (.agg #[.int .i64 h, .int .i64 l]) ∧ Below w.heap.size w w' := by
  go_enter Tryd.func54, Tryd.ntmps54
  go_wp2
  refine bodyPost_ret (v := .agg #[.int .i64 h, .int .i64 l]) (by exact results_cell_row Tryd.results54 _ _ w.heap.size 82 #[.int .i64 h, .int .i64 l] (0, 0) _ rfl (heap_alloc_new w _) Tryd.underlying82 rfl (by kernel_rfl)) (by rfl) ⟨rfl, (Below.refl _ _).alloc (Nat.le_refl _) _⟩
attribute [-go_sem] Instr.storeAt
set_option maxHeartbeats 1000000 in
set_option maxRecDepth 100000 in
theorem joinX1 (h l x y v p q : Int) (b : Bool) (hv : bits .or .i64 (wrap64 (h * 256)) y = v)
    (hL : ∀ w, Calls Tryd.prog 55 #[.int .i64 l, .int .i64 1, .bool false] w fun e w' => e = .returned (.agg #[.int .i64 x, .int .i64 y]) ∧ ∃ q os, w' = grow (w.drewN q) os)
    (hV : ∀ w, Calls Tryd.prog 55 #[.int .i64 v, .int .i64 2, .bool b] w fun e w' => e = .returned (.agg #[.int .i64 p, .int .i64 q]) ∧ ∃ q os, w' = grow (w.drewN q) os) (w : World) :
    Calls Tryd.prog 54 #[.int .i64 h, .int .i64 l, .int .i64 1, .bool b] w fun e w' => e = .returned (.agg #[.int .i64 p, .int .i64 q]) ∧ Below w.heap.size w w' := by
  have CL := Lib.hid hL; have CV := Lib.hid hV
  have hfd := runField
  have j0 : JR w.heap.size w.heap.size w (w.alloc (.cells #[.int .i64 0, .int .i64 0] 82)) := ⟨⟨0, 0, heap_alloc_new w _⟩, (Below.refl _ _).alloc (Nat.le_refl _) _⟩
  have HSt : ∀ (u : World) (p q : Int), JR w.heap.size w.heap.size w u → (Instr.storeAt 82 (.pointer (some ⟨w.heap.size, 0, none⟩)) (.agg #[.int .i64 p, .int .i64 q])).run Tryd.prog u = .ok () (u.setRow w.heap.size #[.int .i64 p, .int .i64 q]) := fun u p q h => h.store p q
  have HR : ∀ (u : World) (p q : Int), JR w.heap.size w.heap.size w u → JR w.heap.size w.heap.size w (u.setRow w.heap.size #[.int .i64 p, .int .i64 q]) := fun u p q h => h.row (Nat.le_refl _) p q
  clear hL hV
  have w8 : IntKind.i64.wrap 8 = 8 := by decide
  have w2 : IntKind.i64.wrap 2 = 2 := by decide
  have hv' : bits .or .i64 (IntKind.i64.wrap (h * 256)) y = v := by rw [IntWalk.i64_left]; exact hv
  go_enter Tryd.func54, Tryd.ntmps54
  go_wp2
  go_region_held3 (fun w' => JR w.heap.size w.heap.size w w') (first | assumption | (exact JR.drew (by assumption)) | (exact HR _ _ _ (by assumption)) | (exact JR.drew (HR _ _ _ (by assumption)))) (first | (go_at_call 55; (with_reducible refine Calls.mono (CL.out _) ?_); rintro e w1 ⟨rfl, h1⟩; have j1 := JR.grown' (by assumption) h1; clear h1) | (go_at_call 55; (with_reducible refine Calls.mono (CV.out _) ?_); rintro e w1 ⟨rfl, h1⟩; have j1 := JR.grown' (by assumption) h1; clear h1))
  obtain ⟨x0, y0, hx0⟩ := j1.1
  have hy : (w1.setRow w.heap.size #[.int .i64 p, .int .i64 q]).heap[w.heap.size]? = some (.cells #[.int .i64 p, .int .i64 q] 82 (0, 0)) := setRow_heap _ _ _ _ _ _ hx0
  have hb := HR _ p q j1
  clear j1 hx0 HR HSt CL CV
  go_wp2
  refine bodyPost_ret (v := .agg #[.int .i64 p, .int .i64 q]) (by exact results_cell_row Tryd.results54 _ _ w.heap.size 82 #[.int .i64 p, .int .i64 q] (0, 0) _ rfl hy Tryd.underlying82 rfl (by kernel_rfl)) (by rfl) ⟨rfl, hb.2⟩
set_option maxHeartbeats 1000000 in
set_option maxRecDepth 100000 in
theorem joinX2 (h l x y v p q : Int) (b : Bool) (hv : bits .or .i64 (wrap64 (h * 65536)) y = v)
    (hL : ∀ w, Calls Tryd.prog 55 #[.int .i64 l, .int .i64 2, .bool false] w fun e w' => e = .returned (.agg #[.int .i64 x, .int .i64 y]) ∧ ∃ q os, w' = grow (w.drewN q) os)
    (hV : ∀ w, Calls Tryd.prog 55 #[.int .i64 v, .int .i64 4, .bool b] w fun e w' => e = .returned (.agg #[.int .i64 p, .int .i64 q]) ∧ ∃ q os, w' = grow (w.drewN q) os) (w : World) :
    Calls Tryd.prog 54 #[.int .i64 h, .int .i64 l, .int .i64 2, .bool b] w fun e w' => e = .returned (.agg #[.int .i64 p, .int .i64 q]) ∧ Below w.heap.size w w' := by
  have CL := Lib.hid hL; have CV := Lib.hid hV
  have hfd := runField
  have j0 : JR w.heap.size w.heap.size w (w.alloc (.cells #[.int .i64 0, .int .i64 0] 82)) := ⟨⟨0, 0, heap_alloc_new w _⟩, (Below.refl _ _).alloc (Nat.le_refl _) _⟩
  have HSt : ∀ (u : World) (p q : Int), JR w.heap.size w.heap.size w u → (Instr.storeAt 82 (.pointer (some ⟨w.heap.size, 0, none⟩)) (.agg #[.int .i64 p, .int .i64 q])).run Tryd.prog u = .ok () (u.setRow w.heap.size #[.int .i64 p, .int .i64 q]) := fun u p q h => h.store p q
  have HR : ∀ (u : World) (p q : Int), JR w.heap.size w.heap.size w u → JR w.heap.size w.heap.size w (u.setRow w.heap.size #[.int .i64 p, .int .i64 q]) := fun u p q h => h.row (Nat.le_refl _) p q
  clear hL hV
  have w8 : IntKind.i64.wrap 16 = 16 := by decide
  have w2 : IntKind.i64.wrap 4 = 4 := by decide
  have hv' : bits .or .i64 (IntKind.i64.wrap (h * 65536)) y = v := by rw [IntWalk.i64_left]; exact hv
  go_enter Tryd.func54, Tryd.ntmps54
  go_wp2
  go_region_held3 (fun w' => JR w.heap.size w.heap.size w w') (first | assumption | (exact JR.drew (by assumption)) | (exact HR _ _ _ (by assumption)) | (exact JR.drew (HR _ _ _ (by assumption)))) (first | (go_at_call 55; (with_reducible refine Calls.mono (CL.out _) ?_); rintro e w1 ⟨rfl, h1⟩; have j1 := JR.grown' (by assumption) h1; clear h1) | (go_at_call 55; (with_reducible refine Calls.mono (CV.out _) ?_); rintro e w1 ⟨rfl, h1⟩; have j1 := JR.grown' (by assumption) h1; clear h1))
  obtain ⟨x0, y0, hx0⟩ := j1.1
  have hy : (w1.setRow w.heap.size #[.int .i64 p, .int .i64 q]).heap[w.heap.size]? = some (.cells #[.int .i64 p, .int .i64 q] 82 (0, 0)) := setRow_heap _ _ _ _ _ _ hx0
  have hb := HR _ p q j1
  clear j1 hx0 HR HSt CL CV
  go_wp2
  refine bodyPost_ret (v := .agg #[.int .i64 p, .int .i64 q]) (by exact results_cell_row Tryd.results54 _ _ w.heap.size 82 #[.int .i64 p, .int .i64 q] (0, 0) _ rfl hy Tryd.underlying82 rfl (by kernel_rfl)) (by rfl) ⟨rfl, hb.2⟩
set_option maxHeartbeats 1000000 in
set_option maxRecDepth 100000 in
theorem joinX4 (h l x y v p q : Int) (b : Bool) (hv : bits .or .i64 (wrap64 (h * 4294967296)) y = v)
    (hL : ∀ w, Calls Tryd.prog 55 #[.int .i64 l, .int .i64 4, .bool false] w fun e w' => e = .returned (.agg #[.int .i64 x, .int .i64 y]) ∧ ∃ q os, w' = grow (w.drewN q) os)
    (hV : ∀ w, Calls Tryd.prog 55 #[.int .i64 v, .int .i64 8, .bool b] w fun e w' => e = .returned (.agg #[.int .i64 p, .int .i64 q]) ∧ ∃ q os, w' = grow (w.drewN q) os) (w : World) :
    Calls Tryd.prog 54 #[.int .i64 h, .int .i64 l, .int .i64 4, .bool b] w fun e w' => e = .returned (.agg #[.int .i64 p, .int .i64 q]) ∧ Below w.heap.size w w' := by
  have CL := Lib.hid hL; have CV := Lib.hid hV
  have hfd := runField
  have j0 : JR w.heap.size w.heap.size w (w.alloc (.cells #[.int .i64 0, .int .i64 0] 82)) := ⟨⟨0, 0, heap_alloc_new w _⟩, (Below.refl _ _).alloc (Nat.le_refl _) _⟩
  have HSt : ∀ (u : World) (p q : Int), JR w.heap.size w.heap.size w u → (Instr.storeAt 82 (.pointer (some ⟨w.heap.size, 0, none⟩)) (.agg #[.int .i64 p, .int .i64 q])).run Tryd.prog u = .ok () (u.setRow w.heap.size #[.int .i64 p, .int .i64 q]) := fun u p q h => h.store p q
  have HR : ∀ (u : World) (p q : Int), JR w.heap.size w.heap.size w u → JR w.heap.size w.heap.size w (u.setRow w.heap.size #[.int .i64 p, .int .i64 q]) := fun u p q h => h.row (Nat.le_refl _) p q
  clear hL hV
  have w8 : IntKind.i64.wrap 32 = 32 := by decide
  have w2 : IntKind.i64.wrap 8 = 8 := by decide
  have hv' : bits .or .i64 (IntKind.i64.wrap (h * 4294967296)) y = v := by rw [IntWalk.i64_left]; exact hv
  go_enter Tryd.func54, Tryd.ntmps54
  go_wp2
  go_region_held3 (fun w' => JR w.heap.size w.heap.size w w') (first | assumption | (exact JR.drew (by assumption)) | (exact HR _ _ _ (by assumption)) | (exact JR.drew (HR _ _ _ (by assumption)))) (first | (go_at_call 55; (with_reducible refine Calls.mono (CL.out _) ?_); rintro e w1 ⟨rfl, h1⟩; have j1 := JR.grown' (by assumption) h1; clear h1) | (go_at_call 55; (with_reducible refine Calls.mono (CV.out _) ?_); rintro e w1 ⟨rfl, h1⟩; have j1 := JR.grown' (by assumption) h1; clear h1))
  obtain ⟨x0, y0, hx0⟩ := j1.1
  have hy : (w1.setRow w.heap.size #[.int .i64 p, .int .i64 q]).heap[w.heap.size]? = some (.cells #[.int .i64 p, .int .i64 q] 82 (0, 0)) := setRow_heap _ _ _ _ _ _ hx0
  have hb := HR _ p q j1
  clear j1 hx0 HR HSt CL CV
  go_wp2
  refine bodyPost_ret (v := .agg #[.int .i64 p, .int .i64 q]) (by exact results_cell_row Tryd.results54 _ _ w.heap.size 82 #[.int .i64 p, .int .i64 q] (0, 0) _ rfl hy Tryd.underlying82 rfl (by kernel_rfl)) (by rfl) ⟨rfl, hb.2⟩
end Go.Proofs.YtbcbepdfijcbmaaDoor
