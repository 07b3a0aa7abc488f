/-
  The helpers of impl.Divide over numbers of two halves: negated, dividePlain, joined; conditions: those in each head.
-/
import Derived.Test.YtbcbepdfijcbmaaDoorWalkWd
namespace Go.Proofs.YtbcbepdfijcbmaaDoor
open Go.RowKit Go.Sort
set_option linter.unusedVariables false
theorem results_cell_row3 {P : Program} {fn : Func} {p u v : Tmp} {ty : TypeId} (h : fn.results = #[.cell p ty, .tmp u, .tmp v]) (tmps : Array Value) (w : World) (g : Nat) (t : TypeId) (cs : Array Value) (fr : Nat × Nat) (d : TypeDesc)
    (hp : tmps.getD p undef = .pointer (some ⟨g, 0, none⟩)) (hg : w.heap[g]? = some (.cells cs t fr))
    (hu : P.underlying ty = some d) (hd : (match d with | .struct _ | .array _ _ => true | _ => false) = true) (hi : (P.info? ty).map (·.size) = some cs.size) :
    (results fn tmps).run P w = .ok (.tuple #[.agg cs, tmps.getD u undef, tmps.getD v undef]) w := by
  have hp' : tmps[p]?.getD undef = .pointer (some ⟨g, 0, none⟩) := by simpa using hp
  simp [results, h, hp', asAddr, run_loadVar_row w g t ty cs fr d hg hu hd hi]
/-- within divideSigned: what the blocks of x, d and the quotient hold -/
structure DS (w W : World) (a b c d e f : Int) : Prop where
  x : W.heap[w.heap.size]? = some (.cells #[.int .i64 a, .int .i64 b] 82 (0, 0))
  d : W.heap[w.heap.size + 1]? = some (.cells #[.int .i64 c, .int .i64 d] 82 (0, 0))
  q : W.heap[w.heap.size + 1 + 1]? = some (.cells #[.int .i64 e, .int .i64 f] 82 (0, 0))
  be : Below w.heap.size w W
theorem DS.drewN {w W : World} {a b c d e f : Int} (h : DS w W a b c d e f) (n : Nat) : DS w (W.drewN n) a b c d e f := ⟨by simpa using h.x, by simpa using h.d, by simpa using h.q, below_drewN h.be n⟩
theorem DS.call {w W W' : World} {a b c d e f : Int} (h : DS w W a b c d e f) (hb : Below W.heap.size W W') : DS w W' a b c d e f :=
  ⟨(hb.block _ (lt_of_blk h.x)).trans h.x, (hb.block _ (lt_of_blk h.d)).trans h.d, (hb.block _ (lt_of_blk h.q)).trans h.q, h.be.trans (hb.mono h.be.size)⟩
def W2 (W : World) (b : Nat) (p q : Int) : World := (W.setCell ⟨b, 0, none⟩ (.int .i64 p)).setCell ⟨b, 1, none⟩ (.int .i64 q)
theorem W2.row {W : World} {b : Nat} {x y : Int} (h : W.heap[b]? = some (.cells #[.int .i64 x, .int .i64 y] 82 (0, 0))) (p q : Int) : (W2 W b p q).heap[b]? = some (.cells #[.int .i64 p, .int .i64 q] 82 (0, 0)) := by
  simp [W2, World.setCell, Array.getElem?_modify, h]
theorem W2.other (W : World) (b k : Nat) (p q : Int) (hk : k ≠ b) : (W2 W b p q).heap[k]? = W.heap[k]? := by
  unfold W2
  rw [Below.heap_setCell _ _ _ _ (by simpa using hk), Below.heap_setCell _ _ _ _ (by simpa using hk)]
theorem W2.be {w W : World} {B b : Nat} (h : Below B w W) (hb : B ≤ b) (p q : Int) : Below B w (W2 W b p q) := (h.setCell (by simpa using hb) _).setCell (by simpa using hb) _
theorem DS.setX {w W : World} {a b c d e f : Int} (h : DS w W a b c d e f) (p q : Int) : DS w (W2 W w.heap.size p q) p q c d e f :=
  ⟨W2.row h.x p q, (W2.other _ _ _ _ _ (by omega)).trans h.d, (W2.other _ _ _ _ _ (by omega)).trans h.q, W2.be h.be (Nat.le_refl _) _ _⟩
theorem DS.setD {w W : World} {a b c d e f : Int} (h : DS w W a b c d e f) (p q : Int) : DS w (W2 W (w.heap.size + 1) p q) a b p q e f :=
  ⟨(W2.other _ _ _ _ _ (by omega)).trans h.x, W2.row h.d p q, (W2.other _ _ _ _ _ (by omega)).trans h.q, W2.be h.be (by omega) _ _⟩
theorem DS.setQ {w W : World} {a b c d e f : Int} (h : DS w W a b c d e f) (p q : Int) : DS w (W2 W (w.heap.size + 1 + 1) p q) a b c d p q :=
  ⟨(W2.other _ _ _ _ _ (by omega)).trans h.x, (W2.other _ _ _ _ _ (by omega)).trans h.d, W2.row h.q p q, W2.be h.be (by omega) _ _⟩
theorem DS.alloc {w W : World} {a b c d e f : Int} (h : DS w W a b c d e f) (o : Obj) : DS w (W.alloc o) a b c d e f :=
  ⟨(Below.heap_alloc _ _ _ (lt_of_blk h.x)).trans h.x, (Below.heap_alloc _ _ _ (lt_of_blk h.d)).trans h.d, (Below.heap_alloc _ _ _ (lt_of_blk h.q)).trans h.q, h.be.alloc h.be.size _⟩
theorem DS.own {w W : World} {a b c d e f : Int} (h : DS w W a b c d e f) (g : Nat) (hg : w.heap.size + 1 + 1 < g) (p q : Int) : DS w (W2 W g p q) a b c d e f :=
  ⟨(W2.other _ _ _ _ _ (by omega)).trans h.x, (W2.other _ _ _ _ _ (by omega)).trans h.d, (W2.other _ _ _ _ _ (by omega)).trans h.q, W2.be h.be (by omega) _ _⟩
theorem DS.new (w : World) (a b c d : Int) : DS w (((w.alloc (.cells #[.int .i64 a, .int .i64 b] 82)).alloc (.cells #[.int .i64 c, .int .i64 d] 82)).alloc (.cells #[.int .i64 0, .int .i64 0] 82)) a b c d 0 0 := by
  have e1 := heap_alloc_new w (.cells #[.int .i64 a, .int .i64 b] 82)
  have e2 := heap_alloc_new (w.alloc (.cells #[.int .i64 a, .int .i64 b] 82)) (.cells #[.int .i64 c, .int .i64 d] 82)
  have e3 := heap_alloc_new ((w.alloc (.cells #[.int .i64 a, .int .i64 b] 82)).alloc (.cells #[.int .i64 c, .int .i64 d] 82)) (.cells #[.int .i64 0, .int .i64 0] 82)
  have z2 : (w.alloc (.cells #[.int .i64 a, .int .i64 b] 82)).heap.size = w.heap.size + 1 := by simp
  have z3 : ((w.alloc (.cells #[.int .i64 a, .int .i64 b] 82)).alloc (.cells #[.int .i64 c, .int .i64 d] 82)).heap.size = w.heap.size + 1 + 1 := by simp
  rw [z2] at e2; rw [z3] at e3
  exact ⟨(Below.heap_alloc _ _ _ (by simp; omega)).trans ((Below.heap_alloc _ _ _ (by simp)).trans e1), (Below.heap_alloc _ _ _ (by simp)).trans e2, e3, (((Below.refl _ _).alloc (Nat.le_refl _) _).alloc (by simp) _).alloc (by simp; omega) _⟩
theorem row_cells2 {W : World} {b : Nat} {x y : Int} (h : W.heap[b]? = some (.cells #[.int .i64 x, .int .i64 y] 82 (0, 0))) : W.cell? ⟨b, 0, none⟩ = some (.int .i64 x) ∧ W.cell? ⟨b, 1, none⟩ = some (.int .i64 y) ∧ W.frozen? ⟨b, 0, none⟩ = false ∧ W.frozen? ⟨b, 1, none⟩ = false :=
  ⟨cell_of_row _ _ 0 _ _ _ h, cell_of_row _ _ 1 _ _ _ h, by simp [World.frozen?, h], by simp [World.frozen?, h]⟩
set_option maxHeartbeats 1000000 in
theorem negX0 (xh xl : Int) (h : (xl == 0) = true) (w : World) :
    Calls Tryd.prog 84 #[.agg #[.int .i64 xh, .int .i64 xl]] w fun e w' => e = .returned (.agg #[.int .i64 (wrap64 (-xh)), .int .i64 0]) ∧ Below w.heap.size w w' := by
  have hz : (w.alloc (.cells #[.int .i64 xh, .int .i64 xl] 82)).heap.size = w.heap.size + 1 := by simp
  have hy := heap_alloc_new (w.alloc (.cells #[.int .i64 xh, .int .i64 xl] 82)) (.cells #[.int .i64 (wrap64 (-xh)), .int .i64 0] 82)
  rw [hz] at hy
  have HY := Lib.hid hy
  clear hz hy
  go_enter Tryd.func84, Tryd.ntmps84
  go_wp2
  refine bodyPost_ret (v := .agg #[.int .i64 (wrap64 (-xh)), .int .i64 0]) (by exact results_cell_row Tryd.results84 _ _ (w.heap.size + 1) 82 #[.int .i64 (wrap64 (-xh)), .int .i64 0] (0, 0) _ rfl HY.out Tryd.underlying82 rfl (by kernel_rfl)) (by rfl) ⟨rfl, ((Below.refl _ _).alloc (Nat.le_refl _) _).alloc (by simp) _⟩
set_option maxHeartbeats 1000000 in
theorem negX1 (xh xl : Int) (h : (xl == 0) = false) (w : World) :
    Calls Tryd.prog 84 #[.agg #[.int .i64 xh, .int .i64 xl]] w fun e w' => e = .returned (.agg #[.int .i64 (bits .xor .i64 (-1) xh), .int .i64 (wrap64 (-xl))]) ∧ Below w.heap.size w w' := by
  have hz : (w.alloc (.cells #[.int .i64 xh, .int .i64 xl] 82)).heap.size = w.heap.size + 1 := by simp
  have hy := heap_alloc_new (w.alloc (.cells #[.int .i64 xh, .int .i64 xl] 82)) (.cells #[.int .i64 (bits .xor .i64 (-1) xh), .int .i64 (wrap64 (-xl))] 82)
  rw [hz] at hy
  have HY := Lib.hid hy
  clear hz hy
  go_enter Tryd.func84, Tryd.ntmps84
  go_wp2
  refine bodyPost_ret (v := .agg #[.int .i64 (bits .xor .i64 (-1) xh), .int .i64 (wrap64 (-xl))]) (by exact results_cell_row Tryd.results84 _ _ (w.heap.size + 1) 82 #[.int .i64 (bits .xor .i64 (-1) xh), .int .i64 (wrap64 (-xl))] (0, 0) _ rfl HY.out Tryd.underlying82 rfl (by kernel_rfl)) (by rfl) ⟨rfl, ((Below.refl _ _).alloc (Nat.le_refl _) _).alloc (by simp) _⟩
set_option maxHeartbeats 1000000 in
theorem plainX (xh xl dh dl q r k : Int) (h : ∀ w, Calls Tryd.prog 83 #[.int .i64 xh, .int .i64 xl, .int .i64 dl] w fun e w' => e = .returned (.tuple #[.int .i64 q, .int .i64 r, .int .i64 k]) ∧ Below w.heap.size w w') (w : World) :
    Calls Tryd.prog 51 #[.agg #[.int .i64 xh, .int .i64 xl], .agg #[.int .i64 dh, .int .i64 dl]] w fun e w' => e = .returned (.tuple #[.agg #[.int .i64 0, .int .i64 q], .int .i64 r, .int .i64 k]) ∧ Below w.heap.size w w' := by
  have C := Lib.hid h
  clear h
  have D0 := Lib.hid (DS.new w xh xl dh dl)
  go_enter Tryd.func51, Tryd.ntmps51
  go_wp2_with fail
  refine (C.out _).mono ?_
  rintro e w1 ⟨rfl, hb⟩
  have D1 := Lib.hid (D0.out.call hb)
  clear hb D0
  obtain ⟨z0, z1, z2, z3⟩ := row_cells2 D1.out.q
  have G := Lib.hid (D1.out.setQ 0 q)
  go_wp2
  refine bodyPost_ret (v := .tuple #[.agg #[.int .i64 0, .int .i64 q], .int .i64 r, .int .i64 k]) (by exact results_cell_row3 Tryd.results51 _ _ (w.heap.size + 1 + 1) 82 #[.int .i64 0, .int .i64 q] (0, 0) _ rfl G.out.q Tryd.underlying82 rfl (by kernel_rfl)) (by rfl) ⟨rfl, G.out.be⟩
end Go.Proofs.YtbcbepdfijcbmaaDoor
