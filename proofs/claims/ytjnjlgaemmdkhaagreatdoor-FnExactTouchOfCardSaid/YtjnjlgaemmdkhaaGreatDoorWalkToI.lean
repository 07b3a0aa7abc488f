/-
  A block that holds an instruction, and what becomes of it behind stores of its parts; toOperand and toInstr of laws; conditions: those in each head.
-/
import Derived.Test.YtjnjlgaemmdkhaaGreatDoorMathOpd
import Derived.Test.YtjnjlgaemmdkhaaGreatDoorWalkErr
import Derived.WalkKit
import Derived.Below
import Derived.OpenShut
import Derived.Lib.Hide
import Derived.Deep.MidRow
import Derived.Laws.ResultCell
import Derived.Laws.NewBlocks
namespace Go.Proofs.YtjnjlgaemmdkhaaGreatDoor
open Go.RowKit
set_option linter.unusedVariables false
/-- block b holds an instruction -/
def JI (W : World) (b : Nat) (x : Ins) : Prop := W.heap[b]? = some (.cells (insV x) 33 (0, 0))
theorem JI.cell {W : World} {b : Nat} {x : Ins} (h : JI W b x) (i : Nat) : W.cell? ⟨b, i, none⟩ = (insV x)[i]? := cell_of_row W b i _ _ (0, 0) h
theorem JI.free {W : World} {b : Nat} {x : Ins} (h : JI W b x) (i : Nat) : W.frozen? ⟨b, i, none⟩ = false := by unfold JI at h; simp [World.frozen?, h]
theorem JI.set {W : World} {b : Nat} {x y : Ins} (h : JI W b x) (i : Nat) (v : Value) (e : (insV x).setIfInBounds i v = insV y) : JI (W.setCell ⟨b, i, none⟩ v) b y := by
  unfold JI at *
  simp [World.setCell, Array.getElem?_modify, h, e]
theorem JI.dst {W : World} {b : Nat} {x : Ins} (h : JI W b x) (d : Opd) : JI (W.setCells b 4 (opdL d)) b { x with d := d } :=
  ((((((h.set (y := { x with d := { x.d with k := d.k } }) 4 (.int .i64 d.k) rfl).set (y := { x with d := { x.d with k := d.k, r := d.r } }) 5 (.int .i64 d.r) rfl).set (y := { x with d := { x.d with k := d.k, r := d.r, b := d.b } }) 6 (.int .i64 d.b) rfl).set (y := { x with d := { x.d with k := d.k, r := d.r, b := d.b, i := d.i } }) 7 (.int .i64 d.i) rfl).set (y := { x with d := { x.d with k := d.k, r := d.r, b := d.b, i := d.i, s := d.s } }) 8 (.int .i64 d.s) rfl).set (y := { x with d := { x.d with k := d.k, r := d.r, b := d.b, i := d.i, s := d.s, d := d.d } }) 9 (.int .i64 d.d) rfl).set (y := { x with d := d }) 10 (.int .i64 d.m) rfl
theorem JI.src {W : World} {b : Nat} {x : Ins} (h : JI W b x) (s : Opd) : JI (W.setCells b 11 (opdL s)) b { x with s := s } :=
  ((((((h.set (y := { x with s := { x.s with k := s.k } }) 11 (.int .i64 s.k) rfl).set (y := { x with s := { x.s with k := s.k, r := s.r } }) 12 (.int .i64 s.r) rfl).set (y := { x with s := { x.s with k := s.k, r := s.r, b := s.b } }) 13 (.int .i64 s.b) rfl).set (y := { x with s := { x.s with k := s.k, r := s.r, b := s.b, i := s.i } }) 14 (.int .i64 s.i) rfl).set (y := { x with s := { x.s with k := s.k, r := s.r, b := s.b, i := s.i, s := s.s } }) 15 (.int .i64 s.s) rfl).set (y := { x with s := { x.s with k := s.k, r := s.r, b := s.b, i := s.i, s := s.s, d := s.d } }) 16 (.int .i64 s.d) rfl).set (y := { x with s := s }) 17 (.int .i64 s.m) rfl
theorem setCells_ot2 (b k : Nat) (hk : k ≠ b) : ∀ (vs : List Value) (o : Nat) (w : World), (w.setCells b o vs).heap[k]? = w.heap[k]?
  | [], o, w => rfl
  | v :: r, o, w => (setCells_ot2 b k hk r (o + 1) _).trans (Below.heap_setCell _ _ _ _ (by simpa using hk))
theorem below_setCs2 {w W : World} {B g : Nat} (h : Below B w W) (hg : B ≤ g) : ∀ (vs : List Value) (o : Nat), Below B w (W.setCells g o vs) := by
  intro vs
  induction vs generalizing W with
  | nil => intro o; exact h
  | cons v r ih => intro o; exact ih (h.setCell (by show B ≤ g; omega) v) (o + 1)
theorem JI.lt {W : World} {b : Nat} {x : Ins} (h : JI W b x) : b < W.heap.size := lt_of_blk h
theorem JI.there {W : World} {b : Nat} {x : Ins} (h : JI W b x) (o n : Nat) (hn : o + n ≤ 19) : W.there b o n := fun j hj => by
  refine ⟨?_, h.free _⟩
  rw [h.cell, Array.getElem?_eq_getElem (by rw [insV_size]; omega)]; rfl
theorem ins_nest {w W W' : World} (h : Below w.heap.size w W) (h' : Below W.heap.size W W') : Below w.heap.size w W' := h.trans (h'.mono h.size)
set_option maxHeartbeats 1000000 in
theorem toOpdC (o : Opd) (w : World) : Calls Tryz.prog 12 #[.agg #[.int .i64 o.k, .int .i64 o.r, .int .i64 o.b, .int .i64 o.i, .int .i64 o.s, .int .i64 o.d, .int .i64 o.m]] w fun e w' => e = .returned (.agg #[.int .i64 o.k, .int .i64 o.r, .int .i64 o.b, .int .i64 o.i, .int .i64 o.s, .int .i64 o.d, .int .i64 o.m]) ∧ Below w.heap.size w w' := by
  obtain ⟨k, r, b, i, s, d, m⟩ := o
  simp only
  go_enter Tryz.func12, Tryz.ntmps12
  go_wp2
  refine bodyPost_ret (v := .agg #[.int .i64 k, .int .i64 r, .int .i64 b, .int .i64 i, .int .i64 s, .int .i64 d, .int .i64 m]) (by exact results_cell_row Tryz.results12 _ _ (w.heap.size + 1) 31 #[.int .i64 k, .int .i64 r, .int .i64 b, .int .i64 i, .int .i64 s, .int .i64 d, .int .i64 m] (0, 0) _ rfl ((Below.heap_alloc _ _ _ (by simp)).trans (by simpa using heap_alloc_new (w.alloc (.cells #[.int .i64 k, .int .i64 r, .int .i64 b, .int .i64 i, .int .i64 s, .int .i64 d, .int .i64 m] 23)) (.cells #[.int .i64 k, .int .i64 r, .int .i64 b, .int .i64 i, .int .i64 s, .int .i64 d, .int .i64 m] 31))) Tryz.underlying31 rfl (by kernel_rfl)) (by rfl) ⟨rfl, ?_⟩
  exact (((Below.refl _ _).alloc (Nat.le_refl _) _).alloc (by simp) _).alloc (by simp; omega) _
/-- within toInstr: what came in, and what is made of it -/
structure ToI (w W : World) (x y : Ins) : Prop where
  a : W.heap[w.heap.size]? = some (.cells (insV x) 25 (0, 0))
  y : JI W (w.heap.size + 1 + 1) y
  z : W.heap[w.heap.size + 1]? = some (.cells zIns 33 (0, 0))
  be : Below w.heap.size w W
theorem ToI.call {w W W' : World} {x y : Ins} (h : ToI w W x y) (hb : Below W.heap.size W W') : ToI w W' x y :=
  ⟨(hb.block _ (lt_of_blk h.a)).trans h.a, (hb.block _ (lt_of_blk h.y)).trans h.y, (hb.block _ (lt_of_blk h.z)).trans h.z, ins_nest h.be hb⟩
theorem ToI.dst {w W : World} {x y : Ins} (h : ToI w W x y) (d : Opd) : ToI w (W.setCells (w.heap.size + 1 + 1) 4 (opdL d)) x { y with d := d } :=
  ⟨(setCells_ot2 _ _ (by omega) _ _ _).trans h.a, h.y.dst d, (setCells_ot2 _ _ (by omega) _ _ _).trans h.z, below_setCs2 h.be (by omega) _ _⟩
theorem ToI.src {w W : World} {x y : Ins} (h : ToI w W x y) (s : Opd) : ToI w (W.setCells (w.heap.size + 1 + 1) 11 (opdL s)) x { y with s := s } :=
  ⟨(setCells_ot2 _ _ (by omega) _ _ _).trans h.a, h.y.src s, (setCells_ot2 _ _ (by omega) _ _ _).trans h.z, below_setCs2 h.be (by omega) _ _⟩
theorem ToI.len {w W : World} {x y : Ins} (h : ToI w W x y) (n : Int) : ToI w (W.setCell ⟨w.heap.size + 1 + 1, 18, none⟩ (.int .i64 n)) x { y with ln := n } :=
  ⟨(Below.heap_setCell _ _ _ _ (by show w.heap.size ≠ w.heap.size + 1 + 1; omega)).trans h.a, h.y.set 18 _ rfl, (Below.heap_setCell _ _ _ _ (by show w.heap.size + 1 ≠ w.heap.size + 1 + 1; omega)).trans h.z, h.be.setCell (by show w.heap.size ≤ w.heap.size + 1 + 1; omega) _⟩
theorem toI0 (w : World) (x : Ins) : ToI w (((w.alloc (.cells (insV x) 25)).alloc (.cells zIns 33)).alloc (.cells (insV ⟨x.op, x.sz, x.cd, x.fr, noOpd, noOpd, 0⟩) 33)) x ⟨x.op, x.sz, x.cd, x.fr, noOpd, noOpd, 0⟩ := by
  have e1 : (w.alloc (.cells (insV x) 25)).heap.size = w.heap.size + 1 := by simp
  have e2 : ((w.alloc (.cells (insV x) 25)).alloc (.cells zIns 33)).heap.size = w.heap.size + 1 + 1 := by simp
  refine ⟨?_, ?_, ?_, ((((Below.refl _ _).alloc (Nat.le_refl _) _).alloc (by simp) _).alloc (by simp; omega) _)⟩
  · rw [Below.heap_alloc _ _ _ (by rw [e2]; omega), Below.heap_alloc _ _ _ (by rw [e1]; omega)]; exact heap_alloc_new _ _
  · have := heap_alloc_new ((w.alloc (.cells (insV x) 25)).alloc (.cells zIns 33)) (.cells (insV ⟨x.op, x.sz, x.cd, x.fr, noOpd, noOpd, 0⟩) 33)
    rw [e2] at this; exact this
  · rw [Below.heap_alloc _ _ _ (by rw [e2]; omega)]
    have := heap_alloc_new (w.alloc (.cells (insV x) 25)) (.cells zIns 33)
    rw [e1] at this; exact this
theorem ToI.srcAt {w W : World} {x y : Ins} (h : ToI w W x y) : W.rangeAt w.heap.size 11 (opdL x.s) := by
  intro j v hj
  rw [cell_of_row _ _ _ _ _ _ h.a]
  have hl : j < 7 := by
    rcases Nat.lt_or_ge j 7 with h | h
    · exact h
    · rw [List.getElem?_eq_none (by show 7 ≤ j; exact h)] at hj; cases hj
  rcases (by omega : j = 0 ∨ j = 1 ∨ j = 2 ∨ j = 3 ∨ j = 4 ∨ j = 5 ∨ j = 6) with rfl | rfl | rfl | rfl | rfl | rfl | rfl
  all_goals exact hj
end Go.Proofs.YtjnjlgaemmdkhaaGreatDoor
