/-
  What impl.shapeIn, impl.firstShape, impl.secondShape, impl.ShapeOf, spec.l03First, spec.l03Second and spec.ShapeOf do: the shape of a byte, changing nothing that was there; condition: the program's table of the first shapes holds what its text lays there.
-/
import Derived.Test.YtinjpobepcenfaaDoorWalkRows
import Derived.Test.YtinjpobepcenfaaDoorWalkTab
namespace Go.Proofs.YtinjpobepcenfaaDoor
open Go.RowKit
/-- block g holds the rows l -/
def Rws (W : World) (g : Nat) (l : List (Int × Int × Shp)) : Prop := ∃ t fr, W.heap[g]? = some (.cells (rowsV l) t fr)
theorem Rws.lt {W : World} {g : Nat} {l : List (Int × Int × Shp)} (h : Rws W g l) : g < W.heap.size := by
  obtain ⟨t, fr, h⟩ := h
  rcases Nat.lt_or_ge g W.heap.size with h' | h'
  · exact h'
  · rw [Array.getElem?_eq_none h'] at h; cases h
theorem Rws.below {W W' : World} {g : Nat} {l : List (Int × Int × Shp)} (h : Rws W g l) (hb : Below W.heap.size W W') : Rws W' g l := by
  have hl := h.lt
  obtain ⟨t, fr, h⟩ := h
  exact ⟨t, fr, (hb.block _ hl).trans h⟩
theorem Rws.cell {W : World} {g : Nat} {l : List (Int × Int × Shp)} (h : Rws W g l) {k : Nat} {x : Int × Int × Shp} (hx : l[k]? = some x) (i : Nat) (hi : i < 7) : W.cell? ⟨g, k * 7 + i, none⟩ = (rowL x)[i]? := by
  obtain ⟨t, fr, h⟩ := h
  rw [cell_of_row W g _ _ t fr h]; exact rowsV_at hx i hi
/-- the result's block, nothing in it yet -/
theorem lt_of_blockR {W : World} {g : Nat} {o : Obj} (h : W.heap[g]? = some o) : g < W.heap.size := (Array.getElem?_eq_some_iff.1 h).1
def Zs (W : World) (b : Nat) : Prop := W.heap[b]? = some (.cells (shpL noShp).toArray 55 (0, 0))
theorem shp_one (s : Shp) : (shpL s).toArray.all (·.oneCell') = true := by kernel_rfl
theorem below_setRow {w W : World} {cs : Array Value} (h : Below w.heap.size w W) : Below w.heap.size w (W.setRow w.heap.size cs) :=
  ⟨h.os, h.tape, h.output, by rw [setRow_size]; exact h.size, fun i hi => by rw [setRow_other _ _ _ _ (by omega)]; exact h.block i hi⟩
theorem below_set {w W : World} (h : Below w.heap.size w W) {g o : Nat} (hg : w.heap.size ≤ g) (v : Value) : Below w.heap.size w (W.setCell ⟨g, o, none⟩ v) := h.setCell hg v
set_option maxHeartbeats 1000000 in
theorem shapeInC (g n cap : Nat) (l : List (Int × Int × Shp)) (b : Int) (w : World) (hl : l.length = n) (hn : n ≤ 1000) (hr : Rws w g l) :
    Calls Tryd.prog 127 #[.slice (some ⟨g, 0, none⟩) n cap, .int .i64 b] w fun e w' => e = .returned (shpV (lookIn l b)) ∧ Below w.heap.size w w' := by
  have HR := Lib.hid hr
  have HL := Lib.hid hl
  have HG := Lib.hid hr.lt
  clear hr hl
  go_enter Tryd.func127, Tryd.ntmps127
  go_wp2
  go_loopw [9] (fun i wr => ∃ k : Nat, k ≤ n ∧ i = .int .i64 k ∧ Hid (lookIn (l.drop k) b = lookIn l b) ∧ Hid (Below w.heap.size w wr) ∧ Hid (Zs wr w.heap.size)) (fun i _ => n - (intOf i).toNat)
  case atStart => exact ⟨0, by omega, rfl, Lib.hid rfl, Lib.hid (by exact (Below.refl _ _).alloc (Nat.le_refl _) _), Lib.hid (heap_alloc_new w _)⟩
  case round =>
    obtain ⟨k, hk, rfl, HK, HB, HZ⟩ := hrel
    have hzs : w.heap.size < wr.heap.size := lt_of_blockR HZ.out
    by_cases hlt : k < n
    · obtain ⟨x, hx⟩ : ∃ x, l[k]? = some x := ⟨_, List.getElem?_eq_getElem (by have := HL.out; omega)⟩
      have HRW := Lib.hid (HR.out.below HB.out)
      obtain ⟨lo, hi, o, f, gr, y, r⟩ := x
      have c0 : wr.cell? ⟨g, k * 7, none⟩ = some (.int .i64 lo) := HRW.out.cell hx 0 (by omega)
      have c1 : wr.cell? ⟨g, k * 7 + 1, none⟩ = some (.int .i64 hi) := HRW.out.cell hx 1 (by omega)
      have c2 : wr.cell? ⟨g, k * 7 + 2, none⟩ = some (.int .i64 o) := HRW.out.cell hx 2 (by omega)
      have c3 : wr.cell? ⟨g, k * 7 + 3, none⟩ = some (.int .i64 f) := HRW.out.cell hx 3 (by omega)
      have c4 : wr.cell? ⟨g, k * 7 + 4, none⟩ = some (.int .i64 gr) := HRW.out.cell hx 4 (by omega)
      have c5 : wr.cell? ⟨g, k * 7 + 5, none⟩ = some (.bool y) := HRW.out.cell hx 5 (by omega)
      have c6 : wr.cell? ⟨g, k * 7 + 6, none⟩ = some (.int .i64 r) := HRW.out.cell hx 6 (by omega)
      have hlt2 : (k : Int) < n := by omega
      by_cases hh : lo ≤ b ∧ b ≤ hi
      · have HE := Lib.hid ((look_hit hx hh).symm.trans HK.out)
        obtain ⟨h1, h2⟩ := hh
        have hg : (wr.alloc (.cells #[.int .i64 lo, .int .i64 hi, .int .i64 o, .int .i64 f, .int .i64 gr, .bool y, .int .i64 r] 120)).heap[w.heap.size]? = some (.cells (shpL noShp).toArray 55 (0, 0)) := (Below.heap_alloc _ _ _ hzs).trans HZ.out
        have HG2 := Lib.hid hg
        clear hx hg
        go_wp2_with (refine wpList_store_row rfl 55 (.tmp 4) (.tmp 24) rfl w.heap.size (shpL ⟨o, f, gr, y, r⟩).toArray rfl rfl 55 _ HG2.out (by kernel_rfl) rfl (shp_one _) ?_)
        refine bodyPost_ret (v := .agg (shpL ⟨o, f, gr, y, r⟩).toArray) (by exact results_cell_row Tryd.results127 _ _ w.heap.size 55 (shpL ⟨o, f, gr, y, r⟩).toArray (0, 0) _ rfl (setRow_heap _ _ _ _ _ _ HG2.out) Tryd.underlying55 rfl (by kernel_rfl)) (by rfl) ⟨?_, ?_⟩
        · rw [← HE.out]; rfl
        · exact below_setRow (HB.out.alloc HB.out.size _)
      · have HE := Lib.hid ((look_skip hx hh).symm.trans HK.out)
        have HZ2 : Hid (Zs (wr.alloc (.cells #[.int .i64 lo, .int .i64 hi, .int .i64 o, .int .i64 f, .int .i64 gr, .bool y, .int .i64 r] 120)) w.heap.size) := Lib.hid ((Below.heap_alloc _ _ _ hzs).trans HZ.out)
        have HB2 : Hid (Below w.heap.size w (wr.alloc (.cells #[.int .i64 lo, .int .i64 hi, .int .i64 o, .int .i64 f, .int .i64 gr, .bool y, .int .i64 r] 120))) := Lib.hid (HB.out.alloc HB.out.size _)
        by_cases h1 : lo ≤ b
        · have h2 : decide (b ≤ hi) = false := decide_eq_false (fun h => hh ⟨h1, h⟩)
          clear hx hh
          go_wp2
          go_roundw
          case rel => exact ⟨k + 1, by omega, by go_num, HE, HB2, HZ2⟩
          case measure => simp [intOf]; omega
        · have h2 : decide (lo ≤ b) = false := decide_eq_false h1
          clear hx hh h1
          go_wp2
          go_roundw
          case rel => exact ⟨k + 1, by omega, by go_num, HE, HB2, HZ2⟩
          case measure => simp [intOf]; omega
    · obtain rfl : k = n := by omega
      have HE : Hid (noShp = lookIn l b) := Lib.hid (by rw [← HK.out, ← HL.out]; exact (look_end l b).symm)
      go_wp2_with (refine wpList_store_row rfl 55 (.tmp 4) (.tmp 26) rfl w.heap.size (shpL noShp).toArray rfl rfl 55 _ HZ.out (by kernel_rfl) rfl (shp_one _) ?_)
      refine bodyPost_ret (v := .agg (shpL noShp).toArray) (by exact results_cell_row Tryd.results127 _ _ w.heap.size 55 (shpL noShp).toArray (0, 0) _ rfl (setRow_heap _ _ _ _ _ _ HZ.out) Tryd.underlying55 rfl (by kernel_rfl)) (by rfl) ⟨?_, ?_⟩
      · rw [← HE.out]; rfl
      · exact below_setRow HB.out
end Go.Proofs.YtinjpobepcenfaaDoor
