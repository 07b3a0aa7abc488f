/-
  What impl.firstShape, impl.secondShape and impl.ShapeOf do: the shape of a byte, changing nothing that was there; condition: the program's table of the first shapes holds what its text lays there.
-/
import Derived.Test.YtinjpobepcenfaaDoorWalkShape
namespace Go.Proofs.YtinjpobepcenfaaDoor
open Go.RowKit
/-- block g holds the first shapes -/
def Ari (W : World) (g : Nat) : Prop := ∃ cs t fr, W.heap[g]? = some (.cells cs t fr) ∧ ∀ i, i < 6 → ∀ j, j < 5 → cs[i * 5 + j]? = (shpL (arithAt i))[j]?
theorem Ari.lt {W : World} {g : Nat} (h : Ari W g) : g < W.heap.size := by
  obtain ⟨cs, t, fr, h, _⟩ := h
  exact lt_of_blockR h
theorem Ari.below {W W' : World} {g : Nat} (h : Ari W g) (hb : Below W.heap.size W W') : Ari W' g := by
  have hl := h.lt
  obtain ⟨cs, t, fr, h, h2⟩ := h
  exact ⟨cs, t, fr, (hb.block _ hl).trans h, h2⟩
theorem Ari.cell {W : World} {g : Nat} (h : Ari W g) (i j : Nat) (hi : i < 6) (hj : j < 5) : W.cell? ⟨g, i * 5 + j, none⟩ = (shpL (arithAt i))[j]? := by
  obtain ⟨cs, t, fr, h, h2⟩ := h
  rw [cell_of_row W g _ _ t fr h]; exact h2 i hi j hj
set_option maxHeartbeats 2000000 in
theorem secondShapeC (b : Int) (w : World) : Calls Tryd.prog 118 #[.int .i64 b] w fun e w' => e = .returned (shpV (lookIn rows2 b)) ∧ Below w.heap.size w w' := by
  have bz : Below w.heap.size w (w.alloc (.cells (shpL noShp).toArray 55)) := (Below.refl _ _).alloc (Nat.le_refl _) _
  go_enter Tryd.func118, Tryd.ntmps118
  go_wp2_with fail
  refine (secondRowsC _).mono ?_
  rintro e w1 ⟨rfl, hb1⟩
  have HB1 : Hid (Below w.heap.size w w1) := Lib.hid (bz.trans (hb1.mono bz.size))
  have HZ1 : Hid (Zs w1 w.heap.size) := Lib.hid ((hb1.block _ (by simp)).trans (heap_alloc_new w _))
  clear hb1 bz
  obtain ⟨W, hW⟩ : ∃ W, W = (w1.alloc (.cells (rowsV (List.replicate 9 (0, 0, noShp))) 125)).setRow w1.heap.size (rowsV rows2) := ⟨_, rfl⟩
  have HRW : Hid (Rws W w1.heap.size rows2) := Lib.hid ⟨_, _, by rw [hW]; exact setRow_heap _ _ _ _ _ _ (heap_alloc_new w1 _)⟩
  have HB2 : Hid (Below w.heap.size w W) := Lib.hid (by rw [hW]; exact HB1.out.trans ((below_row w1 _ _).mono HB1.out.size))
  have HZ2 : Hid (Zs W w.heap.size) := Lib.hid (by
    have h1 := lt_of_blockR HZ1.out
    rw [hW]; exact (setRow_other _ _ _ _ (by omega)).trans ((Below.heap_alloc _ _ _ h1).trans HZ1.out))
  have HW := Lib.hid hW
  clear hW
  go_wp2_with (first | (refine Go.Great.wpList_allocTo rfl (some 3) rfl (.pointer (some ⟨w1.heap.size, 0, none⟩)) (.cells (rowsV (List.replicate 9 (0, 0, noShp))) 125) (by kernel_rfl) ?_) | (refine wpList_store_row rfl 125 (.tmp 3) (.tmp 4) rfl w1.heap.size (rowsV rows2) rfl rfl 125 _ (heap_alloc_new w1 _) (by kernel_rfl) (by kernel_rfl) (by kernel_rfl) ?_; rw [← HW.out]))
  refine (shapeInC w1.heap.size 9 9 rows2 b W rfl (by omega) HRW.out).mono ?_
  rintro e w3 ⟨rfl, hb3⟩
  have HB3 : Hid (Below w.heap.size w w3) := Lib.hid (HB2.out.trans (hb3.mono HB2.out.size))
  have HZ3 : Hid (Zs w3 w.heap.size) := Lib.hid ((hb3.block _ (lt_of_blockR HZ2.out)).trans HZ2.out)
  clear hb3
  obtain ⟨s, hs⟩ : ∃ s, s = lookIn rows2 b := ⟨_, rfl⟩
  rw [← hs]
  have HS := Lib.hid hs
  clear hs
  go_wp2_with (refine wpList_store_row rfl 55 (.tmp 2) (.tmp 7) rfl w.heap.size (shpL s).toArray rfl rfl 55 _ HZ3.out (by kernel_rfl) rfl (shp_one _) ?_)
  refine bodyPost_ret (v := .agg (shpL s).toArray) (by exact results_cell_row Tryd.results118 _ _ w.heap.size 55 (shpL s).toArray (0, 0) _ rfl (setRow_heap _ _ _ _ _ _ HZ3.out) Tryd.underlying55 rfl (by kernel_rfl)) (by rfl) ⟨?_, below_setRow HB3.out⟩
  rw [← HS.out]; rfl
set_option maxHeartbeats 2000000 in
theorem firstShapeR (b : Int) (w : World) (h : decide (b < 64) = false ∨ decide (b.tmod 8 < 6) = false) : Calls Tryd.prog 117 #[.int .i64 b] w fun e w' => e = .returned (shpV (lookIn rows1 b)) ∧ Below w.heap.size w w' := by
  have bz : Below w.heap.size w (w.alloc (.cells (shpL noShp).toArray 55)) := (Below.refl _ _).alloc (Nat.le_refl _) _
  by_cases h1 : b < 64
  · have h2 : decide (b.tmod 8 < 6) = false := by rcases h with h | h; exact absurd h1 (of_decide_eq_false h); exact h
    clear h
    go_enter Tryd.func117, Tryd.ntmps117
    go_wp2_with fail
    refine (firstRowsC _).mono ?_
    rintro e w1 ⟨rfl, hb1⟩
    have HB1 : Hid (Below w.heap.size w w1) := Lib.hid (bz.trans (hb1.mono bz.size))
    have HZ1 : Hid (Zs w1 w.heap.size) := Lib.hid ((hb1.block _ (by simp)).trans (heap_alloc_new w _))
    clear hb1 bz
    obtain ⟨W, hW⟩ : ∃ W, W = (w1.alloc (.cells (rowsV (List.replicate 46 (0, 0, noShp))) 121)).setRow w1.heap.size (rowsV rows1) := ⟨_, rfl⟩
    have HRW : Hid (Rws W w1.heap.size rows1) := Lib.hid ⟨_, _, by rw [hW]; exact setRow_heap _ _ _ _ _ _ (heap_alloc_new w1 _)⟩
    have HB2 : Hid (Below w.heap.size w W) := Lib.hid (by rw [hW]; exact HB1.out.trans ((below_row w1 _ _).mono HB1.out.size))
    have HZ2 : Hid (Zs W w.heap.size) := Lib.hid (by
      have h1 := lt_of_blockR HZ1.out
      rw [hW]; exact (setRow_other _ _ _ _ (by omega)).trans ((Below.heap_alloc _ _ _ h1).trans HZ1.out))
    have HW := Lib.hid hW
    clear hW
    go_wp2_with (first | (refine Go.Great.wpList_allocTo rfl (some 4) rfl (.pointer (some ⟨w1.heap.size, 0, none⟩)) (.cells (rowsV (List.replicate 46 (0, 0, noShp))) 121) (by kernel_rfl) ?_) | (refine wpList_store_row rfl 121 (.tmp 4) (.tmp 21) rfl w1.heap.size (rowsV rows1) rfl rfl 121 _ (heap_alloc_new w1 _) (by kernel_rfl) (by kernel_rfl) (by kernel_rfl) ?_; rw [← HW.out]))
    refine (shapeInC w1.heap.size 46 46 rows1 b W rfl (by omega) HRW.out).mono ?_
    rintro e w3 ⟨rfl, hb3⟩
    have HB3 : Hid (Below w.heap.size w w3) := Lib.hid (HB2.out.trans (hb3.mono HB2.out.size))
    have HZ3 : Hid (Zs w3 w.heap.size) := Lib.hid ((hb3.block _ (lt_of_blockR HZ2.out)).trans HZ2.out)
    clear hb3
    obtain ⟨s, hs⟩ : ∃ s, s = lookIn rows1 b := ⟨_, rfl⟩
    rw [← hs]
    have HS := Lib.hid hs
    clear hs
    go_wp2_with (refine wpList_store_row rfl 55 (.tmp 2) (.tmp 24) rfl w.heap.size (shpL s).toArray rfl rfl 55 _ HZ3.out (by kernel_rfl) rfl (shp_one _) ?_)
    refine bodyPost_ret (v := .agg (shpL s).toArray) (by exact results_cell_row Tryd.results117 _ _ w.heap.size 55 (shpL s).toArray (0, 0) _ rfl (setRow_heap _ _ _ _ _ _ HZ3.out) Tryd.underlying55 rfl (by kernel_rfl)) (by rfl) ⟨?_, below_setRow HB3.out⟩
    rw [← HS.out]; rfl
  · have h2 : decide (b < 64) = false := decide_eq_false h1
    clear h h1
    go_enter Tryd.func117, Tryd.ntmps117
    go_wp2_with fail
    refine (firstRowsC _).mono ?_
    rintro e w1 ⟨rfl, hb1⟩
    have HB1 : Hid (Below w.heap.size w w1) := Lib.hid (bz.trans (hb1.mono bz.size))
    have HZ1 : Hid (Zs w1 w.heap.size) := Lib.hid ((hb1.block _ (by simp)).trans (heap_alloc_new w _))
    clear hb1 bz
    obtain ⟨W, hW⟩ : ∃ W, W = (w1.alloc (.cells (rowsV (List.replicate 46 (0, 0, noShp))) 121)).setRow w1.heap.size (rowsV rows1) := ⟨_, rfl⟩
    have HRW : Hid (Rws W w1.heap.size rows1) := Lib.hid ⟨_, _, by rw [hW]; exact setRow_heap _ _ _ _ _ _ (heap_alloc_new w1 _)⟩
    have HB2 : Hid (Below w.heap.size w W) := Lib.hid (by rw [hW]; exact HB1.out.trans ((below_row w1 _ _).mono HB1.out.size))
    have HZ2 : Hid (Zs W w.heap.size) := Lib.hid (by
      have h1 := lt_of_blockR HZ1.out
      rw [hW]; exact (setRow_other _ _ _ _ (by omega)).trans ((Below.heap_alloc _ _ _ h1).trans HZ1.out))
    have HW := Lib.hid hW
    clear hW
    go_wp2_with (first | (refine Go.Great.wpList_allocTo rfl (some 4) rfl (.pointer (some ⟨w1.heap.size, 0, none⟩)) (.cells (rowsV (List.replicate 46 (0, 0, noShp))) 121) (by kernel_rfl) ?_) | (refine wpList_store_row rfl 121 (.tmp 4) (.tmp 21) rfl w1.heap.size (rowsV rows1) rfl rfl 121 _ (heap_alloc_new w1 _) (by kernel_rfl) (by kernel_rfl) (by kernel_rfl) ?_; rw [← HW.out]))
    refine (shapeInC w1.heap.size 46 46 rows1 b W rfl (by omega) HRW.out).mono ?_
    rintro e w3 ⟨rfl, hb3⟩
    have HB3 : Hid (Below w.heap.size w w3) := Lib.hid (HB2.out.trans (hb3.mono HB2.out.size))
    have HZ3 : Hid (Zs w3 w.heap.size) := Lib.hid ((hb3.block _ (lt_of_blockR HZ2.out)).trans HZ2.out)
    clear hb3
    obtain ⟨s, hs⟩ : ∃ s, s = lookIn rows1 b := ⟨_, rfl⟩
    rw [← hs]
    have HS := Lib.hid hs
    clear hs
    go_wp2_with (refine wpList_store_row rfl 55 (.tmp 2) (.tmp 24) rfl w.heap.size (shpL s).toArray rfl rfl 55 _ HZ3.out (by kernel_rfl) rfl (shp_one _) ?_)
    refine bodyPost_ret (v := .agg (shpL s).toArray) (by exact results_cell_row Tryd.results117 _ _ w.heap.size 55 (shpL s).toArray (0, 0) _ rfl (setRow_heap _ _ _ _ _ _ HZ3.out) Tryd.underlying55 rfl (by kernel_rfl)) (by rfl) ⟨?_, below_setRow HB3.out⟩
    rw [← HS.out]; rfl
set_option maxHeartbeats 2000000 in
theorem firstShapeA (b : Nat) (w : World) (h1 : b < 64) (h2 : b % 8 < 6) (hA : Ari w 7) : Calls Tryd.prog 117 #[.int .i64 (b : Int)] w fun e w' => e = .returned (shpV (shape1 b)) ∧ Below w.heap.size w w' := by
  have HE : Hid (shpV (shape1 b) = .agg #[.int .i64 (1 + (b / 8 : Nat)), .int .i64 (arithAt (b % 8)).f, .int .i64 (arithAt (b % 8)).g, .bool (arithAt (b % 8)).y, .int .i64 (arithAt (b % 8)).r]) := Lib.hid (by
    unfold shape1; rw [if_pos ⟨h1, h2⟩]; rfl)
  obtain ⟨i, hi⟩ : ∃ i, i = b % 8 := ⟨_, rfl⟩
  obtain ⟨q, hq⟩ : ∃ q, q = b / 8 := ⟨_, rfl⟩
  rw [← hi, ← hq] at HE
  have e1 : (b : Int).tmod 8 = (i : Int) := by rw [Int.tmod_eq_emod_of_nonneg (by omega)]; omega
  have e2 : (b : Int).tdiv 8 = (q : Int) := by rw [Int.tdiv_eq_ediv_of_nonneg (by omega)]; omega
  have hi6 : i < 6 := by omega
  have hq8 : q < 8 := by omega
  have a0 : w.cell? ⟨7, i * 5, none⟩ = some (.int .i64 (arithAt i).o) := hA.cell i 0 hi6 (by omega)
  have a1 : w.cell? ⟨7, i * 5 + 1, none⟩ = some (.int .i64 (arithAt i).f) := hA.cell i 1 hi6 (by omega)
  have a2 : w.cell? ⟨7, i * 5 + 2, none⟩ = some (.int .i64 (arithAt i).g) := hA.cell i 2 hi6 (by omega)
  have a3 : w.cell? ⟨7, i * 5 + 3, none⟩ = some (.bool (arithAt i).y) := hA.cell i 3 hi6 (by omega)
  have a4 : w.cell? ⟨7, i * 5 + 4, none⟩ = some (.int .i64 (arithAt i).r) := hA.cell i 4 hi6 (by omega)
  have hl := hA.lt
  have f1 : (b : Int) < 64 := by omega
  have f2 : (i : Int) < 6 := by omega
  have f3 : (0 : Int) ≤ b := by omega
  have f4 : (0 : Int) ≤ i := by omega
  obtain ⟨sh, hsh⟩ : ∃ sh, sh = arithAt i := ⟨_, rfl⟩
  rw [← hsh] at a0 a1 a2 a3 a4 HE
  clear hA hi hq hsh h1 h2
  go_enter Tryd.func117, Tryd.ntmps117
  go_wp2
  refine bodyPost_ret (v := .agg #[.int .i64 (1 + q), .int .i64 sh.f, .int .i64 sh.g, .bool sh.y, .int .i64 sh.r]) (by exact results_cell_row Tryd.results117 _ _ w.heap.size 55 _ (0, 0) _ rfl ((Below.heap_alloc _ _ _ (by simp)).trans (heap_alloc_new w _)) Tryd.underlying55 rfl (by kernel_rfl)) (by rfl) ⟨by rw [HE.out], ?_⟩
  exact ((Below.refl _ _).alloc (Nat.le_refl _) _).alloc (by simp) _
theorem firstShapeC (b : Nat) (w : World) (hb : b < 256) (hA : Ari w 7) : Calls Tryd.prog 117 #[.int .i64 (b : Int)] w fun e w' => e = .returned (shpV (shape1 b)) ∧ Below w.heap.size w w' := by
  by_cases h : b < 64 ∧ b % 8 < 6
  · exact firstShapeA b w h.1 h.2 hA
  · have e : shape1 b = lookIn rows1 b := by unfold shape1; rw [if_neg h]
    rw [e]
    refine firstShapeR b w ?_
    by_cases h1 : b < 64
    · refine .inr (decide_eq_false fun h2 => h ⟨h1, ?_⟩)
      rw [Int.tmod_eq_emod_of_nonneg (by omega)] at h2
      omega
    · exact .inl (decide_eq_false (by omega))
end Go.Proofs.YtinjpobepcenfaaDoor
