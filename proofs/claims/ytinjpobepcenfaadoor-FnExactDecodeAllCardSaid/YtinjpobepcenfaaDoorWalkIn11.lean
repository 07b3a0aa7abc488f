/-
  What head of the specification's decoder does, way by way: prefixes, REX, the operation's bytes; conditions: those in each head.
  What head of the specification's decoder does, way by way: prefixes, REX, the operation's bytes; conditions: those in each head.
-/
import Derived.Test.YtinjpobepcenfaaDoorWalkIn7
namespace Go.Proofs.YtinjpobepcenfaaDoor
open Go.RowKit Go.Sort
set_option linter.unusedVariables false
set_option linter.unusedSimpArgs false
theorem ZB.free {W : World} {b : Nat} {z : Shp} (h : ZB W b z) (i : Nat) : W.frozen? ⟨b, i, none⟩ = false := by unfold ZB at h; simp [World.frozen?, h]
/-- within head: the decoder, the result's block, all else as it was -/
structure Hd (W0 w W : World) (g : Nat) (I : In) : Prop where
  at' : IAt W0 W g I
  r : ZB W w.heap.size noShp
  ch : Ch w W g
  ne : g < w.heap.size
  ge : W0.heap.size ≤ w.heap.size
theorem Hd.wr {W0 w W W' : World} {g : Nat} {I I' : In} (h : Hd W0 w W g I) (hw : IWr W0 W W' g I') : Hd W0 w W' g I' :=
  ⟨hw.1, (hw.2.block _ (lt_of_blk h.r) (fun e => by have := h.ne; have := Option.some.inj e; omega)).trans h.r, h.ch.trans hw.2, h.ne, h.ge⟩
theorem Hd.below {W0 w W W' : World} {g : Nat} {I : In} (h : Hd W0 w W g I) (hb : Below W.heap.size W W') : Hd W0 w W' g I := h.wr (IWr.of_below h.at' hb)
theorem Hd.new {W0 w : World} {g : Nat} {I : In} (h : IAt W0 w g I) : Hd W0 w (w.alloc (.cells #[.int .i64 0, .int .i64 0, .int .i64 0, .bool false, .int .i64 0] 55)) g I := ⟨h.alloc _, heap_alloc_new w _, ch_alloc _ _ _, h.lt, h.be.size⟩
theorem Hd.setw {W0 w W : World} {g : Nat} {s : ByteArray} {n x : Nat} {b b' : Bool} {c : Int} (h : Hd W0 w W g ⟨s, n, x, b, c⟩) : Hd W0 w (W.setCell ⟨g, 3, none⟩ (.bool b')) g ⟨s, n, x, b', c⟩ :=
  h.wr ⟨h.at'.next ((Ch.refl _ _).set 3 _) (h.at'.rb.set 3 _ rfl) rfl h.at'.le h.at'.x8, (Ch.refl _ _).set 3 _⟩
theorem Hd.setx {W0 w W : World} {g : Nat} {s : ByteArray} {n x y : Nat} {b : Bool} {c : Int} (h : Hd W0 w W g ⟨s, n, x, b, c⟩) (hy : y < 80) : Hd W0 w (W.setCell ⟨g, 2, none⟩ (.int .i64 (y : Int))) g ⟨s, n, y, b, c⟩ :=
  h.wr ⟨h.at'.next ((Ch.refl _ _).set 2 _) (h.at'.rb.set 2 _ rfl) rfl h.at'.le hy, (Ch.refl _ _).set 2 _⟩
theorem Hd.row {W0 w W : World} {g b : Nat} {I : In} (h : Hd W0 w W g I) (hb : w.heap.size + 1 ≤ b) (cs : Array Value) : Hd W0 w (W.setRow b cs) g I := by
  have hn := h.ne; have hg := h.ge
  exact ⟨h.at'.setRow (by omega) (by omega), (setRow_heap_ne _ _ _ _ (by omega)).trans h.r, ⟨h.ch.os, h.ch.tape, h.ch.output, by rw [setRow_size]; exact h.ch.size, fun i hi hi2 => by rw [setRow_heap_ne _ _ _ _ (by omega)]; exact h.ch.block i hi hi2⟩, hn, hg⟩
theorem Hd.sz1 {W0 w W : World} {g : Nat} {I : In} (h : Hd W0 w W g I) : w.heap.size + 1 ≤ W.heap.size := lt_of_blk h.r
theorem Hd.fin {W0 w W : World} {g : Nat} {I : In} (h : Hd W0 w W g I) (cs : Array Value) : IWr W0 w (W.setRow w.heap.size cs) g I := by
  have hn := h.ne; have hg := h.ge
  exact ⟨h.at'.setRow (by omega) (by omega), ⟨h.ch.os, h.ch.tape, h.ch.output, by rw [setRow_size]; exact h.ch.size, fun i hi hi2 => by rw [setRow_heap_ne _ _ _ _ (by omega)]; exact h.ch.block i hi hi2⟩⟩
set_option maxRecDepth 100000 in
set_option maxHeartbeats 2000000 in
theorem hdEnd (g n : Nat) (s : ByteArray) (W0 w : World) (h : IAt W0 w g ⟨s, n, 0, false, 0⟩)
  (K1 : Hid (∀ W, IAt W0 W g ⟨s, n, 0, false, 0⟩ → Calls Tryd.prog 48 #[.pointer (some ⟨g, 0, none⟩)] W fun e w' => e = .returned (.int .i64 0) ∧ IWr W0 W w' g ⟨s, n, 0, false, 9⟩))
  (z : Shp) (hz : (z.f == 0) = false) (CS : Hid (∀ W, Calls Tryd.prog 81 #[.bool false, .int .i64 0] W fun e w' => e = .returned (shpV z) ∧ Below W.heap.size W w')) :
    Calls Tryd.prog 46 #[.pointer (some ⟨g, 0, none⟩)] w fun e w' => e = .returned (.tuple #[shpV z, .int .i64 0]) ∧ IWr W0 w w' g ⟨s, n, 0, false, 9⟩ := by
  have M0 := Lib.hid (Hd.new h)
  clear h
  obtain ⟨zo, zf, zg, zy, zr⟩ := z
  simp only at hz
  go_enter Tryd.func46, Tryd.ntmps46
  go_upto_region 1 with fail
  refine abs_world (T := fun W => Hd W0 w W g ⟨s, n, 0, false, 0⟩) (G := fun W => Code.wp _ _ _ _ W) _ (M0.out) ?_
  clear M0
  intro W M
  apply wp_region_list
  refine Great.wpList_runTo rfl (some 7) rfl (.pointer (some ⟨g, 0, none⟩)) W (by first | (go_simp; done) | rfl) ?_
  simp only [Act.put, List.setIfInBounds_toArray, List.set_cons_zero, List.set_cons_succ]
  have M0 := Lib.hid M
  clear M
  refine callStep rfl (some 8) rfl 48 #[.pointer (some ⟨g, 0, none⟩)] (by first | (go_simp; done) | rfl) (K1.out _ M0.out.at') ?_
  rintro e W ⟨rfl, hw⟩
  refine ⟨.int .i64 0, rfl, ?_⟩
  simp only [Act.put, List.setIfInBounds_toArray, List.set_cons_zero, List.set_cons_succ]
  have M := M0.out.wr hw
  clear hw M0
  refine Great.wpList_runTo rfl (some 4) rfl (.int .i64 0) W (by first | (go_simp; done) | rfl) ?_
  simp only [Act.put, List.setIfInBounds_toArray, List.set_cons_zero, List.set_cons_succ]
  go_wp2_with fail
  refine wp_loop_rounds 1 ?_
  rw [rounds_succ]
  have c2 := M.at'.rb.cell 2; have c3 := M.at'.rb.cell 3; have c4 := M.at'.rb.cell 4
  simp only [inA, List.getElem?_toArray, List.getElem?_cons_zero, List.getElem?_cons_succ] at c2 c3 c4
  have f2 := M.at'.rb.free 2; have f3 := M.at'.rb.free 3
  go_upto_region 7 with fail
  go_upto_region 10 with fail
  go_upto_region 13 with fail
  clear c2 c3 c4 f2 f3
  apply wp_region_list
  refine Great.wpList_runTo rfl (some 65) rfl (.bool false) W (by first | (go_simp; done) | rfl) ?_
  simp only [Act.put, List.setIfInBounds_toArray, List.set_cons_zero, List.set_cons_succ]
  refine Great.wpList_runTo rfl (some 66) rfl (.int .i64 0) W (by first | (go_simp; done) | rfl) ?_
  simp only [Act.put, List.setIfInBounds_toArray, List.set_cons_zero, List.set_cons_succ]
  have M0 := Lib.hid M
  clear M
  refine callStep rfl (some 67) rfl 81 #[.bool false, .int .i64 0] (by first | (go_simp; done) | rfl) (CS.out _) ?_
  rintro e W ⟨rfl, hw⟩
  refine ⟨shpV ⟨zo, zf, zg, zy, zr⟩, rfl, ?_⟩
  simp only [Act.put, List.setIfInBounds_toArray, List.set_cons_zero, List.set_cons_succ]
  have M := M0.out.below hw
  clear hw M0
  have l6 : w.heap.size + 1 ≤ W.heap.size := Hd.sz1 M
  obtain ⟨W6, hW6⟩ : ∃ k, k = W.heap.size := ⟨_, rfl⟩
  refine Great.wpList_runTo rfl (some 6) rfl (.pointer (some ⟨W.heap.size, 0, none⟩)) (W.alloc (.cells #[.int .i64 0, .int .i64 0, .int .i64 0, .bool false, .int .i64 0] 55)) (by first | (go_simp; done) | rfl) ?_
  simp only [Act.put, List.setIfInBounds_toArray, List.set_cons_zero, List.set_cons_succ]
  refine wpList_store_row rfl 55 (.tmp 6) (.tmp 67) rfl (W.heap.size) (shpA ⟨zo, zf, zg, zy, zr⟩) ?_ ?_ 55 _ (heap_alloc_new W _) (by kernel_rfl) rfl (shpA_one _) ?_
  · rfl
  · rfl
  go_upto_region 14 with fail
  refine abs_world (T := fun W => Hd W0 w W g ⟨s, n, 0, false, 9⟩ ∧ ZB W W6 ⟨zo, zf, zg, zy, zr⟩) (G := fun W => Code.wp _ _ _ _ W) _ (by rw [hW6]; exact ⟨(M.below (bel_alloc _ _)).row l6 (shpA ⟨zo, zf, zg, zy, zr⟩), setRow_heap _ _ _ _ _ _ (heap_alloc_new W _)⟩) ?_
  rw [← hW6]
  rw [← hW6] at l6
  clear hW6 M
  intro W ⟨M, z6⟩
  have zz := z6.cell 1
  simp only [insV, insA, shpA, List.getElem?_toArray, List.getElem?_cons_zero, List.getElem?_cons_succ] at zz
  go_upto_region 16 with fail
  clear zz
  apply wp_region_list
  refine wpList_load_row rfl 55 (.tmp 6) rfl (W6) rfl 55 (shpA ⟨zo, zf, zg, zy, zr⟩) (0, 0) _ (z6) Tryd.underlying55 rfl (by kernel_rfl) ?_
  simp only [Act.put, List.setIfInBounds_toArray, List.set_cons_zero, List.set_cons_succ]
  refine Great.wpList_runTo rfl (some 74) rfl (.int .i64 0) W (by first | (go_simp; done) | rfl) ?_
  simp only [Act.put, List.setIfInBounds_toArray, List.set_cons_zero, List.set_cons_succ]
  refine wpList_store_row rfl 55 (.tmp 2) (.tmp 73) rfl (w.heap.size) (shpA ⟨zo, zf, zg, zy, zr⟩) ?_ ?_ 55 _ (M.r) (by kernel_rfl) rfl (shpA_one _) ?_
  · rfl
  · rfl
  go_wp2_with fail
  refine bodyPost_ret (v := .tuple #[.agg (shpA ⟨zo, zf, zg, zy, zr⟩), .int .i64 0]) (by exact results_cell_row2 Tryd.results46 _ _ w.heap.size 55 (shpA ⟨zo, zf, zg, zy, zr⟩) (0, 0) _ rfl (setRow_heap _ _ _ _ _ _ M.r) Tryd.underlying55 rfl (by kernel_rfl)) (by rfl) ⟨rfl, M.fin _⟩
set_option maxRecDepth 100000 in
set_option maxHeartbeats 2000000 in
theorem hdEnd2 (g n : Nat) (s : ByteArray) (W0 w : World) (h : IAt W0 w g ⟨s, n, 0, false, 0⟩)
  (b1 : Nat)
  (K1 : Hid (∀ W, IAt W0 W g ⟨s, n, 0, false, 0⟩ → Calls Tryd.prog 48 #[.pointer (some ⟨g, 0, none⟩)] W fun e w' => e = .returned (.int .i64 (b1 : Int)) ∧ IWr W0 W w' g ⟨s, n + 1, 0, false, 0⟩))
  (d1 : ((b1 : Int) == 102) = true)
  (K2 : Hid (∀ W, IAt W0 W g ⟨s, n + 1, 0, true, 0⟩ → Calls Tryd.prog 48 #[.pointer (some ⟨g, 0, none⟩)] W fun e w' => e = .returned (.int .i64 0) ∧ IWr W0 W w' g ⟨s, n + 1, 0, true, 9⟩))
  (z : Shp) (hz : (z.f == 0) = false) (CS : Hid (∀ W, Calls Tryd.prog 81 #[.bool false, .int .i64 0] W fun e w' => e = .returned (shpV z) ∧ Below W.heap.size W w')) :
    Calls Tryd.prog 46 #[.pointer (some ⟨g, 0, none⟩)] w fun e w' => e = .returned (.tuple #[shpV z, .int .i64 0]) ∧ IWr W0 w w' g ⟨s, n + 1, 0, true, 9⟩ := by
  have M0 := Lib.hid (Hd.new h)
  clear h
  obtain ⟨zo, zf, zg, zy, zr⟩ := z
  simp only at hz
  have nd1 : ((b1 : Int) != 102) = false := by rw [bne, d1]; rfl
  go_enter Tryd.func46, Tryd.ntmps46
  go_upto_region 1 with fail
  refine abs_world (T := fun W => Hd W0 w W g ⟨s, n, 0, false, 0⟩) (G := fun W => Code.wp _ _ _ _ W) _ (M0.out) ?_
  clear M0
  intro W M
  apply wp_region_list
  refine Great.wpList_runTo rfl (some 7) rfl (.pointer (some ⟨g, 0, none⟩)) W (by first | (go_simp; done) | rfl) ?_
  simp only [Act.put, List.setIfInBounds_toArray, List.set_cons_zero, List.set_cons_succ]
  have M0 := Lib.hid M
  clear M
  refine callStep rfl (some 8) rfl 48 #[.pointer (some ⟨g, 0, none⟩)] (by first | (go_simp; done) | rfl) (K1.out _ M0.out.at') ?_
  rintro e W ⟨rfl, hw⟩
  refine ⟨.int .i64 (b1 : Int), rfl, ?_⟩
  simp only [Act.put, List.setIfInBounds_toArray, List.set_cons_zero, List.set_cons_succ]
  have M := M0.out.wr hw
  clear hw M0
  refine Great.wpList_runTo rfl (some 4) rfl (.int .i64 (b1 : Int)) W (by first | (go_simp; done) | rfl) ?_
  simp only [Act.put, List.setIfInBounds_toArray, List.set_cons_zero, List.set_cons_succ]
  go_wp2_with fail
  refine wp_loop_rounds 2 ?_
  rw [rounds_succ]
  have c2 := M.at'.rb.cell 2; have c3 := M.at'.rb.cell 3; have c4 := M.at'.rb.cell 4
  simp only [inA, List.getElem?_toArray, List.getElem?_cons_zero, List.getElem?_cons_succ] at c2 c3 c4
  have f2 := M.at'.rb.free 2; have f3 := M.at'.rb.free 3
  go_upto_region 5 with fail
  go_upto_region 6 with fail
  clear c2 c3 c4 f2 f3
  refine abs_world (T := fun W => Hd W0 w W g ⟨s, n + 1, 0, true, 0⟩) (G := fun W => Code.wp _ _ _ _ W) _ (M.setw) ?_
  clear M
  intro W M
  apply wp_region_list
  refine Great.wpList_runTo rfl (some 35) rfl (.pointer (some ⟨g, 0, none⟩)) W (by first | (go_simp; done) | rfl) ?_
  simp only [Act.put, List.setIfInBounds_toArray, List.set_cons_zero, List.set_cons_succ]
  have M0 := Lib.hid M
  clear M
  refine callStep rfl (some 36) rfl 48 #[.pointer (some ⟨g, 0, none⟩)] (by first | (go_simp; done) | rfl) (K2.out _ M0.out.at') ?_
  rintro e W ⟨rfl, hw⟩
  refine ⟨.int .i64 0, rfl, ?_⟩
  simp only [Act.put, List.setIfInBounds_toArray, List.set_cons_zero, List.set_cons_succ]
  have M := M0.out.wr hw
  clear hw M0
  refine Great.wpList_runTo rfl (some 4) rfl (.int .i64 0) W (by first | (go_simp; done) | rfl) ?_
  simp only [Act.put, List.setIfInBounds_toArray, List.set_cons_zero, List.set_cons_succ]
  go_wp2_with fail
  rw [rounds_succ]
  have c2 := M.at'.rb.cell 2; have c3 := M.at'.rb.cell 3; have c4 := M.at'.rb.cell 4
  simp only [inA, List.getElem?_toArray, List.getElem?_cons_zero, List.getElem?_cons_succ] at c2 c3 c4
  have f2 := M.at'.rb.free 2; have f3 := M.at'.rb.free 3
  go_upto_region 7 with fail
  go_upto_region 10 with fail
  go_upto_region 13 with fail
  clear c2 c3 c4 f2 f3
  apply wp_region_list
  refine Great.wpList_runTo rfl (some 65) rfl (.bool false) W (by first | (go_simp; done) | rfl) ?_
  simp only [Act.put, List.setIfInBounds_toArray, List.set_cons_zero, List.set_cons_succ]
  refine Great.wpList_runTo rfl (some 66) rfl (.int .i64 0) W (by first | (go_simp; done) | rfl) ?_
  simp only [Act.put, List.setIfInBounds_toArray, List.set_cons_zero, List.set_cons_succ]
  have M0 := Lib.hid M
  clear M
  refine callStep rfl (some 67) rfl 81 #[.bool false, .int .i64 0] (by first | (go_simp; done) | rfl) (CS.out _) ?_
  rintro e W ⟨rfl, hw⟩
  refine ⟨shpV ⟨zo, zf, zg, zy, zr⟩, rfl, ?_⟩
  simp only [Act.put, List.setIfInBounds_toArray, List.set_cons_zero, List.set_cons_succ]
  have M := M0.out.below hw
  clear hw M0
  have l6 : w.heap.size + 1 ≤ W.heap.size := Hd.sz1 M
  obtain ⟨W6, hW6⟩ : ∃ k, k = W.heap.size := ⟨_, rfl⟩
  refine Great.wpList_runTo rfl (some 6) rfl (.pointer (some ⟨W.heap.size, 0, none⟩)) (W.alloc (.cells #[.int .i64 0, .int .i64 0, .int .i64 0, .bool false, .int .i64 0] 55)) (by first | (go_simp; done) | rfl) ?_
  simp only [Act.put, List.setIfInBounds_toArray, List.set_cons_zero, List.set_cons_succ]
  refine wpList_store_row rfl 55 (.tmp 6) (.tmp 67) rfl (W.heap.size) (shpA ⟨zo, zf, zg, zy, zr⟩) ?_ ?_ 55 _ (heap_alloc_new W _) (by kernel_rfl) rfl (shpA_one _) ?_
  · rfl
  · rfl
  go_upto_region 14 with fail
  refine abs_world (T := fun W => Hd W0 w W g ⟨s, n + 1, 0, true, 9⟩ ∧ ZB W W6 ⟨zo, zf, zg, zy, zr⟩) (G := fun W => Code.wp _ _ _ _ W) _ (by rw [hW6]; exact ⟨(M.below (bel_alloc _ _)).row l6 (shpA ⟨zo, zf, zg, zy, zr⟩), setRow_heap _ _ _ _ _ _ (heap_alloc_new W _)⟩) ?_
  rw [← hW6]
  rw [← hW6] at l6
  clear hW6 M
  intro W ⟨M, z6⟩
  have zz := z6.cell 1
  simp only [insV, insA, shpA, List.getElem?_toArray, List.getElem?_cons_zero, List.getElem?_cons_succ] at zz
  go_upto_region 16 with fail
  clear zz
  apply wp_region_list
  refine wpList_load_row rfl 55 (.tmp 6) rfl (W6) rfl 55 (shpA ⟨zo, zf, zg, zy, zr⟩) (0, 0) _ (z6) Tryd.underlying55 rfl (by kernel_rfl) ?_
  simp only [Act.put, List.setIfInBounds_toArray, List.set_cons_zero, List.set_cons_succ]
  refine Great.wpList_runTo rfl (some 74) rfl (.int .i64 0) W (by first | (go_simp; done) | rfl) ?_
  simp only [Act.put, List.setIfInBounds_toArray, List.set_cons_zero, List.set_cons_succ]
  refine wpList_store_row rfl 55 (.tmp 2) (.tmp 73) rfl (w.heap.size) (shpA ⟨zo, zf, zg, zy, zr⟩) ?_ ?_ 55 _ (M.r) (by kernel_rfl) rfl (shpA_one _) ?_
  · rfl
  · rfl
  go_wp2_with fail
  refine bodyPost_ret (v := .tuple #[.agg (shpA ⟨zo, zf, zg, zy, zr⟩), .int .i64 0]) (by exact results_cell_row2 Tryd.results46 _ _ w.heap.size 55 (shpA ⟨zo, zf, zg, zy, zr⟩) (0, 0) _ rfl (setRow_heap _ _ _ _ _ _ M.r) Tryd.underlying55 rfl (by kernel_rfl)) (by rfl) ⟨rfl, M.fin _⟩
set_option maxRecDepth 100000 in
set_option maxHeartbeats 2000000 in
theorem hdTwice (g n : Nat) (s : ByteArray) (W0 w : World) (h : IAt W0 w g ⟨s, n, 0, false, 0⟩)
  (b1 : Nat)
  (K1 : Hid (∀ W, IAt W0 W g ⟨s, n, 0, false, 0⟩ → Calls Tryd.prog 48 #[.pointer (some ⟨g, 0, none⟩)] W fun e w' => e = .returned (.int .i64 (b1 : Int)) ∧ IWr W0 W w' g ⟨s, n + 1, 0, false, 0⟩))
  (d1 : ((b1 : Int) == 102) = true)
  (b2 : Nat)
  (K2 : Hid (∀ W, IAt W0 W g ⟨s, n + 1, 0, true, 0⟩ → Calls Tryd.prog 48 #[.pointer (some ⟨g, 0, none⟩)] W fun e w' => e = .returned (.int .i64 (b2 : Int)) ∧ IWr W0 W w' g ⟨s, n + 2, 0, true, 0⟩))
  (d2 : ((b2 : Int) == 102) = true)
  (K3 : Hid (∀ W, IAt W0 W g ⟨s, n + 2, 0, true, 0⟩ → Calls Tryd.prog 50 #[.pointer (some ⟨g, 0, none⟩), .int .i64 10] W fun e w' => e = .returned (.tuple #[]) ∧ IWr W0 W w' g ⟨s, n + 2, 0, true, 10⟩))
  (K4 : Hid (∀ W, IAt W0 W g ⟨s, n + 2, 0, true, 10⟩ → Calls Tryd.prog 48 #[.pointer (some ⟨g, 0, none⟩)] W fun e w' => e = .returned (.int .i64 0) ∧ IWr W0 W w' g ⟨s, n + 2, 0, true, 10⟩))
  (z : Shp) (hz : (z.f == 0) = false) (CS : Hid (∀ W, Calls Tryd.prog 81 #[.bool false, .int .i64 0] W fun e w' => e = .returned (shpV z) ∧ Below W.heap.size W w')) :
    Calls Tryd.prog 46 #[.pointer (some ⟨g, 0, none⟩)] w fun e w' => e = .returned (.tuple #[shpV z, .int .i64 0]) ∧ IWr W0 w w' g ⟨s, n + 2, 0, true, 10⟩ := by
  have M0 := Lib.hid (Hd.new h)
  clear h
  obtain ⟨zo, zf, zg, zy, zr⟩ := z
  simp only at hz
  have nd1 : ((b1 : Int) != 102) = false := by rw [bne, d1]; rfl
  have nd2 : ((b2 : Int) != 102) = false := by rw [bne, d2]; rfl
  go_enter Tryd.func46, Tryd.ntmps46
  go_upto_region 1 with fail
  refine abs_world (T := fun W => Hd W0 w W g ⟨s, n, 0, false, 0⟩) (G := fun W => Code.wp _ _ _ _ W) _ (M0.out) ?_
  clear M0
  intro W M
  apply wp_region_list
  refine Great.wpList_runTo rfl (some 7) rfl (.pointer (some ⟨g, 0, none⟩)) W (by first | (go_simp; done) | rfl) ?_
  simp only [Act.put, List.setIfInBounds_toArray, List.set_cons_zero, List.set_cons_succ]
  have M0 := Lib.hid M
  clear M
  refine callStep rfl (some 8) rfl 48 #[.pointer (some ⟨g, 0, none⟩)] (by first | (go_simp; done) | rfl) (K1.out _ M0.out.at') ?_
  rintro e W ⟨rfl, hw⟩
  refine ⟨.int .i64 (b1 : Int), rfl, ?_⟩
  simp only [Act.put, List.setIfInBounds_toArray, List.set_cons_zero, List.set_cons_succ]
  have M := M0.out.wr hw
  clear hw M0
  refine Great.wpList_runTo rfl (some 4) rfl (.int .i64 (b1 : Int)) W (by first | (go_simp; done) | rfl) ?_
  simp only [Act.put, List.setIfInBounds_toArray, List.set_cons_zero, List.set_cons_succ]
  go_wp2_with fail
  refine wp_loop_rounds 3 ?_
  rw [rounds_succ]
  have c2 := M.at'.rb.cell 2; have c3 := M.at'.rb.cell 3; have c4 := M.at'.rb.cell 4
  simp only [inA, List.getElem?_toArray, List.getElem?_cons_zero, List.getElem?_cons_succ] at c2 c3 c4
  have f2 := M.at'.rb.free 2; have f3 := M.at'.rb.free 3
  go_upto_region 5 with fail
  go_upto_region 6 with fail
  clear c2 c3 c4 f2 f3
  refine abs_world (T := fun W => Hd W0 w W g ⟨s, n + 1, 0, true, 0⟩) (G := fun W => Code.wp _ _ _ _ W) _ (M.setw) ?_
  clear M
  intro W M
  apply wp_region_list
  refine Great.wpList_runTo rfl (some 35) rfl (.pointer (some ⟨g, 0, none⟩)) W (by first | (go_simp; done) | rfl) ?_
  simp only [Act.put, List.setIfInBounds_toArray, List.set_cons_zero, List.set_cons_succ]
  have M0 := Lib.hid M
  clear M
  refine callStep rfl (some 36) rfl 48 #[.pointer (some ⟨g, 0, none⟩)] (by first | (go_simp; done) | rfl) (K2.out _ M0.out.at') ?_
  rintro e W ⟨rfl, hw⟩
  refine ⟨.int .i64 (b2 : Int), rfl, ?_⟩
  simp only [Act.put, List.setIfInBounds_toArray, List.set_cons_zero, List.set_cons_succ]
  have M := M0.out.wr hw
  clear hw M0
  refine Great.wpList_runTo rfl (some 4) rfl (.int .i64 (b2 : Int)) W (by first | (go_simp; done) | rfl) ?_
  simp only [Act.put, List.setIfInBounds_toArray, List.set_cons_zero, List.set_cons_succ]
  go_wp2_with fail
  rw [rounds_succ]
  have c2 := M.at'.rb.cell 2; have c3 := M.at'.rb.cell 3; have c4 := M.at'.rb.cell 4
  simp only [inA, List.getElem?_toArray, List.getElem?_cons_zero, List.getElem?_cons_succ] at c2 c3 c4
  have f2 := M.at'.rb.free 2; have f3 := M.at'.rb.free 3
  go_upto_region 4 with fail
  clear c2 c3 c4 f2 f3
  apply wp_region_list
  refine Great.wpList_runTo rfl (some 30) rfl (.pointer (some ⟨g, 0, none⟩)) W (by first | (go_simp; done) | rfl) ?_
  simp only [Act.put, List.setIfInBounds_toArray, List.set_cons_zero, List.set_cons_succ]
  have M0 := Lib.hid M
  clear M
  refine callStep rfl (some 31) rfl 50 #[.pointer (some ⟨g, 0, none⟩), .int .i64 10] (by first | (go_simp; done) | rfl) (K3.out _ M0.out.at') ?_
  rintro e W ⟨rfl, hw⟩
  refine ⟨.tuple #[], rfl, ?_⟩
  simp only [Act.put, List.setIfInBounds_toArray, List.set_cons_zero, List.set_cons_succ]
  have M := M0.out.wr hw
  clear hw M0
  go_upto_region 5 with fail
  have c2 := M.at'.rb.cell 2; have c3 := M.at'.rb.cell 3; have c4 := M.at'.rb.cell 4
  simp only [inA, List.getElem?_toArray, List.getElem?_cons_zero, List.getElem?_cons_succ] at c2 c3 c4
  have f2 := M.at'.rb.free 2; have f3 := M.at'.rb.free 3
  go_upto_region 6 with fail
  clear c2 c3 c4 f2 f3
  refine abs_world (T := fun W => Hd W0 w W g ⟨s, n + 2, 0, true, 10⟩) (G := fun W => Code.wp _ _ _ _ W) _ (M.setw) ?_
  clear M
  intro W M
  apply wp_region_list
  refine Great.wpList_runTo rfl (some 35) rfl (.pointer (some ⟨g, 0, none⟩)) W (by first | (go_simp; done) | rfl) ?_
  simp only [Act.put, List.setIfInBounds_toArray, List.set_cons_zero, List.set_cons_succ]
  have M0 := Lib.hid M
  clear M
  refine callStep rfl (some 36) rfl 48 #[.pointer (some ⟨g, 0, none⟩)] (by first | (go_simp; done) | rfl) (K4.out _ M0.out.at') ?_
  rintro e W ⟨rfl, hw⟩
  refine ⟨.int .i64 0, rfl, ?_⟩
  simp only [Act.put, List.setIfInBounds_toArray, List.set_cons_zero, List.set_cons_succ]
  have M := M0.out.wr hw
  clear hw M0
  refine Great.wpList_runTo rfl (some 4) rfl (.int .i64 0) W (by first | (go_simp; done) | rfl) ?_
  simp only [Act.put, List.setIfInBounds_toArray, List.set_cons_zero, List.set_cons_succ]
  go_wp2_with fail
  rw [rounds_succ]
  have c2 := M.at'.rb.cell 2; have c3 := M.at'.rb.cell 3; have c4 := M.at'.rb.cell 4
  simp only [inA, List.getElem?_toArray, List.getElem?_cons_zero, List.getElem?_cons_succ] at c2 c3 c4
  have f2 := M.at'.rb.free 2; have f3 := M.at'.rb.free 3
  go_upto_region 7 with fail
  go_upto_region 10 with fail
  go_upto_region 13 with fail
  clear c2 c3 c4 f2 f3
  apply wp_region_list
  refine Great.wpList_runTo rfl (some 65) rfl (.bool false) W (by first | (go_simp; done) | rfl) ?_
  simp only [Act.put, List.setIfInBounds_toArray, List.set_cons_zero, List.set_cons_succ]
  refine Great.wpList_runTo rfl (some 66) rfl (.int .i64 0) W (by first | (go_simp; done) | rfl) ?_
  simp only [Act.put, List.setIfInBounds_toArray, List.set_cons_zero, List.set_cons_succ]
  have M0 := Lib.hid M
  clear M
  refine callStep rfl (some 67) rfl 81 #[.bool false, .int .i64 0] (by first | (go_simp; done) | rfl) (CS.out _) ?_
  rintro e W ⟨rfl, hw⟩
  refine ⟨shpV ⟨zo, zf, zg, zy, zr⟩, rfl, ?_⟩
  simp only [Act.put, List.setIfInBounds_toArray, List.set_cons_zero, List.set_cons_succ]
  have M := M0.out.below hw
  clear hw M0
  have l6 : w.heap.size + 1 ≤ W.heap.size := Hd.sz1 M
  obtain ⟨W6, hW6⟩ : ∃ k, k = W.heap.size := ⟨_, rfl⟩
  refine Great.wpList_runTo rfl (some 6) rfl (.pointer (some ⟨W.heap.size, 0, none⟩)) (W.alloc (.cells #[.int .i64 0, .int .i64 0, .int .i64 0, .bool false, .int .i64 0] 55)) (by first | (go_simp; done) | rfl) ?_
  simp only [Act.put, List.setIfInBounds_toArray, List.set_cons_zero, List.set_cons_succ]
  refine wpList_store_row rfl 55 (.tmp 6) (.tmp 67) rfl (W.heap.size) (shpA ⟨zo, zf, zg, zy, zr⟩) ?_ ?_ 55 _ (heap_alloc_new W _) (by kernel_rfl) rfl (shpA_one _) ?_
  · rfl
  · rfl
  go_upto_region 14 with fail
  refine abs_world (T := fun W => Hd W0 w W g ⟨s, n + 2, 0, true, 10⟩ ∧ ZB W W6 ⟨zo, zf, zg, zy, zr⟩) (G := fun W => Code.wp _ _ _ _ W) _ (by rw [hW6]; exact ⟨(M.below (bel_alloc _ _)).row l6 (shpA ⟨zo, zf, zg, zy, zr⟩), setRow_heap _ _ _ _ _ _ (heap_alloc_new W _)⟩) ?_
  rw [← hW6]
  rw [← hW6] at l6
  clear hW6 M
  intro W ⟨M, z6⟩
  have zz := z6.cell 1
  simp only [insV, insA, shpA, List.getElem?_toArray, List.getElem?_cons_zero, List.getElem?_cons_succ] at zz
  go_upto_region 16 with fail
  clear zz
  apply wp_region_list
  refine wpList_load_row rfl 55 (.tmp 6) rfl (W6) rfl 55 (shpA ⟨zo, zf, zg, zy, zr⟩) (0, 0) _ (z6) Tryd.underlying55 rfl (by kernel_rfl) ?_
  simp only [Act.put, List.setIfInBounds_toArray, List.set_cons_zero, List.set_cons_succ]
  refine Great.wpList_runTo rfl (some 74) rfl (.int .i64 0) W (by first | (go_simp; done) | rfl) ?_
  simp only [Act.put, List.setIfInBounds_toArray, List.set_cons_zero, List.set_cons_succ]
  refine wpList_store_row rfl 55 (.tmp 2) (.tmp 73) rfl (w.heap.size) (shpA ⟨zo, zf, zg, zy, zr⟩) ?_ ?_ 55 _ (M.r) (by kernel_rfl) rfl (shpA_one _) ?_
  · rfl
  · rfl
  go_wp2_with fail
  refine bodyPost_ret (v := .tuple #[.agg (shpA ⟨zo, zf, zg, zy, zr⟩), .int .i64 0]) (by exact results_cell_row2 Tryd.results46 _ _ w.heap.size 55 (shpA ⟨zo, zf, zg, zy, zr⟩) (0, 0) _ rfl (setRow_heap _ _ _ _ _ _ M.r) Tryd.underlying55 rfl (by kernel_rfl)) (by rfl) ⟨rfl, M.fin _⟩
set_option maxRecDepth 100000 in
set_option maxHeartbeats 2000000 in
theorem hdPre2 (g n : Nat) (s : ByteArray) (W0 w : World) (h : IAt W0 w g ⟨s, n, 0, false, 0⟩)
  (b1 : Nat)
  (K1 : Hid (∀ W, IAt W0 W g ⟨s, n, 0, false, 0⟩ → Calls Tryd.prog 48 #[.pointer (some ⟨g, 0, none⟩)] W fun e w' => e = .returned (.int .i64 (b1 : Int)) ∧ IWr W0 W w' g ⟨s, n + 1, 0, false, 0⟩))
  (d1 : ((b1 : Int) == 102) = true)
  (b2 : Nat)
  (K2 : Hid (∀ W, IAt W0 W g ⟨s, n + 1, 0, true, 0⟩ → Calls Tryd.prog 48 #[.pointer (some ⟨g, 0, none⟩)] W fun e w' => e = .returned (.int .i64 (b2 : Int)) ∧ IWr W0 W w' g ⟨s, n + 2, 0, true, 0⟩))
  (d2 : ((b2 : Int) == 102) = false)
  (CP2 : Hid (∀ W, Calls Tryd.prog 80 #[.int .i64 (b2 : Int)] W fun e w' => e = .returned (.bool true) ∧ W = w'))
  (K3 : Hid (∀ W, IAt W0 W g ⟨s, n + 2, 0, true, 0⟩ → Calls Tryd.prog 50 #[.pointer (some ⟨g, 0, none⟩), .int .i64 10] W fun e w' => e = .returned (.tuple #[]) ∧ IWr W0 W w' g ⟨s, n + 2, 0, true, 10⟩))
  (K4 : Hid (∀ W, IAt W0 W g ⟨s, n + 2, 0, true, 10⟩ → Calls Tryd.prog 48 #[.pointer (some ⟨g, 0, none⟩)] W fun e w' => e = .returned (.int .i64 0) ∧ IWr W0 W w' g ⟨s, n + 2, 0, true, 10⟩))
  (z : Shp) (hz : (z.f == 0) = false) (CS : Hid (∀ W, Calls Tryd.prog 81 #[.bool false, .int .i64 0] W fun e w' => e = .returned (shpV z) ∧ Below W.heap.size W w')) :
    Calls Tryd.prog 46 #[.pointer (some ⟨g, 0, none⟩)] w fun e w' => e = .returned (.tuple #[shpV z, .int .i64 0]) ∧ IWr W0 w w' g ⟨s, n + 2, 0, true, 10⟩ := by
  have M0 := Lib.hid (Hd.new h)
  clear h
  obtain ⟨zo, zf, zg, zy, zr⟩ := z
  simp only at hz
  have nd1 : ((b1 : Int) != 102) = false := by rw [bne, d1]; rfl
  have nd2 : ((b2 : Int) != 102) = true := by rw [bne, d2]; rfl
  go_enter Tryd.func46, Tryd.ntmps46
  go_upto_region 1 with fail
  refine abs_world (T := fun W => Hd W0 w W g ⟨s, n, 0, false, 0⟩) (G := fun W => Code.wp _ _ _ _ W) _ (M0.out) ?_
  clear M0
  intro W M
  apply wp_region_list
  refine Great.wpList_runTo rfl (some 7) rfl (.pointer (some ⟨g, 0, none⟩)) W (by first | (go_simp; done) | rfl) ?_
  simp only [Act.put, List.setIfInBounds_toArray, List.set_cons_zero, List.set_cons_succ]
  have M0 := Lib.hid M
  clear M
  refine callStep rfl (some 8) rfl 48 #[.pointer (some ⟨g, 0, none⟩)] (by first | (go_simp; done) | rfl) (K1.out _ M0.out.at') ?_
  rintro e W ⟨rfl, hw⟩
  refine ⟨.int .i64 (b1 : Int), rfl, ?_⟩
  simp only [Act.put, List.setIfInBounds_toArray, List.set_cons_zero, List.set_cons_succ]
  have M := M0.out.wr hw
  clear hw M0
  refine Great.wpList_runTo rfl (some 4) rfl (.int .i64 (b1 : Int)) W (by first | (go_simp; done) | rfl) ?_
  simp only [Act.put, List.setIfInBounds_toArray, List.set_cons_zero, List.set_cons_succ]
  go_wp2_with fail
  refine wp_loop_rounds 3 ?_
  rw [rounds_succ]
  have c2 := M.at'.rb.cell 2; have c3 := M.at'.rb.cell 3; have c4 := M.at'.rb.cell 4
  simp only [inA, List.getElem?_toArray, List.getElem?_cons_zero, List.getElem?_cons_succ] at c2 c3 c4
  have f2 := M.at'.rb.free 2; have f3 := M.at'.rb.free 3
  go_upto_region 5 with fail
  go_upto_region 6 with fail
  clear c2 c3 c4 f2 f3
  refine abs_world (T := fun W => Hd W0 w W g ⟨s, n + 1, 0, true, 0⟩) (G := fun W => Code.wp _ _ _ _ W) _ (M.setw) ?_
  clear M
  intro W M
  apply wp_region_list
  refine Great.wpList_runTo rfl (some 35) rfl (.pointer (some ⟨g, 0, none⟩)) W (by first | (go_simp; done) | rfl) ?_
  simp only [Act.put, List.setIfInBounds_toArray, List.set_cons_zero, List.set_cons_succ]
  have M0 := Lib.hid M
  clear M
  refine callStep rfl (some 36) rfl 48 #[.pointer (some ⟨g, 0, none⟩)] (by first | (go_simp; done) | rfl) (K2.out _ M0.out.at') ?_
  rintro e W ⟨rfl, hw⟩
  refine ⟨.int .i64 (b2 : Int), rfl, ?_⟩
  simp only [Act.put, List.setIfInBounds_toArray, List.set_cons_zero, List.set_cons_succ]
  have M := M0.out.wr hw
  clear hw M0
  refine Great.wpList_runTo rfl (some 4) rfl (.int .i64 (b2 : Int)) W (by first | (go_simp; done) | rfl) ?_
  simp only [Act.put, List.setIfInBounds_toArray, List.set_cons_zero, List.set_cons_succ]
  go_wp2_with fail
  rw [rounds_succ]
  have c2 := M.at'.rb.cell 2; have c3 := M.at'.rb.cell 3; have c4 := M.at'.rb.cell 4
  simp only [inA, List.getElem?_toArray, List.getElem?_cons_zero, List.getElem?_cons_succ] at c2 c3 c4
  have f2 := M.at'.rb.free 2; have f3 := M.at'.rb.free 3
  go_upto_region 4 with (go_at_call 80; refine (CP2.out _).mono ?_; rintro e w9 ⟨rfl, rfl⟩)
  clear c2 c3 c4 f2 f3
  apply wp_region_list
  refine Great.wpList_runTo rfl (some 30) rfl (.pointer (some ⟨g, 0, none⟩)) W (by first | (go_simp; done) | rfl) ?_
  simp only [Act.put, List.setIfInBounds_toArray, List.set_cons_zero, List.set_cons_succ]
  have M0 := Lib.hid M
  clear M
  refine callStep rfl (some 31) rfl 50 #[.pointer (some ⟨g, 0, none⟩), .int .i64 10] (by first | (go_simp; done) | rfl) (K3.out _ M0.out.at') ?_
  rintro e W ⟨rfl, hw⟩
  refine ⟨.tuple #[], rfl, ?_⟩
  simp only [Act.put, List.setIfInBounds_toArray, List.set_cons_zero, List.set_cons_succ]
  have M := M0.out.wr hw
  clear hw M0
  go_upto_region 5 with fail
  have c2 := M.at'.rb.cell 2; have c3 := M.at'.rb.cell 3; have c4 := M.at'.rb.cell 4
  simp only [inA, List.getElem?_toArray, List.getElem?_cons_zero, List.getElem?_cons_succ] at c2 c3 c4
  have f2 := M.at'.rb.free 2; have f3 := M.at'.rb.free 3
  go_upto_region 6 with fail
  clear c2 c3 c4 f2 f3
  refine abs_world (T := fun W => Hd W0 w W g ⟨s, n + 2, 0, true, 10⟩) (G := fun W => Code.wp _ _ _ _ W) _ (M.setw) ?_
  clear M
  intro W M
  apply wp_region_list
  refine Great.wpList_runTo rfl (some 35) rfl (.pointer (some ⟨g, 0, none⟩)) W (by first | (go_simp; done) | rfl) ?_
  simp only [Act.put, List.setIfInBounds_toArray, List.set_cons_zero, List.set_cons_succ]
  have M0 := Lib.hid M
  clear M
  refine callStep rfl (some 36) rfl 48 #[.pointer (some ⟨g, 0, none⟩)] (by first | (go_simp; done) | rfl) (K4.out _ M0.out.at') ?_
  rintro e W ⟨rfl, hw⟩
  refine ⟨.int .i64 0, rfl, ?_⟩
  simp only [Act.put, List.setIfInBounds_toArray, List.set_cons_zero, List.set_cons_succ]
  have M := M0.out.wr hw
  clear hw M0
  refine Great.wpList_runTo rfl (some 4) rfl (.int .i64 0) W (by first | (go_simp; done) | rfl) ?_
  simp only [Act.put, List.setIfInBounds_toArray, List.set_cons_zero, List.set_cons_succ]
  go_wp2_with fail
  rw [rounds_succ]
  have c2 := M.at'.rb.cell 2; have c3 := M.at'.rb.cell 3; have c4 := M.at'.rb.cell 4
  simp only [inA, List.getElem?_toArray, List.getElem?_cons_zero, List.getElem?_cons_succ] at c2 c3 c4
  have f2 := M.at'.rb.free 2; have f3 := M.at'.rb.free 3
  go_upto_region 7 with fail
  go_upto_region 10 with fail
  go_upto_region 13 with fail
  clear c2 c3 c4 f2 f3
  apply wp_region_list
  refine Great.wpList_runTo rfl (some 65) rfl (.bool false) W (by first | (go_simp; done) | rfl) ?_
  simp only [Act.put, List.setIfInBounds_toArray, List.set_cons_zero, List.set_cons_succ]
  refine Great.wpList_runTo rfl (some 66) rfl (.int .i64 0) W (by first | (go_simp; done) | rfl) ?_
  simp only [Act.put, List.setIfInBounds_toArray, List.set_cons_zero, List.set_cons_succ]
  have M0 := Lib.hid M
  clear M
  refine callStep rfl (some 67) rfl 81 #[.bool false, .int .i64 0] (by first | (go_simp; done) | rfl) (CS.out _) ?_
  rintro e W ⟨rfl, hw⟩
  refine ⟨shpV ⟨zo, zf, zg, zy, zr⟩, rfl, ?_⟩
  simp only [Act.put, List.setIfInBounds_toArray, List.set_cons_zero, List.set_cons_succ]
  have M := M0.out.below hw
  clear hw M0
  have l6 : w.heap.size + 1 ≤ W.heap.size := Hd.sz1 M
  obtain ⟨W6, hW6⟩ : ∃ k, k = W.heap.size := ⟨_, rfl⟩
  refine Great.wpList_runTo rfl (some 6) rfl (.pointer (some ⟨W.heap.size, 0, none⟩)) (W.alloc (.cells #[.int .i64 0, .int .i64 0, .int .i64 0, .bool false, .int .i64 0] 55)) (by first | (go_simp; done) | rfl) ?_
  simp only [Act.put, List.setIfInBounds_toArray, List.set_cons_zero, List.set_cons_succ]
  refine wpList_store_row rfl 55 (.tmp 6) (.tmp 67) rfl (W.heap.size) (shpA ⟨zo, zf, zg, zy, zr⟩) ?_ ?_ 55 _ (heap_alloc_new W _) (by kernel_rfl) rfl (shpA_one _) ?_
  · rfl
  · rfl
  go_upto_region 14 with fail
  refine abs_world (T := fun W => Hd W0 w W g ⟨s, n + 2, 0, true, 10⟩ ∧ ZB W W6 ⟨zo, zf, zg, zy, zr⟩) (G := fun W => Code.wp _ _ _ _ W) _ (by rw [hW6]; exact ⟨(M.below (bel_alloc _ _)).row l6 (shpA ⟨zo, zf, zg, zy, zr⟩), setRow_heap _ _ _ _ _ _ (heap_alloc_new W _)⟩) ?_
  rw [← hW6]
  rw [← hW6] at l6
  clear hW6 M
  intro W ⟨M, z6⟩
  have zz := z6.cell 1
  simp only [insV, insA, shpA, List.getElem?_toArray, List.getElem?_cons_zero, List.getElem?_cons_succ] at zz
  go_upto_region 16 with fail
  clear zz
  apply wp_region_list
  refine wpList_load_row rfl 55 (.tmp 6) rfl (W6) rfl 55 (shpA ⟨zo, zf, zg, zy, zr⟩) (0, 0) _ (z6) Tryd.underlying55 rfl (by kernel_rfl) ?_
  simp only [Act.put, List.setIfInBounds_toArray, List.set_cons_zero, List.set_cons_succ]
  refine Great.wpList_runTo rfl (some 74) rfl (.int .i64 0) W (by first | (go_simp; done) | rfl) ?_
  simp only [Act.put, List.setIfInBounds_toArray, List.set_cons_zero, List.set_cons_succ]
  refine wpList_store_row rfl 55 (.tmp 2) (.tmp 73) rfl (w.heap.size) (shpA ⟨zo, zf, zg, zy, zr⟩) ?_ ?_ 55 _ (M.r) (by kernel_rfl) rfl (shpA_one _) ?_
  · rfl
  · rfl
  go_wp2_with fail
  refine bodyPost_ret (v := .tuple #[.agg (shpA ⟨zo, zf, zg, zy, zr⟩), .int .i64 0]) (by exact results_cell_row2 Tryd.results46 _ _ w.heap.size 55 (shpA ⟨zo, zf, zg, zy, zr⟩) (0, 0) _ rfl (setRow_heap _ _ _ _ _ _ M.r) Tryd.underlying55 rfl (by kernel_rfl)) (by rfl) ⟨rfl, M.fin _⟩
set_option maxRecDepth 100000 in
set_option maxHeartbeats 2000000 in
theorem hdPre (g n : Nat) (s : ByteArray) (W0 w : World) (h : IAt W0 w g ⟨s, n, 0, false, 0⟩)
  (b1 : Nat)
  (K1 : Hid (∀ W, IAt W0 W g ⟨s, n, 0, false, 0⟩ → Calls Tryd.prog 48 #[.pointer (some ⟨g, 0, none⟩)] W fun e w' => e = .returned (.int .i64 (b1 : Int)) ∧ IWr W0 W w' g ⟨s, n + 1, 0, false, 0⟩))
  (d1 : ((b1 : Int) == 102) = false)
  (CP1 : Hid (∀ W, Calls Tryd.prog 80 #[.int .i64 (b1 : Int)] W fun e w' => e = .returned (.bool true) ∧ W = w'))
  (K2 : Hid (∀ W, IAt W0 W g ⟨s, n + 1, 0, false, 0⟩ → Calls Tryd.prog 50 #[.pointer (some ⟨g, 0, none⟩), .int .i64 10] W fun e w' => e = .returned (.tuple #[]) ∧ IWr W0 W w' g ⟨s, n + 1, 0, false, 10⟩))
  (K3 : Hid (∀ W, IAt W0 W g ⟨s, n + 1, 0, true, 10⟩ → Calls Tryd.prog 48 #[.pointer (some ⟨g, 0, none⟩)] W fun e w' => e = .returned (.int .i64 0) ∧ IWr W0 W w' g ⟨s, n + 1, 0, true, 10⟩))
  (z : Shp) (hz : (z.f == 0) = false) (CS : Hid (∀ W, Calls Tryd.prog 81 #[.bool false, .int .i64 0] W fun e w' => e = .returned (shpV z) ∧ Below W.heap.size W w')) :
    Calls Tryd.prog 46 #[.pointer (some ⟨g, 0, none⟩)] w fun e w' => e = .returned (.tuple #[shpV z, .int .i64 0]) ∧ IWr W0 w w' g ⟨s, n + 1, 0, true, 10⟩ := by
  have M0 := Lib.hid (Hd.new h)
  clear h
  obtain ⟨zo, zf, zg, zy, zr⟩ := z
  simp only at hz
  have nd1 : ((b1 : Int) != 102) = true := by rw [bne, d1]; rfl
  go_enter Tryd.func46, Tryd.ntmps46
  go_upto_region 1 with fail
  refine abs_world (T := fun W => Hd W0 w W g ⟨s, n, 0, false, 0⟩) (G := fun W => Code.wp _ _ _ _ W) _ (M0.out) ?_
  clear M0
  intro W M
  apply wp_region_list
  refine Great.wpList_runTo rfl (some 7) rfl (.pointer (some ⟨g, 0, none⟩)) W (by first | (go_simp; done) | rfl) ?_
  simp only [Act.put, List.setIfInBounds_toArray, List.set_cons_zero, List.set_cons_succ]
  have M0 := Lib.hid M
  clear M
  refine callStep rfl (some 8) rfl 48 #[.pointer (some ⟨g, 0, none⟩)] (by first | (go_simp; done) | rfl) (K1.out _ M0.out.at') ?_
  rintro e W ⟨rfl, hw⟩
  refine ⟨.int .i64 (b1 : Int), rfl, ?_⟩
  simp only [Act.put, List.setIfInBounds_toArray, List.set_cons_zero, List.set_cons_succ]
  have M := M0.out.wr hw
  clear hw M0
  refine Great.wpList_runTo rfl (some 4) rfl (.int .i64 (b1 : Int)) W (by first | (go_simp; done) | rfl) ?_
  simp only [Act.put, List.setIfInBounds_toArray, List.set_cons_zero, List.set_cons_succ]
  go_wp2_with fail
  refine wp_loop_rounds 2 ?_
  rw [rounds_succ]
  have c2 := M.at'.rb.cell 2; have c3 := M.at'.rb.cell 3; have c4 := M.at'.rb.cell 4
  simp only [inA, List.getElem?_toArray, List.getElem?_cons_zero, List.getElem?_cons_succ] at c2 c3 c4
  have f2 := M.at'.rb.free 2; have f3 := M.at'.rb.free 3
  go_upto_region 4 with (go_at_call 80; refine (CP1.out _).mono ?_; rintro e w9 ⟨rfl, rfl⟩)
  clear c2 c3 c4 f2 f3
  apply wp_region_list
  refine Great.wpList_runTo rfl (some 30) rfl (.pointer (some ⟨g, 0, none⟩)) W (by first | (go_simp; done) | rfl) ?_
  simp only [Act.put, List.setIfInBounds_toArray, List.set_cons_zero, List.set_cons_succ]
  have M0 := Lib.hid M
  clear M
  refine callStep rfl (some 31) rfl 50 #[.pointer (some ⟨g, 0, none⟩), .int .i64 10] (by first | (go_simp; done) | rfl) (K2.out _ M0.out.at') ?_
  rintro e W ⟨rfl, hw⟩
  refine ⟨.tuple #[], rfl, ?_⟩
  simp only [Act.put, List.setIfInBounds_toArray, List.set_cons_zero, List.set_cons_succ]
  have M := M0.out.wr hw
  clear hw M0
  go_upto_region 5 with fail
  have c2 := M.at'.rb.cell 2; have c3 := M.at'.rb.cell 3; have c4 := M.at'.rb.cell 4
  simp only [inA, List.getElem?_toArray, List.getElem?_cons_zero, List.getElem?_cons_succ] at c2 c3 c4
  have f2 := M.at'.rb.free 2; have f3 := M.at'.rb.free 3
  go_upto_region 6 with fail
  clear c2 c3 c4 f2 f3
  refine abs_world (T := fun W => Hd W0 w W g ⟨s, n + 1, 0, true, 10⟩) (G := fun W => Code.wp _ _ _ _ W) _ (M.setw) ?_
  clear M
  intro W M
  apply wp_region_list
  refine Great.wpList_runTo rfl (some 35) rfl (.pointer (some ⟨g, 0, none⟩)) W (by first | (go_simp; done) | rfl) ?_
  simp only [Act.put, List.setIfInBounds_toArray, List.set_cons_zero, List.set_cons_succ]
  have M0 := Lib.hid M
  clear M
  refine callStep rfl (some 36) rfl 48 #[.pointer (some ⟨g, 0, none⟩)] (by first | (go_simp; done) | rfl) (K3.out _ M0.out.at') ?_
  rintro e W ⟨rfl, hw⟩
  refine ⟨.int .i64 0, rfl, ?_⟩
  simp only [Act.put, List.setIfInBounds_toArray, List.set_cons_zero, List.set_cons_succ]
  have M := M0.out.wr hw
  clear hw M0
  refine Great.wpList_runTo rfl (some 4) rfl (.int .i64 0) W (by first | (go_simp; done) | rfl) ?_
  simp only [Act.put, List.setIfInBounds_toArray, List.set_cons_zero, List.set_cons_succ]
  go_wp2_with fail
  rw [rounds_succ]
  have c2 := M.at'.rb.cell 2; have c3 := M.at'.rb.cell 3; have c4 := M.at'.rb.cell 4
  simp only [inA, List.getElem?_toArray, List.getElem?_cons_zero, List.getElem?_cons_succ] at c2 c3 c4
  have f2 := M.at'.rb.free 2; have f3 := M.at'.rb.free 3
  go_upto_region 7 with fail
  go_upto_region 10 with fail
  go_upto_region 13 with fail
  clear c2 c3 c4 f2 f3
  apply wp_region_list
  refine Great.wpList_runTo rfl (some 65) rfl (.bool false) W (by first | (go_simp; done) | rfl) ?_
  simp only [Act.put, List.setIfInBounds_toArray, List.set_cons_zero, List.set_cons_succ]
  refine Great.wpList_runTo rfl (some 66) rfl (.int .i64 0) W (by first | (go_simp; done) | rfl) ?_
  simp only [Act.put, List.setIfInBounds_toArray, List.set_cons_zero, List.set_cons_succ]
  have M0 := Lib.hid M
  clear M
  refine callStep rfl (some 67) rfl 81 #[.bool false, .int .i64 0] (by first | (go_simp; done) | rfl) (CS.out _) ?_
  rintro e W ⟨rfl, hw⟩
  refine ⟨shpV ⟨zo, zf, zg, zy, zr⟩, rfl, ?_⟩
  simp only [Act.put, List.setIfInBounds_toArray, List.set_cons_zero, List.set_cons_succ]
  have M := M0.out.below hw
  clear hw M0
  have l6 : w.heap.size + 1 ≤ W.heap.size := Hd.sz1 M
  obtain ⟨W6, hW6⟩ : ∃ k, k = W.heap.size := ⟨_, rfl⟩
  refine Great.wpList_runTo rfl (some 6) rfl (.pointer (some ⟨W.heap.size, 0, none⟩)) (W.alloc (.cells #[.int .i64 0, .int .i64 0, .int .i64 0, .bool false, .int .i64 0] 55)) (by first | (go_simp; done) | rfl) ?_
  simp only [Act.put, List.setIfInBounds_toArray, List.set_cons_zero, List.set_cons_succ]
  refine wpList_store_row rfl 55 (.tmp 6) (.tmp 67) rfl (W.heap.size) (shpA ⟨zo, zf, zg, zy, zr⟩) ?_ ?_ 55 _ (heap_alloc_new W _) (by kernel_rfl) rfl (shpA_one _) ?_
  · rfl
  · rfl
  go_upto_region 14 with fail
  refine abs_world (T := fun W => Hd W0 w W g ⟨s, n + 1, 0, true, 10⟩ ∧ ZB W W6 ⟨zo, zf, zg, zy, zr⟩) (G := fun W => Code.wp _ _ _ _ W) _ (by rw [hW6]; exact ⟨(M.below (bel_alloc _ _)).row l6 (shpA ⟨zo, zf, zg, zy, zr⟩), setRow_heap _ _ _ _ _ _ (heap_alloc_new W _)⟩) ?_
  rw [← hW6]
  rw [← hW6] at l6
  clear hW6 M
  intro W ⟨M, z6⟩
  have zz := z6.cell 1
  simp only [insV, insA, shpA, List.getElem?_toArray, List.getElem?_cons_zero, List.getElem?_cons_succ] at zz
  go_upto_region 16 with fail
  clear zz
  apply wp_region_list
  refine wpList_load_row rfl 55 (.tmp 6) rfl (W6) rfl 55 (shpA ⟨zo, zf, zg, zy, zr⟩) (0, 0) _ (z6) Tryd.underlying55 rfl (by kernel_rfl) ?_
  simp only [Act.put, List.setIfInBounds_toArray, List.set_cons_zero, List.set_cons_succ]
  refine Great.wpList_runTo rfl (some 74) rfl (.int .i64 0) W (by first | (go_simp; done) | rfl) ?_
  simp only [Act.put, List.setIfInBounds_toArray, List.set_cons_zero, List.set_cons_succ]
  refine wpList_store_row rfl 55 (.tmp 2) (.tmp 73) rfl (w.heap.size) (shpA ⟨zo, zf, zg, zy, zr⟩) ?_ ?_ 55 _ (M.r) (by kernel_rfl) rfl (shpA_one _) ?_
  · rfl
  · rfl
  go_wp2_with fail
  refine bodyPost_ret (v := .tuple #[.agg (shpA ⟨zo, zf, zg, zy, zr⟩), .int .i64 0]) (by exact results_cell_row2 Tryd.results46 _ _ w.heap.size 55 (shpA ⟨zo, zf, zg, zy, zr⟩) (0, 0) _ rfl (setRow_heap _ _ _ _ _ _ M.r) Tryd.underlying55 rfl (by kernel_rfl)) (by rfl) ⟨rfl, M.fin _⟩
set_option maxRecDepth 100000 in
set_option maxHeartbeats 2000000 in
theorem hdN_one (g n : Nat) (s : ByteArray) (W0 w : World) (h : IAt W0 w g ⟨s, n, 0, false, 0⟩)
  (b1 : Nat)
  (K1 : Hid (∀ W, IAt W0 W g ⟨s, n, 0, false, 0⟩ → Calls Tryd.prog 48 #[.pointer (some ⟨g, 0, none⟩)] W fun e w' => e = .returned (.int .i64 (b1 : Int)) ∧ IWr W0 W w' g ⟨s, n + 1, 0, false, 0⟩))
  (d1 : ((b1 : Int) == 102) = false)
  (CP1 : Hid (∀ W, Calls Tryd.prog 80 #[.int .i64 (b1 : Int)] W fun e w' => e = .returned (.bool false) ∧ W = w'))
  (r1 : (((b1 : Int) / 16 == 4)) = false)
  (hb1 : b1 < 256)
  (s1 : ((b1 : Int) == 15) = false)
  (z : Shp) (hz : (z.f == 0) = false) (CS : Hid (∀ W, Calls Tryd.prog 81 #[.bool false, .int .i64 (b1 : Int)] W fun e w' => e = .returned (shpV z) ∧ Below W.heap.size W w')) :
    Calls Tryd.prog 46 #[.pointer (some ⟨g, 0, none⟩)] w fun e w' => e = .returned (.tuple #[shpV z, .int .i64 (b1 : Int)]) ∧ IWr W0 w w' g ⟨s, n + 1, 0, false, 0⟩ := by
  have M0 := Lib.hid (Hd.new h)
  clear h
  obtain ⟨zo, zf, zg, zy, zr⟩ := z
  simp only at hz
  have nd1 : ((b1 : Int) != 102) = true := by rw [bne, d1]; rfl
  have hb1' : (b1 : Int) < 256 := by omega
  go_enter Tryd.func46, Tryd.ntmps46
  go_upto_region 1 with fail
  refine abs_world (T := fun W => Hd W0 w W g ⟨s, n, 0, false, 0⟩) (G := fun W => Code.wp _ _ _ _ W) _ (M0.out) ?_
  clear M0
  intro W M
  apply wp_region_list
  refine Great.wpList_runTo rfl (some 7) rfl (.pointer (some ⟨g, 0, none⟩)) W (by first | (go_simp; done) | rfl) ?_
  simp only [Act.put, List.setIfInBounds_toArray, List.set_cons_zero, List.set_cons_succ]
  have M0 := Lib.hid M
  clear M
  refine callStep rfl (some 8) rfl 48 #[.pointer (some ⟨g, 0, none⟩)] (by first | (go_simp; done) | rfl) (K1.out _ M0.out.at') ?_
  rintro e W ⟨rfl, hw⟩
  refine ⟨.int .i64 (b1 : Int), rfl, ?_⟩
  simp only [Act.put, List.setIfInBounds_toArray, List.set_cons_zero, List.set_cons_succ]
  have M := M0.out.wr hw
  clear hw M0
  refine Great.wpList_runTo rfl (some 4) rfl (.int .i64 (b1 : Int)) W (by first | (go_simp; done) | rfl) ?_
  simp only [Act.put, List.setIfInBounds_toArray, List.set_cons_zero, List.set_cons_succ]
  go_wp2_with fail
  refine wp_loop_rounds 1 ?_
  rw [rounds_succ]
  have c2 := M.at'.rb.cell 2; have c3 := M.at'.rb.cell 3; have c4 := M.at'.rb.cell 4
  simp only [inA, List.getElem?_toArray, List.getElem?_cons_zero, List.getElem?_cons_succ] at c2 c3 c4
  have f2 := M.at'.rb.free 2; have f3 := M.at'.rb.free 3
  go_upto_region 7 with (go_at_call 80; refine (CP1.out _).mono ?_; rintro e w9 ⟨rfl, rfl⟩)
  go_upto_region 10 with fail
  go_upto_region 13 with fail
  clear c2 c3 c4 f2 f3
  apply wp_region_list
  refine Great.wpList_runTo rfl (some 65) rfl (.bool false) W (by first | (go_simp; done) | rfl) ?_
  simp only [Act.put, List.setIfInBounds_toArray, List.set_cons_zero, List.set_cons_succ]
  refine Great.wpList_runTo rfl (some 66) rfl (.int .i64 (b1 : Int)) W (by first | (go_simp; done) | rfl) ?_
  simp only [Act.put, List.setIfInBounds_toArray, List.set_cons_zero, List.set_cons_succ]
  have M0 := Lib.hid M
  clear M
  refine callStep rfl (some 67) rfl 81 #[.bool false, .int .i64 (b1 : Int)] (by first | (go_simp; done) | rfl) (CS.out _) ?_
  rintro e W ⟨rfl, hw⟩
  refine ⟨shpV ⟨zo, zf, zg, zy, zr⟩, rfl, ?_⟩
  simp only [Act.put, List.setIfInBounds_toArray, List.set_cons_zero, List.set_cons_succ]
  have M := M0.out.below hw
  clear hw M0
  have l6 : w.heap.size + 1 ≤ W.heap.size := Hd.sz1 M
  obtain ⟨W6, hW6⟩ : ∃ k, k = W.heap.size := ⟨_, rfl⟩
  refine Great.wpList_runTo rfl (some 6) rfl (.pointer (some ⟨W.heap.size, 0, none⟩)) (W.alloc (.cells #[.int .i64 0, .int .i64 0, .int .i64 0, .bool false, .int .i64 0] 55)) (by first | (go_simp; done) | rfl) ?_
  simp only [Act.put, List.setIfInBounds_toArray, List.set_cons_zero, List.set_cons_succ]
  refine wpList_store_row rfl 55 (.tmp 6) (.tmp 67) rfl (W.heap.size) (shpA ⟨zo, zf, zg, zy, zr⟩) ?_ ?_ 55 _ (heap_alloc_new W _) (by kernel_rfl) rfl (shpA_one _) ?_
  · rfl
  · rfl
  go_upto_region 14 with fail
  refine abs_world (T := fun W => Hd W0 w W g ⟨s, n + 1, 0, false, 0⟩ ∧ ZB W W6 ⟨zo, zf, zg, zy, zr⟩) (G := fun W => Code.wp _ _ _ _ W) _ (by rw [hW6]; exact ⟨(M.below (bel_alloc _ _)).row l6 (shpA ⟨zo, zf, zg, zy, zr⟩), setRow_heap _ _ _ _ _ _ (heap_alloc_new W _)⟩) ?_
  rw [← hW6]
  rw [← hW6] at l6
  clear hW6 M
  intro W ⟨M, z6⟩
  have zz := z6.cell 1
  simp only [insV, insA, shpA, List.getElem?_toArray, List.getElem?_cons_zero, List.getElem?_cons_succ] at zz
  go_upto_region 16 with fail
  clear zz
  apply wp_region_list
  refine wpList_load_row rfl 55 (.tmp 6) rfl (W6) rfl 55 (shpA ⟨zo, zf, zg, zy, zr⟩) (0, 0) _ (z6) Tryd.underlying55 rfl (by kernel_rfl) ?_
  simp only [Act.put, List.setIfInBounds_toArray, List.set_cons_zero, List.set_cons_succ]
  refine Great.wpList_runTo rfl (some 74) rfl (.int .i64 (b1 : Int)) W (by first | (go_simp; done) | rfl) ?_
  simp only [Act.put, List.setIfInBounds_toArray, List.set_cons_zero, List.set_cons_succ]
  refine wpList_store_row rfl 55 (.tmp 2) (.tmp 73) rfl (w.heap.size) (shpA ⟨zo, zf, zg, zy, zr⟩) ?_ ?_ 55 _ (M.r) (by kernel_rfl) rfl (shpA_one _) ?_
  · rfl
  · rfl
  go_wp2_with fail
  refine bodyPost_ret (v := .tuple #[.agg (shpA ⟨zo, zf, zg, zy, zr⟩), .int .i64 (b1 : Int)]) (by exact results_cell_row2 Tryd.results46 _ _ w.heap.size 55 (shpA ⟨zo, zf, zg, zy, zr⟩) (0, 0) _ rfl (setRow_heap _ _ _ _ _ _ M.r) Tryd.underlying55 rfl (by kernel_rfl)) (by rfl) ⟨rfl, M.fin _⟩
set_option maxRecDepth 100000 in
set_option maxHeartbeats 2000000 in
theorem hdN_one0 (g n : Nat) (s : ByteArray) (W0 w : World) (h : IAt W0 w g ⟨s, n, 0, false, 0⟩)
  (b1 : Nat)
  (K1 : Hid (∀ W, IAt W0 W g ⟨s, n, 0, false, 0⟩ → Calls Tryd.prog 48 #[.pointer (some ⟨g, 0, none⟩)] W fun e w' => e = .returned (.int .i64 (b1 : Int)) ∧ IWr W0 W w' g ⟨s, n + 1, 0, false, 0⟩))
  (d1 : ((b1 : Int) == 102) = false)
  (CP1 : Hid (∀ W, Calls Tryd.prog 80 #[.int .i64 (b1 : Int)] W fun e w' => e = .returned (.bool false) ∧ W = w'))
  (r1 : (((b1 : Int) / 16 == 4)) = false)
  (hb1 : b1 < 256)
  (s1 : ((b1 : Int) == 15) = false)
  (z : Shp) (hz : (z.f == 0) = true) (CS : Hid (∀ W, Calls Tryd.prog 81 #[.bool false, .int .i64 (b1 : Int)] W fun e w' => e = .returned (shpV z) ∧ Below W.heap.size W w'))
  (K2 : Hid (∀ W, IAt W0 W g ⟨s, n + 1, 0, false, 0⟩ → Calls Tryd.prog 50 #[.pointer (some ⟨g, 0, none⟩), .int .i64 11] W fun e w' => e = .returned (.tuple #[]) ∧ IWr W0 W w' g ⟨s, n + 1, 0, false, 11⟩)) :
    Calls Tryd.prog 46 #[.pointer (some ⟨g, 0, none⟩)] w fun e w' => e = .returned (.tuple #[shpV z, .int .i64 (b1 : Int)]) ∧ IWr W0 w w' g ⟨s, n + 1, 0, false, 11⟩ := by
  have M0 := Lib.hid (Hd.new h)
  clear h
  obtain ⟨zo, zf, zg, zy, zr⟩ := z
  simp only at hz
  have nd1 : ((b1 : Int) != 102) = true := by rw [bne, d1]; rfl
  have hb1' : (b1 : Int) < 256 := by omega
  go_enter Tryd.func46, Tryd.ntmps46
  go_upto_region 1 with fail
  refine abs_world (T := fun W => Hd W0 w W g ⟨s, n, 0, false, 0⟩) (G := fun W => Code.wp _ _ _ _ W) _ (M0.out) ?_
  clear M0
  intro W M
  apply wp_region_list
  refine Great.wpList_runTo rfl (some 7) rfl (.pointer (some ⟨g, 0, none⟩)) W (by first | (go_simp; done) | rfl) ?_
  simp only [Act.put, List.setIfInBounds_toArray, List.set_cons_zero, List.set_cons_succ]
  have M0 := Lib.hid M
  clear M
  refine callStep rfl (some 8) rfl 48 #[.pointer (some ⟨g, 0, none⟩)] (by first | (go_simp; done) | rfl) (K1.out _ M0.out.at') ?_
  rintro e W ⟨rfl, hw⟩
  refine ⟨.int .i64 (b1 : Int), rfl, ?_⟩
  simp only [Act.put, List.setIfInBounds_toArray, List.set_cons_zero, List.set_cons_succ]
  have M := M0.out.wr hw
  clear hw M0
  refine Great.wpList_runTo rfl (some 4) rfl (.int .i64 (b1 : Int)) W (by first | (go_simp; done) | rfl) ?_
  simp only [Act.put, List.setIfInBounds_toArray, List.set_cons_zero, List.set_cons_succ]
  go_wp2_with fail
  refine wp_loop_rounds 1 ?_
  rw [rounds_succ]
  have c2 := M.at'.rb.cell 2; have c3 := M.at'.rb.cell 3; have c4 := M.at'.rb.cell 4
  simp only [inA, List.getElem?_toArray, List.getElem?_cons_zero, List.getElem?_cons_succ] at c2 c3 c4
  have f2 := M.at'.rb.free 2; have f3 := M.at'.rb.free 3
  go_upto_region 7 with (go_at_call 80; refine (CP1.out _).mono ?_; rintro e w9 ⟨rfl, rfl⟩)
  go_upto_region 10 with fail
  go_upto_region 13 with fail
  clear c2 c3 c4 f2 f3
  apply wp_region_list
  refine Great.wpList_runTo rfl (some 65) rfl (.bool false) W (by first | (go_simp; done) | rfl) ?_
  simp only [Act.put, List.setIfInBounds_toArray, List.set_cons_zero, List.set_cons_succ]
  refine Great.wpList_runTo rfl (some 66) rfl (.int .i64 (b1 : Int)) W (by first | (go_simp; done) | rfl) ?_
  simp only [Act.put, List.setIfInBounds_toArray, List.set_cons_zero, List.set_cons_succ]
  have M0 := Lib.hid M
  clear M
  refine callStep rfl (some 67) rfl 81 #[.bool false, .int .i64 (b1 : Int)] (by first | (go_simp; done) | rfl) (CS.out _) ?_
  rintro e W ⟨rfl, hw⟩
  refine ⟨shpV ⟨zo, zf, zg, zy, zr⟩, rfl, ?_⟩
  simp only [Act.put, List.setIfInBounds_toArray, List.set_cons_zero, List.set_cons_succ]
  have M := M0.out.below hw
  clear hw M0
  have l6 : w.heap.size + 1 ≤ W.heap.size := Hd.sz1 M
  obtain ⟨W6, hW6⟩ : ∃ k, k = W.heap.size := ⟨_, rfl⟩
  refine Great.wpList_runTo rfl (some 6) rfl (.pointer (some ⟨W.heap.size, 0, none⟩)) (W.alloc (.cells #[.int .i64 0, .int .i64 0, .int .i64 0, .bool false, .int .i64 0] 55)) (by first | (go_simp; done) | rfl) ?_
  simp only [Act.put, List.setIfInBounds_toArray, List.set_cons_zero, List.set_cons_succ]
  refine wpList_store_row rfl 55 (.tmp 6) (.tmp 67) rfl (W.heap.size) (shpA ⟨zo, zf, zg, zy, zr⟩) ?_ ?_ 55 _ (heap_alloc_new W _) (by kernel_rfl) rfl (shpA_one _) ?_
  · rfl
  · rfl
  go_upto_region 14 with fail
  refine abs_world (T := fun W => Hd W0 w W g ⟨s, n + 1, 0, false, 0⟩ ∧ ZB W W6 ⟨zo, zf, zg, zy, zr⟩) (G := fun W => Code.wp _ _ _ _ W) _ (by rw [hW6]; exact ⟨(M.below (bel_alloc _ _)).row l6 (shpA ⟨zo, zf, zg, zy, zr⟩), setRow_heap _ _ _ _ _ _ (heap_alloc_new W _)⟩) ?_
  rw [← hW6]
  rw [← hW6] at l6
  clear hW6 M
  intro W ⟨M, z6⟩
  have zz := z6.cell 1
  simp only [insV, insA, shpA, List.getElem?_toArray, List.getElem?_cons_zero, List.getElem?_cons_succ] at zz
  go_upto_region 15 with fail
  clear zz
  have z60 := Lib.hid z6
  clear z6
  apply wp_region_list
  refine Great.wpList_runTo rfl (some 71) rfl (.pointer (some ⟨g, 0, none⟩)) W (by first | (go_simp; done) | rfl) ?_
  simp only [Act.put, List.setIfInBounds_toArray, List.set_cons_zero, List.set_cons_succ]
  have M0 := Lib.hid M
  clear M
  refine callStep rfl (some 72) rfl 50 #[.pointer (some ⟨g, 0, none⟩), .int .i64 11] (by first | (go_simp; done) | rfl) (K2.out _ M0.out.at') ?_
  rintro e W ⟨rfl, hw⟩
  refine ⟨.tuple #[], rfl, ?_⟩
  simp only [Act.put, List.setIfInBounds_toArray, List.set_cons_zero, List.set_cons_succ]
  have M := M0.out.wr hw; have z6 : ZB W W6 ⟨zo, zf, zg, zy, zr⟩ := (hw.2.block _ (lt_of_blk z60.out) (fun e => by have := M0.out.ne; have := Option.some.inj e; omega)).trans z60.out
  clear hw M0
  clear z60
  go_upto_region 16 with fail
  apply wp_region_list
  refine wpList_load_row rfl 55 (.tmp 6) rfl (W6) rfl 55 (shpA ⟨zo, zf, zg, zy, zr⟩) (0, 0) _ (z6) Tryd.underlying55 rfl (by kernel_rfl) ?_
  simp only [Act.put, List.setIfInBounds_toArray, List.set_cons_zero, List.set_cons_succ]
  refine Great.wpList_runTo rfl (some 74) rfl (.int .i64 (b1 : Int)) W (by first | (go_simp; done) | rfl) ?_
  simp only [Act.put, List.setIfInBounds_toArray, List.set_cons_zero, List.set_cons_succ]
  refine wpList_store_row rfl 55 (.tmp 2) (.tmp 73) rfl (w.heap.size) (shpA ⟨zo, zf, zg, zy, zr⟩) ?_ ?_ 55 _ (M.r) (by kernel_rfl) rfl (shpA_one _) ?_
  · rfl
  · rfl
  go_wp2_with fail
  refine bodyPost_ret (v := .tuple #[.agg (shpA ⟨zo, zf, zg, zy, zr⟩), .int .i64 (b1 : Int)]) (by exact results_cell_row2 Tryd.results46 _ _ w.heap.size 55 (shpA ⟨zo, zf, zg, zy, zr⟩) (0, 0) _ rfl (setRow_heap _ _ _ _ _ _ M.r) Tryd.underlying55 rfl (by kernel_rfl)) (by rfl) ⟨rfl, M.fin _⟩
set_option maxRecDepth 100000 in
set_option maxHeartbeats 2000000 in
theorem hdN_two (g n : Nat) (s : ByteArray) (W0 w : World) (h : IAt W0 w g ⟨s, n, 0, false, 0⟩)
  (b1 : Nat)
  (K1 : Hid (∀ W, IAt W0 W g ⟨s, n, 0, false, 0⟩ → Calls Tryd.prog 48 #[.pointer (some ⟨g, 0, none⟩)] W fun e w' => e = .returned (.int .i64 (b1 : Int)) ∧ IWr W0 W w' g ⟨s, n + 1, 0, false, 0⟩))
  (d1 : ((b1 : Int) == 102) = false)
  (CP1 : Hid (∀ W, Calls Tryd.prog 80 #[.int .i64 (b1 : Int)] W fun e w' => e = .returned (.bool false) ∧ W = w'))
  (r1 : (((b1 : Int) / 16 == 4)) = false)
  (hb1 : b1 < 256)
  (s1 : ((b1 : Int) == 15) = true)
  (b2 : Nat)
  (K2 : Hid (∀ W, IAt W0 W g ⟨s, n + 1, 0, false, 0⟩ → Calls Tryd.prog 48 #[.pointer (some ⟨g, 0, none⟩)] W fun e w' => e = .returned (.int .i64 (b2 : Int)) ∧ IWr W0 W w' g ⟨s, n + 2, 0, false, 0⟩))
  (z : Shp) (hz : (z.f == 0) = false) (CS : Hid (∀ W, Calls Tryd.prog 81 #[.bool true, .int .i64 (b2 : Int)] W fun e w' => e = .returned (shpV z) ∧ Below W.heap.size W w')) :
    Calls Tryd.prog 46 #[.pointer (some ⟨g, 0, none⟩)] w fun e w' => e = .returned (.tuple #[shpV z, .int .i64 (b2 : Int)]) ∧ IWr W0 w w' g ⟨s, n + 2, 0, false, 0⟩ := by
  have M0 := Lib.hid (Hd.new h)
  clear h
  obtain ⟨zo, zf, zg, zy, zr⟩ := z
  simp only at hz
  have nd1 : ((b1 : Int) != 102) = true := by rw [bne, d1]; rfl
  have hb1' : (b1 : Int) < 256 := by omega
  go_enter Tryd.func46, Tryd.ntmps46
  go_upto_region 1 with fail
  refine abs_world (T := fun W => Hd W0 w W g ⟨s, n, 0, false, 0⟩) (G := fun W => Code.wp _ _ _ _ W) _ (M0.out) ?_
  clear M0
  intro W M
  apply wp_region_list
  refine Great.wpList_runTo rfl (some 7) rfl (.pointer (some ⟨g, 0, none⟩)) W (by first | (go_simp; done) | rfl) ?_
  simp only [Act.put, List.setIfInBounds_toArray, List.set_cons_zero, List.set_cons_succ]
  have M0 := Lib.hid M
  clear M
  refine callStep rfl (some 8) rfl 48 #[.pointer (some ⟨g, 0, none⟩)] (by first | (go_simp; done) | rfl) (K1.out _ M0.out.at') ?_
  rintro e W ⟨rfl, hw⟩
  refine ⟨.int .i64 (b1 : Int), rfl, ?_⟩
  simp only [Act.put, List.setIfInBounds_toArray, List.set_cons_zero, List.set_cons_succ]
  have M := M0.out.wr hw
  clear hw M0
  refine Great.wpList_runTo rfl (some 4) rfl (.int .i64 (b1 : Int)) W (by first | (go_simp; done) | rfl) ?_
  simp only [Act.put, List.setIfInBounds_toArray, List.set_cons_zero, List.set_cons_succ]
  go_wp2_with fail
  refine wp_loop_rounds 1 ?_
  rw [rounds_succ]
  have c2 := M.at'.rb.cell 2; have c3 := M.at'.rb.cell 3; have c4 := M.at'.rb.cell 4
  simp only [inA, List.getElem?_toArray, List.getElem?_cons_zero, List.getElem?_cons_succ] at c2 c3 c4
  have f2 := M.at'.rb.free 2; have f3 := M.at'.rb.free 3
  go_upto_region 7 with (go_at_call 80; refine (CP1.out _).mono ?_; rintro e w9 ⟨rfl, rfl⟩)
  go_upto_region 10 with fail
  go_upto_region 12 with fail
  clear c2 c3 c4 f2 f3
  apply wp_region_list
  refine Great.wpList_runTo rfl (some 63) rfl (.pointer (some ⟨g, 0, none⟩)) W (by first | (go_simp; done) | rfl) ?_
  simp only [Act.put, List.setIfInBounds_toArray, List.set_cons_zero, List.set_cons_succ]
  have M0 := Lib.hid M
  clear M
  refine callStep rfl (some 64) rfl 48 #[.pointer (some ⟨g, 0, none⟩)] (by first | (go_simp; done) | rfl) (K2.out _ M0.out.at') ?_
  rintro e W ⟨rfl, hw⟩
  refine ⟨.int .i64 (b2 : Int), rfl, ?_⟩
  simp only [Act.put, List.setIfInBounds_toArray, List.set_cons_zero, List.set_cons_succ]
  have M := M0.out.wr hw
  clear hw M0
  refine Great.wpList_runTo rfl (some 4) rfl (.int .i64 (b2 : Int)) W (by first | (go_simp; done) | rfl) ?_
  simp only [Act.put, List.setIfInBounds_toArray, List.set_cons_zero, List.set_cons_succ]
  go_upto_region 13 with fail
  apply wp_region_list
  refine Great.wpList_runTo rfl (some 65) rfl (.bool true) W (by first | (go_simp; done) | rfl) ?_
  simp only [Act.put, List.setIfInBounds_toArray, List.set_cons_zero, List.set_cons_succ]
  refine Great.wpList_runTo rfl (some 66) rfl (.int .i64 (b2 : Int)) W (by first | (go_simp; done) | rfl) ?_
  simp only [Act.put, List.setIfInBounds_toArray, List.set_cons_zero, List.set_cons_succ]
  have M0 := Lib.hid M
  clear M
  refine callStep rfl (some 67) rfl 81 #[.bool true, .int .i64 (b2 : Int)] (by first | (go_simp; done) | rfl) (CS.out _) ?_
  rintro e W ⟨rfl, hw⟩
  refine ⟨shpV ⟨zo, zf, zg, zy, zr⟩, rfl, ?_⟩
  simp only [Act.put, List.setIfInBounds_toArray, List.set_cons_zero, List.set_cons_succ]
  have M := M0.out.below hw
  clear hw M0
  have l6 : w.heap.size + 1 ≤ W.heap.size := Hd.sz1 M
  obtain ⟨W6, hW6⟩ : ∃ k, k = W.heap.size := ⟨_, rfl⟩
  refine Great.wpList_runTo rfl (some 6) rfl (.pointer (some ⟨W.heap.size, 0, none⟩)) (W.alloc (.cells #[.int .i64 0, .int .i64 0, .int .i64 0, .bool false, .int .i64 0] 55)) (by first | (go_simp; done) | rfl) ?_
  simp only [Act.put, List.setIfInBounds_toArray, List.set_cons_zero, List.set_cons_succ]
  refine wpList_store_row rfl 55 (.tmp 6) (.tmp 67) rfl (W.heap.size) (shpA ⟨zo, zf, zg, zy, zr⟩) ?_ ?_ 55 _ (heap_alloc_new W _) (by kernel_rfl) rfl (shpA_one _) ?_
  · rfl
  · rfl
  go_upto_region 14 with fail
  refine abs_world (T := fun W => Hd W0 w W g ⟨s, n + 2, 0, false, 0⟩ ∧ ZB W W6 ⟨zo, zf, zg, zy, zr⟩) (G := fun W => Code.wp _ _ _ _ W) _ (by rw [hW6]; exact ⟨(M.below (bel_alloc _ _)).row l6 (shpA ⟨zo, zf, zg, zy, zr⟩), setRow_heap _ _ _ _ _ _ (heap_alloc_new W _)⟩) ?_
  rw [← hW6]
  rw [← hW6] at l6
  clear hW6 M
  intro W ⟨M, z6⟩
  have zz := z6.cell 1
  simp only [insV, insA, shpA, List.getElem?_toArray, List.getElem?_cons_zero, List.getElem?_cons_succ] at zz
  go_upto_region 16 with fail
  clear zz
  apply wp_region_list
  refine wpList_load_row rfl 55 (.tmp 6) rfl (W6) rfl 55 (shpA ⟨zo, zf, zg, zy, zr⟩) (0, 0) _ (z6) Tryd.underlying55 rfl (by kernel_rfl) ?_
  simp only [Act.put, List.setIfInBounds_toArray, List.set_cons_zero, List.set_cons_succ]
  refine Great.wpList_runTo rfl (some 74) rfl (.int .i64 (b2 : Int)) W (by first | (go_simp; done) | rfl) ?_
  simp only [Act.put, List.setIfInBounds_toArray, List.set_cons_zero, List.set_cons_succ]
  refine wpList_store_row rfl 55 (.tmp 2) (.tmp 73) rfl (w.heap.size) (shpA ⟨zo, zf, zg, zy, zr⟩) ?_ ?_ 55 _ (M.r) (by kernel_rfl) rfl (shpA_one _) ?_
  · rfl
  · rfl
  go_wp2_with fail
  refine bodyPost_ret (v := .tuple #[.agg (shpA ⟨zo, zf, zg, zy, zr⟩), .int .i64 (b2 : Int)]) (by exact results_cell_row2 Tryd.results46 _ _ w.heap.size 55 (shpA ⟨zo, zf, zg, zy, zr⟩) (0, 0) _ rfl (setRow_heap _ _ _ _ _ _ M.r) Tryd.underlying55 rfl (by kernel_rfl)) (by rfl) ⟨rfl, M.fin _⟩
set_option maxRecDepth 100000 in
set_option maxHeartbeats 2000000 in
theorem hdN_two0 (g n : Nat) (s : ByteArray) (W0 w : World) (h : IAt W0 w g ⟨s, n, 0, false, 0⟩)
  (b1 : Nat)
  (K1 : Hid (∀ W, IAt W0 W g ⟨s, n, 0, false, 0⟩ → Calls Tryd.prog 48 #[.pointer (some ⟨g, 0, none⟩)] W fun e w' => e = .returned (.int .i64 (b1 : Int)) ∧ IWr W0 W w' g ⟨s, n + 1, 0, false, 0⟩))
  (d1 : ((b1 : Int) == 102) = false)
  (CP1 : Hid (∀ W, Calls Tryd.prog 80 #[.int .i64 (b1 : Int)] W fun e w' => e = .returned (.bool false) ∧ W = w'))
  (r1 : (((b1 : Int) / 16 == 4)) = false)
  (hb1 : b1 < 256)
  (s1 : ((b1 : Int) == 15) = true)
  (b2 : Nat)
  (K2 : Hid (∀ W, IAt W0 W g ⟨s, n + 1, 0, false, 0⟩ → Calls Tryd.prog 48 #[.pointer (some ⟨g, 0, none⟩)] W fun e w' => e = .returned (.int .i64 (b2 : Int)) ∧ IWr W0 W w' g ⟨s, n + 2, 0, false, 0⟩))
  (z : Shp) (hz : (z.f == 0) = true) (CS : Hid (∀ W, Calls Tryd.prog 81 #[.bool true, .int .i64 (b2 : Int)] W fun e w' => e = .returned (shpV z) ∧ Below W.heap.size W w'))
  (K3 : Hid (∀ W, IAt W0 W g ⟨s, n + 2, 0, false, 0⟩ → Calls Tryd.prog 50 #[.pointer (some ⟨g, 0, none⟩), .int .i64 11] W fun e w' => e = .returned (.tuple #[]) ∧ IWr W0 W w' g ⟨s, n + 2, 0, false, 11⟩)) :
    Calls Tryd.prog 46 #[.pointer (some ⟨g, 0, none⟩)] w fun e w' => e = .returned (.tuple #[shpV z, .int .i64 (b2 : Int)]) ∧ IWr W0 w w' g ⟨s, n + 2, 0, false, 11⟩ := by
  have M0 := Lib.hid (Hd.new h)
  clear h
  obtain ⟨zo, zf, zg, zy, zr⟩ := z
  simp only at hz
  have nd1 : ((b1 : Int) != 102) = true := by rw [bne, d1]; rfl
  have hb1' : (b1 : Int) < 256 := by omega
  go_enter Tryd.func46, Tryd.ntmps46
  go_upto_region 1 with fail
  refine abs_world (T := fun W => Hd W0 w W g ⟨s, n, 0, false, 0⟩) (G := fun W => Code.wp _ _ _ _ W) _ (M0.out) ?_
  clear M0
  intro W M
  apply wp_region_list
  refine Great.wpList_runTo rfl (some 7) rfl (.pointer (some ⟨g, 0, none⟩)) W (by first | (go_simp; done) | rfl) ?_
  simp only [Act.put, List.setIfInBounds_toArray, List.set_cons_zero, List.set_cons_succ]
  have M0 := Lib.hid M
  clear M
  refine callStep rfl (some 8) rfl 48 #[.pointer (some ⟨g, 0, none⟩)] (by first | (go_simp; done) | rfl) (K1.out _ M0.out.at') ?_
  rintro e W ⟨rfl, hw⟩
  refine ⟨.int .i64 (b1 : Int), rfl, ?_⟩
  simp only [Act.put, List.setIfInBounds_toArray, List.set_cons_zero, List.set_cons_succ]
  have M := M0.out.wr hw
  clear hw M0
  refine Great.wpList_runTo rfl (some 4) rfl (.int .i64 (b1 : Int)) W (by first | (go_simp; done) | rfl) ?_
  simp only [Act.put, List.setIfInBounds_toArray, List.set_cons_zero, List.set_cons_succ]
  go_wp2_with fail
  refine wp_loop_rounds 1 ?_
  rw [rounds_succ]
  have c2 := M.at'.rb.cell 2; have c3 := M.at'.rb.cell 3; have c4 := M.at'.rb.cell 4
  simp only [inA, List.getElem?_toArray, List.getElem?_cons_zero, List.getElem?_cons_succ] at c2 c3 c4
  have f2 := M.at'.rb.free 2; have f3 := M.at'.rb.free 3
  go_upto_region 7 with (go_at_call 80; refine (CP1.out _).mono ?_; rintro e w9 ⟨rfl, rfl⟩)
  go_upto_region 10 with fail
  go_upto_region 12 with fail
  clear c2 c3 c4 f2 f3
  apply wp_region_list
  refine Great.wpList_runTo rfl (some 63) rfl (.pointer (some ⟨g, 0, none⟩)) W (by first | (go_simp; done) | rfl) ?_
  simp only [Act.put, List.setIfInBounds_toArray, List.set_cons_zero, List.set_cons_succ]
  have M0 := Lib.hid M
  clear M
  refine callStep rfl (some 64) rfl 48 #[.pointer (some ⟨g, 0, none⟩)] (by first | (go_simp; done) | rfl) (K2.out _ M0.out.at') ?_
  rintro e W ⟨rfl, hw⟩
  refine ⟨.int .i64 (b2 : Int), rfl, ?_⟩
  simp only [Act.put, List.setIfInBounds_toArray, List.set_cons_zero, List.set_cons_succ]
  have M := M0.out.wr hw
  clear hw M0
  refine Great.wpList_runTo rfl (some 4) rfl (.int .i64 (b2 : Int)) W (by first | (go_simp; done) | rfl) ?_
  simp only [Act.put, List.setIfInBounds_toArray, List.set_cons_zero, List.set_cons_succ]
  go_upto_region 13 with fail
  apply wp_region_list
  refine Great.wpList_runTo rfl (some 65) rfl (.bool true) W (by first | (go_simp; done) | rfl) ?_
  simp only [Act.put, List.setIfInBounds_toArray, List.set_cons_zero, List.set_cons_succ]
  refine Great.wpList_runTo rfl (some 66) rfl (.int .i64 (b2 : Int)) W (by first | (go_simp; done) | rfl) ?_
  simp only [Act.put, List.setIfInBounds_toArray, List.set_cons_zero, List.set_cons_succ]
  have M0 := Lib.hid M
  clear M
  refine callStep rfl (some 67) rfl 81 #[.bool true, .int .i64 (b2 : Int)] (by first | (go_simp; done) | rfl) (CS.out _) ?_
  rintro e W ⟨rfl, hw⟩
  refine ⟨shpV ⟨zo, zf, zg, zy, zr⟩, rfl, ?_⟩
  simp only [Act.put, List.setIfInBounds_toArray, List.set_cons_zero, List.set_cons_succ]
  have M := M0.out.below hw
  clear hw M0
  have l6 : w.heap.size + 1 ≤ W.heap.size := Hd.sz1 M
  obtain ⟨W6, hW6⟩ : ∃ k, k = W.heap.size := ⟨_, rfl⟩
  refine Great.wpList_runTo rfl (some 6) rfl (.pointer (some ⟨W.heap.size, 0, none⟩)) (W.alloc (.cells #[.int .i64 0, .int .i64 0, .int .i64 0, .bool false, .int .i64 0] 55)) (by first | (go_simp; done) | rfl) ?_
  simp only [Act.put, List.setIfInBounds_toArray, List.set_cons_zero, List.set_cons_succ]
  refine wpList_store_row rfl 55 (.tmp 6) (.tmp 67) rfl (W.heap.size) (shpA ⟨zo, zf, zg, zy, zr⟩) ?_ ?_ 55 _ (heap_alloc_new W _) (by kernel_rfl) rfl (shpA_one _) ?_
  · rfl
  · rfl
  go_upto_region 14 with fail
  refine abs_world (T := fun W => Hd W0 w W g ⟨s, n + 2, 0, false, 0⟩ ∧ ZB W W6 ⟨zo, zf, zg, zy, zr⟩) (G := fun W => Code.wp _ _ _ _ W) _ (by rw [hW6]; exact ⟨(M.below (bel_alloc _ _)).row l6 (shpA ⟨zo, zf, zg, zy, zr⟩), setRow_heap _ _ _ _ _ _ (heap_alloc_new W _)⟩) ?_
  rw [← hW6]
  rw [← hW6] at l6
  clear hW6 M
  intro W ⟨M, z6⟩
  have zz := z6.cell 1
  simp only [insV, insA, shpA, List.getElem?_toArray, List.getElem?_cons_zero, List.getElem?_cons_succ] at zz
  go_upto_region 15 with fail
  clear zz
  have z60 := Lib.hid z6
  clear z6
  apply wp_region_list
  refine Great.wpList_runTo rfl (some 71) rfl (.pointer (some ⟨g, 0, none⟩)) W (by first | (go_simp; done) | rfl) ?_
  simp only [Act.put, List.setIfInBounds_toArray, List.set_cons_zero, List.set_cons_succ]
  have M0 := Lib.hid M
  clear M
  refine callStep rfl (some 72) rfl 50 #[.pointer (some ⟨g, 0, none⟩), .int .i64 11] (by first | (go_simp; done) | rfl) (K3.out _ M0.out.at') ?_
  rintro e W ⟨rfl, hw⟩
  refine ⟨.tuple #[], rfl, ?_⟩
  simp only [Act.put, List.setIfInBounds_toArray, List.set_cons_zero, List.set_cons_succ]
  have M := M0.out.wr hw; have z6 : ZB W W6 ⟨zo, zf, zg, zy, zr⟩ := (hw.2.block _ (lt_of_blk z60.out) (fun e => by have := M0.out.ne; have := Option.some.inj e; omega)).trans z60.out
  clear hw M0
  clear z60
  go_upto_region 16 with fail
  apply wp_region_list
  refine wpList_load_row rfl 55 (.tmp 6) rfl (W6) rfl 55 (shpA ⟨zo, zf, zg, zy, zr⟩) (0, 0) _ (z6) Tryd.underlying55 rfl (by kernel_rfl) ?_
  simp only [Act.put, List.setIfInBounds_toArray, List.set_cons_zero, List.set_cons_succ]
  refine Great.wpList_runTo rfl (some 74) rfl (.int .i64 (b2 : Int)) W (by first | (go_simp; done) | rfl) ?_
  simp only [Act.put, List.setIfInBounds_toArray, List.set_cons_zero, List.set_cons_succ]
  refine wpList_store_row rfl 55 (.tmp 2) (.tmp 73) rfl (w.heap.size) (shpA ⟨zo, zf, zg, zy, zr⟩) ?_ ?_ 55 _ (M.r) (by kernel_rfl) rfl (shpA_one _) ?_
  · rfl
  · rfl
  go_wp2_with fail
  refine bodyPost_ret (v := .tuple #[.agg (shpA ⟨zo, zf, zg, zy, zr⟩), .int .i64 (b2 : Int)]) (by exact results_cell_row2 Tryd.results46 _ _ w.heap.size 55 (shpA ⟨zo, zf, zg, zy, zr⟩) (0, 0) _ rfl (setRow_heap _ _ _ _ _ _ M.r) Tryd.underlying55 rfl (by kernel_rfl)) (by rfl) ⟨rfl, M.fin _⟩
set_option maxRecDepth 100000 in
set_option maxHeartbeats 2000000 in
theorem hdN_twoend (g n : Nat) (s : ByteArray) (W0 w : World) (h : IAt W0 w g ⟨s, n, 0, false, 0⟩)
  (b1 : Nat)
  (K1 : Hid (∀ W, IAt W0 W g ⟨s, n, 0, false, 0⟩ → Calls Tryd.prog 48 #[.pointer (some ⟨g, 0, none⟩)] W fun e w' => e = .returned (.int .i64 (b1 : Int)) ∧ IWr W0 W w' g ⟨s, n + 1, 0, false, 0⟩))
  (d1 : ((b1 : Int) == 102) = false)
  (CP1 : Hid (∀ W, Calls Tryd.prog 80 #[.int .i64 (b1 : Int)] W fun e w' => e = .returned (.bool false) ∧ W = w'))
  (r1 : (((b1 : Int) / 16 == 4)) = false)
  (hb1 : b1 < 256)
  (s1 : ((b1 : Int) == 15) = true)
  (K2 : Hid (∀ W, IAt W0 W g ⟨s, n + 1, 0, false, 0⟩ → Calls Tryd.prog 48 #[.pointer (some ⟨g, 0, none⟩)] W fun e w' => e = .returned (.int .i64 0) ∧ IWr W0 W w' g ⟨s, n + 1, 0, false, 9⟩))
  (z : Shp) (hz : (z.f == 0) = true) (CS : Hid (∀ W, Calls Tryd.prog 81 #[.bool true, .int .i64 0] W fun e w' => e = .returned (shpV z) ∧ Below W.heap.size W w'))
  (K3 : Hid (∀ W, IAt W0 W g ⟨s, n + 1, 0, false, 9⟩ → Calls Tryd.prog 50 #[.pointer (some ⟨g, 0, none⟩), .int .i64 11] W fun e w' => e = .returned (.tuple #[]) ∧ IWr W0 W w' g ⟨s, n + 1, 0, false, 9⟩)) :
    Calls Tryd.prog 46 #[.pointer (some ⟨g, 0, none⟩)] w fun e w' => e = .returned (.tuple #[shpV z, .int .i64 0]) ∧ IWr W0 w w' g ⟨s, n + 1, 0, false, 9⟩ := by
  have M0 := Lib.hid (Hd.new h)
  clear h
  obtain ⟨zo, zf, zg, zy, zr⟩ := z
  simp only at hz
  have nd1 : ((b1 : Int) != 102) = true := by rw [bne, d1]; rfl
  have hb1' : (b1 : Int) < 256 := by omega
  go_enter Tryd.func46, Tryd.ntmps46
  go_upto_region 1 with fail
  refine abs_world (T := fun W => Hd W0 w W g ⟨s, n, 0, false, 0⟩) (G := fun W => Code.wp _ _ _ _ W) _ (M0.out) ?_
  clear M0
  intro W M
  apply wp_region_list
  refine Great.wpList_runTo rfl (some 7) rfl (.pointer (some ⟨g, 0, none⟩)) W (by first | (go_simp; done) | rfl) ?_
  simp only [Act.put, List.setIfInBounds_toArray, List.set_cons_zero, List.set_cons_succ]
  have M0 := Lib.hid M
  clear M
  refine callStep rfl (some 8) rfl 48 #[.pointer (some ⟨g, 0, none⟩)] (by first | (go_simp; done) | rfl) (K1.out _ M0.out.at') ?_
  rintro e W ⟨rfl, hw⟩
  refine ⟨.int .i64 (b1 : Int), rfl, ?_⟩
  simp only [Act.put, List.setIfInBounds_toArray, List.set_cons_zero, List.set_cons_succ]
  have M := M0.out.wr hw
  clear hw M0
  refine Great.wpList_runTo rfl (some 4) rfl (.int .i64 (b1 : Int)) W (by first | (go_simp; done) | rfl) ?_
  simp only [Act.put, List.setIfInBounds_toArray, List.set_cons_zero, List.set_cons_succ]
  go_wp2_with fail
  refine wp_loop_rounds 1 ?_
  rw [rounds_succ]
  have c2 := M.at'.rb.cell 2; have c3 := M.at'.rb.cell 3; have c4 := M.at'.rb.cell 4
  simp only [inA, List.getElem?_toArray, List.getElem?_cons_zero, List.getElem?_cons_succ] at c2 c3 c4
  have f2 := M.at'.rb.free 2; have f3 := M.at'.rb.free 3
  go_upto_region 7 with (go_at_call 80; refine (CP1.out _).mono ?_; rintro e w9 ⟨rfl, rfl⟩)
  go_upto_region 10 with fail
  go_upto_region 12 with fail
  clear c2 c3 c4 f2 f3
  apply wp_region_list
  refine Great.wpList_runTo rfl (some 63) rfl (.pointer (some ⟨g, 0, none⟩)) W (by first | (go_simp; done) | rfl) ?_
  simp only [Act.put, List.setIfInBounds_toArray, List.set_cons_zero, List.set_cons_succ]
  have M0 := Lib.hid M
  clear M
  refine callStep rfl (some 64) rfl 48 #[.pointer (some ⟨g, 0, none⟩)] (by first | (go_simp; done) | rfl) (K2.out _ M0.out.at') ?_
  rintro e W ⟨rfl, hw⟩
  refine ⟨.int .i64 0, rfl, ?_⟩
  simp only [Act.put, List.setIfInBounds_toArray, List.set_cons_zero, List.set_cons_succ]
  have M := M0.out.wr hw
  clear hw M0
  refine Great.wpList_runTo rfl (some 4) rfl (.int .i64 0) W (by first | (go_simp; done) | rfl) ?_
  simp only [Act.put, List.setIfInBounds_toArray, List.set_cons_zero, List.set_cons_succ]
  go_upto_region 13 with fail
  apply wp_region_list
  refine Great.wpList_runTo rfl (some 65) rfl (.bool true) W (by first | (go_simp; done) | rfl) ?_
  simp only [Act.put, List.setIfInBounds_toArray, List.set_cons_zero, List.set_cons_succ]
  refine Great.wpList_runTo rfl (some 66) rfl (.int .i64 0) W (by first | (go_simp; done) | rfl) ?_
  simp only [Act.put, List.setIfInBounds_toArray, List.set_cons_zero, List.set_cons_succ]
  have M0 := Lib.hid M
  clear M
  refine callStep rfl (some 67) rfl 81 #[.bool true, .int .i64 0] (by first | (go_simp; done) | rfl) (CS.out _) ?_
  rintro e W ⟨rfl, hw⟩
  refine ⟨shpV ⟨zo, zf, zg, zy, zr⟩, rfl, ?_⟩
  simp only [Act.put, List.setIfInBounds_toArray, List.set_cons_zero, List.set_cons_succ]
  have M := M0.out.below hw
  clear hw M0
  have l6 : w.heap.size + 1 ≤ W.heap.size := Hd.sz1 M
  obtain ⟨W6, hW6⟩ : ∃ k, k = W.heap.size := ⟨_, rfl⟩
  refine Great.wpList_runTo rfl (some 6) rfl (.pointer (some ⟨W.heap.size, 0, none⟩)) (W.alloc (.cells #[.int .i64 0, .int .i64 0, .int .i64 0, .bool false, .int .i64 0] 55)) (by first | (go_simp; done) | rfl) ?_
  simp only [Act.put, List.setIfInBounds_toArray, List.set_cons_zero, List.set_cons_succ]
  refine wpList_store_row rfl 55 (.tmp 6) (.tmp 67) rfl (W.heap.size) (shpA ⟨zo, zf, zg, zy, zr⟩) ?_ ?_ 55 _ (heap_alloc_new W _) (by kernel_rfl) rfl (shpA_one _) ?_
  · rfl
  · rfl
  go_upto_region 14 with fail
  refine abs_world (T := fun W => Hd W0 w W g ⟨s, n + 1, 0, false, 9⟩ ∧ ZB W W6 ⟨zo, zf, zg, zy, zr⟩) (G := fun W => Code.wp _ _ _ _ W) _ (by rw [hW6]; exact ⟨(M.below (bel_alloc _ _)).row l6 (shpA ⟨zo, zf, zg, zy, zr⟩), setRow_heap _ _ _ _ _ _ (heap_alloc_new W _)⟩) ?_
  rw [← hW6]
  rw [← hW6] at l6
  clear hW6 M
  intro W ⟨M, z6⟩
  have zz := z6.cell 1
  simp only [insV, insA, shpA, List.getElem?_toArray, List.getElem?_cons_zero, List.getElem?_cons_succ] at zz
  go_upto_region 15 with fail
  clear zz
  have z60 := Lib.hid z6
  clear z6
  apply wp_region_list
  refine Great.wpList_runTo rfl (some 71) rfl (.pointer (some ⟨g, 0, none⟩)) W (by first | (go_simp; done) | rfl) ?_
  simp only [Act.put, List.setIfInBounds_toArray, List.set_cons_zero, List.set_cons_succ]
  have M0 := Lib.hid M
  clear M
  refine callStep rfl (some 72) rfl 50 #[.pointer (some ⟨g, 0, none⟩), .int .i64 11] (by first | (go_simp; done) | rfl) (K3.out _ M0.out.at') ?_
  rintro e W ⟨rfl, hw⟩
  refine ⟨.tuple #[], rfl, ?_⟩
  simp only [Act.put, List.setIfInBounds_toArray, List.set_cons_zero, List.set_cons_succ]
  have M := M0.out.wr hw; have z6 : ZB W W6 ⟨zo, zf, zg, zy, zr⟩ := (hw.2.block _ (lt_of_blk z60.out) (fun e => by have := M0.out.ne; have := Option.some.inj e; omega)).trans z60.out
  clear hw M0
  clear z60
  go_upto_region 16 with fail
  apply wp_region_list
  refine wpList_load_row rfl 55 (.tmp 6) rfl (W6) rfl 55 (shpA ⟨zo, zf, zg, zy, zr⟩) (0, 0) _ (z6) Tryd.underlying55 rfl (by kernel_rfl) ?_
  simp only [Act.put, List.setIfInBounds_toArray, List.set_cons_zero, List.set_cons_succ]
  refine Great.wpList_runTo rfl (some 74) rfl (.int .i64 0) W (by first | (go_simp; done) | rfl) ?_
  simp only [Act.put, List.setIfInBounds_toArray, List.set_cons_zero, List.set_cons_succ]
  refine wpList_store_row rfl 55 (.tmp 2) (.tmp 73) rfl (w.heap.size) (shpA ⟨zo, zf, zg, zy, zr⟩) ?_ ?_ 55 _ (M.r) (by kernel_rfl) rfl (shpA_one _) ?_
  · rfl
  · rfl
  go_wp2_with fail
  refine bodyPost_ret (v := .tuple #[.agg (shpA ⟨zo, zf, zg, zy, zr⟩), .int .i64 0]) (by exact results_cell_row2 Tryd.results46 _ _ w.heap.size 55 (shpA ⟨zo, zf, zg, zy, zr⟩) (0, 0) _ rfl (setRow_heap _ _ _ _ _ _ M.r) Tryd.underlying55 rfl (by kernel_rfl)) (by rfl) ⟨rfl, M.fin _⟩
set_option maxRecDepth 100000 in
set_option maxHeartbeats 2000000 in
theorem hdNX_one (g n : Nat) (s : ByteArray) (W0 w : World) (h : IAt W0 w g ⟨s, n, 0, false, 0⟩)
  (b1 : Nat)
  (K1 : Hid (∀ W, IAt W0 W g ⟨s, n, 0, false, 0⟩ → Calls Tryd.prog 48 #[.pointer (some ⟨g, 0, none⟩)] W fun e w' => e = .returned (.int .i64 (b1 : Int)) ∧ IWr W0 W w' g ⟨s, n + 1, 0, false, 0⟩))
  (d1 : ((b1 : Int) == 102) = false)
  (CP1 : Hid (∀ W, Calls Tryd.prog 80 #[.int .i64 (b1 : Int)] W fun e w' => e = .returned (.bool false) ∧ W = w'))
  (r1 : (((b1 : Int) / 16 == 4)) = true)
  (hb1 : b1 < 256)
  (hx80 : b1 < 80)
  (b2 : Nat)
  (K2 : Hid (∀ W, IAt W0 W g ⟨s, n + 1, b1, false, 0⟩ → Calls Tryd.prog 48 #[.pointer (some ⟨g, 0, none⟩)] W fun e w' => e = .returned (.int .i64 (b2 : Int)) ∧ IWr W0 W w' g ⟨s, n + 2, b1, false, 0⟩))
  (s2 : ((b2 : Int) == 15) = false)
  (z : Shp) (hz : (z.f == 0) = false) (CS : Hid (∀ W, Calls Tryd.prog 81 #[.bool false, .int .i64 (b2 : Int)] W fun e w' => e = .returned (shpV z) ∧ Below W.heap.size W w')) :
    Calls Tryd.prog 46 #[.pointer (some ⟨g, 0, none⟩)] w fun e w' => e = .returned (.tuple #[shpV z, .int .i64 (b2 : Int)]) ∧ IWr W0 w w' g ⟨s, n + 2, b1, false, 0⟩ := by
  have M0 := Lib.hid (Hd.new h)
  clear h
  obtain ⟨zo, zf, zg, zy, zr⟩ := z
  simp only at hz
  have nd1 : ((b1 : Int) != 102) = true := by rw [bne, d1]; rfl
  have hb1' : (b1 : Int) < 256 := by omega
  go_enter Tryd.func46, Tryd.ntmps46
  go_upto_region 1 with fail
  refine abs_world (T := fun W => Hd W0 w W g ⟨s, n, 0, false, 0⟩) (G := fun W => Code.wp _ _ _ _ W) _ (M0.out) ?_
  clear M0
  intro W M
  apply wp_region_list
  refine Great.wpList_runTo rfl (some 7) rfl (.pointer (some ⟨g, 0, none⟩)) W (by first | (go_simp; done) | rfl) ?_
  simp only [Act.put, List.setIfInBounds_toArray, List.set_cons_zero, List.set_cons_succ]
  have M0 := Lib.hid M
  clear M
  refine callStep rfl (some 8) rfl 48 #[.pointer (some ⟨g, 0, none⟩)] (by first | (go_simp; done) | rfl) (K1.out _ M0.out.at') ?_
  rintro e W ⟨rfl, hw⟩
  refine ⟨.int .i64 (b1 : Int), rfl, ?_⟩
  simp only [Act.put, List.setIfInBounds_toArray, List.set_cons_zero, List.set_cons_succ]
  have M := M0.out.wr hw
  clear hw M0
  refine Great.wpList_runTo rfl (some 4) rfl (.int .i64 (b1 : Int)) W (by first | (go_simp; done) | rfl) ?_
  simp only [Act.put, List.setIfInBounds_toArray, List.set_cons_zero, List.set_cons_succ]
  go_wp2_with fail
  refine wp_loop_rounds 1 ?_
  rw [rounds_succ]
  have c2 := M.at'.rb.cell 2; have c3 := M.at'.rb.cell 3; have c4 := M.at'.rb.cell 4
  simp only [inA, List.getElem?_toArray, List.getElem?_cons_zero, List.getElem?_cons_succ] at c2 c3 c4
  have f2 := M.at'.rb.free 2; have f3 := M.at'.rb.free 3
  go_upto_region 7 with (go_at_call 80; refine (CP1.out _).mono ?_; rintro e w9 ⟨rfl, rfl⟩)
  go_upto_region 8 with fail
  go_upto_region 9 with fail
  clear c2 c3 c4 f2 f3
  refine abs_world (T := fun W => Hd W0 w W g ⟨s, n + 1, b1, false, 0⟩) (G := fun W => Code.wp _ _ _ _ W) _ (M.setx hx80) ?_
  clear M
  intro W M
  apply wp_region_list
  refine Great.wpList_runTo rfl (some 51) rfl (.pointer (some ⟨g, 0, none⟩)) W (by first | (go_simp; done) | rfl) ?_
  simp only [Act.put, List.setIfInBounds_toArray, List.set_cons_zero, List.set_cons_succ]
  have M0 := Lib.hid M
  clear M
  refine callStep rfl (some 52) rfl 48 #[.pointer (some ⟨g, 0, none⟩)] (by first | (go_simp; done) | rfl) (K2.out _ M0.out.at') ?_
  rintro e W ⟨rfl, hw⟩
  refine ⟨.int .i64 (b2 : Int), rfl, ?_⟩
  simp only [Act.put, List.setIfInBounds_toArray, List.set_cons_zero, List.set_cons_succ]
  have M := M0.out.wr hw
  clear hw M0
  refine Great.wpList_runTo rfl (some 4) rfl (.int .i64 (b2 : Int)) W (by first | (go_simp; done) | rfl) ?_
  simp only [Act.put, List.setIfInBounds_toArray, List.set_cons_zero, List.set_cons_succ]
  go_upto_region 10 with fail
  have c2 := M.at'.rb.cell 2; have c3 := M.at'.rb.cell 3; have c4 := M.at'.rb.cell 4
  simp only [inA, List.getElem?_toArray, List.getElem?_cons_zero, List.getElem?_cons_succ] at c2 c3 c4
  have f2 := M.at'.rb.free 2; have f3 := M.at'.rb.free 3
  go_upto_region 13 with fail
  clear c2 c3 c4 f2 f3
  apply wp_region_list
  refine Great.wpList_runTo rfl (some 65) rfl (.bool false) W (by first | (go_simp; done) | rfl) ?_
  simp only [Act.put, List.setIfInBounds_toArray, List.set_cons_zero, List.set_cons_succ]
  refine Great.wpList_runTo rfl (some 66) rfl (.int .i64 (b2 : Int)) W (by first | (go_simp; done) | rfl) ?_
  simp only [Act.put, List.setIfInBounds_toArray, List.set_cons_zero, List.set_cons_succ]
  have M0 := Lib.hid M
  clear M
  refine callStep rfl (some 67) rfl 81 #[.bool false, .int .i64 (b2 : Int)] (by first | (go_simp; done) | rfl) (CS.out _) ?_
  rintro e W ⟨rfl, hw⟩
  refine ⟨shpV ⟨zo, zf, zg, zy, zr⟩, rfl, ?_⟩
  simp only [Act.put, List.setIfInBounds_toArray, List.set_cons_zero, List.set_cons_succ]
  have M := M0.out.below hw
  clear hw M0
  have l6 : w.heap.size + 1 ≤ W.heap.size := Hd.sz1 M
  obtain ⟨W6, hW6⟩ : ∃ k, k = W.heap.size := ⟨_, rfl⟩
  refine Great.wpList_runTo rfl (some 6) rfl (.pointer (some ⟨W.heap.size, 0, none⟩)) (W.alloc (.cells #[.int .i64 0, .int .i64 0, .int .i64 0, .bool false, .int .i64 0] 55)) (by first | (go_simp; done) | rfl) ?_
  simp only [Act.put, List.setIfInBounds_toArray, List.set_cons_zero, List.set_cons_succ]
  refine wpList_store_row rfl 55 (.tmp 6) (.tmp 67) rfl (W.heap.size) (shpA ⟨zo, zf, zg, zy, zr⟩) ?_ ?_ 55 _ (heap_alloc_new W _) (by kernel_rfl) rfl (shpA_one _) ?_
  · rfl
  · rfl
  go_upto_region 14 with fail
  refine abs_world (T := fun W => Hd W0 w W g ⟨s, n + 2, b1, false, 0⟩ ∧ ZB W W6 ⟨zo, zf, zg, zy, zr⟩) (G := fun W => Code.wp _ _ _ _ W) _ (by rw [hW6]; exact ⟨(M.below (bel_alloc _ _)).row l6 (shpA ⟨zo, zf, zg, zy, zr⟩), setRow_heap _ _ _ _ _ _ (heap_alloc_new W _)⟩) ?_
  rw [← hW6]
  rw [← hW6] at l6
  clear hW6 M
  intro W ⟨M, z6⟩
  have zz := z6.cell 1
  simp only [insV, insA, shpA, List.getElem?_toArray, List.getElem?_cons_zero, List.getElem?_cons_succ] at zz
  go_upto_region 16 with fail
  clear zz
  apply wp_region_list
  refine wpList_load_row rfl 55 (.tmp 6) rfl (W6) rfl 55 (shpA ⟨zo, zf, zg, zy, zr⟩) (0, 0) _ (z6) Tryd.underlying55 rfl (by kernel_rfl) ?_
  simp only [Act.put, List.setIfInBounds_toArray, List.set_cons_zero, List.set_cons_succ]
  refine Great.wpList_runTo rfl (some 74) rfl (.int .i64 (b2 : Int)) W (by first | (go_simp; done) | rfl) ?_
  simp only [Act.put, List.setIfInBounds_toArray, List.set_cons_zero, List.set_cons_succ]
  refine wpList_store_row rfl 55 (.tmp 2) (.tmp 73) rfl (w.heap.size) (shpA ⟨zo, zf, zg, zy, zr⟩) ?_ ?_ 55 _ (M.r) (by kernel_rfl) rfl (shpA_one _) ?_
  · rfl
  · rfl
  go_wp2_with fail
  refine bodyPost_ret (v := .tuple #[.agg (shpA ⟨zo, zf, zg, zy, zr⟩), .int .i64 (b2 : Int)]) (by exact results_cell_row2 Tryd.results46 _ _ w.heap.size 55 (shpA ⟨zo, zf, zg, zy, zr⟩) (0, 0) _ rfl (setRow_heap _ _ _ _ _ _ M.r) Tryd.underlying55 rfl (by kernel_rfl)) (by rfl) ⟨rfl, M.fin _⟩
set_option maxRecDepth 100000 in
set_option maxHeartbeats 2000000 in
theorem hdNX_one0 (g n : Nat) (s : ByteArray) (W0 w : World) (h : IAt W0 w g ⟨s, n, 0, false, 0⟩)
  (b1 : Nat)
  (K1 : Hid (∀ W, IAt W0 W g ⟨s, n, 0, false, 0⟩ → Calls Tryd.prog 48 #[.pointer (some ⟨g, 0, none⟩)] W fun e w' => e = .returned (.int .i64 (b1 : Int)) ∧ IWr W0 W w' g ⟨s, n + 1, 0, false, 0⟩))
  (d1 : ((b1 : Int) == 102) = false)
  (CP1 : Hid (∀ W, Calls Tryd.prog 80 #[.int .i64 (b1 : Int)] W fun e w' => e = .returned (.bool false) ∧ W = w'))
  (r1 : (((b1 : Int) / 16 == 4)) = true)
  (hb1 : b1 < 256)
  (hx80 : b1 < 80)
  (b2 : Nat)
  (K2 : Hid (∀ W, IAt W0 W g ⟨s, n + 1, b1, false, 0⟩ → Calls Tryd.prog 48 #[.pointer (some ⟨g, 0, none⟩)] W fun e w' => e = .returned (.int .i64 (b2 : Int)) ∧ IWr W0 W w' g ⟨s, n + 2, b1, false, 0⟩))
  (s2 : ((b2 : Int) == 15) = false)
  (z : Shp) (hz : (z.f == 0) = true) (CS : Hid (∀ W, Calls Tryd.prog 81 #[.bool false, .int .i64 (b2 : Int)] W fun e w' => e = .returned (shpV z) ∧ Below W.heap.size W w'))
  (K3 : Hid (∀ W, IAt W0 W g ⟨s, n + 2, b1, false, 0⟩ → Calls Tryd.prog 50 #[.pointer (some ⟨g, 0, none⟩), .int .i64 11] W fun e w' => e = .returned (.tuple #[]) ∧ IWr W0 W w' g ⟨s, n + 2, b1, false, 11⟩)) :
    Calls Tryd.prog 46 #[.pointer (some ⟨g, 0, none⟩)] w fun e w' => e = .returned (.tuple #[shpV z, .int .i64 (b2 : Int)]) ∧ IWr W0 w w' g ⟨s, n + 2, b1, false, 11⟩ := by
  have M0 := Lib.hid (Hd.new h)
  clear h
  obtain ⟨zo, zf, zg, zy, zr⟩ := z
  simp only at hz
  have nd1 : ((b1 : Int) != 102) = true := by rw [bne, d1]; rfl
  have hb1' : (b1 : Int) < 256 := by omega
  go_enter Tryd.func46, Tryd.ntmps46
  go_upto_region 1 with fail
  refine abs_world (T := fun W => Hd W0 w W g ⟨s, n, 0, false, 0⟩) (G := fun W => Code.wp _ _ _ _ W) _ (M0.out) ?_
  clear M0
  intro W M
  apply wp_region_list
  refine Great.wpList_runTo rfl (some 7) rfl (.pointer (some ⟨g, 0, none⟩)) W (by first | (go_simp; done) | rfl) ?_
  simp only [Act.put, List.setIfInBounds_toArray, List.set_cons_zero, List.set_cons_succ]
  have M0 := Lib.hid M
  clear M
  refine callStep rfl (some 8) rfl 48 #[.pointer (some ⟨g, 0, none⟩)] (by first | (go_simp; done) | rfl) (K1.out _ M0.out.at') ?_
  rintro e W ⟨rfl, hw⟩
  refine ⟨.int .i64 (b1 : Int), rfl, ?_⟩
  simp only [Act.put, List.setIfInBounds_toArray, List.set_cons_zero, List.set_cons_succ]
  have M := M0.out.wr hw
  clear hw M0
  refine Great.wpList_runTo rfl (some 4) rfl (.int .i64 (b1 : Int)) W (by first | (go_simp; done) | rfl) ?_
  simp only [Act.put, List.setIfInBounds_toArray, List.set_cons_zero, List.set_cons_succ]
  go_wp2_with fail
  refine wp_loop_rounds 1 ?_
  rw [rounds_succ]
  have c2 := M.at'.rb.cell 2; have c3 := M.at'.rb.cell 3; have c4 := M.at'.rb.cell 4
  simp only [inA, List.getElem?_toArray, List.getElem?_cons_zero, List.getElem?_cons_succ] at c2 c3 c4
  have f2 := M.at'.rb.free 2; have f3 := M.at'.rb.free 3
  go_upto_region 7 with (go_at_call 80; refine (CP1.out _).mono ?_; rintro e w9 ⟨rfl, rfl⟩)
  go_upto_region 8 with fail
  go_upto_region 9 with fail
  clear c2 c3 c4 f2 f3
  refine abs_world (T := fun W => Hd W0 w W g ⟨s, n + 1, b1, false, 0⟩) (G := fun W => Code.wp _ _ _ _ W) _ (M.setx hx80) ?_
  clear M
  intro W M
  apply wp_region_list
  refine Great.wpList_runTo rfl (some 51) rfl (.pointer (some ⟨g, 0, none⟩)) W (by first | (go_simp; done) | rfl) ?_
  simp only [Act.put, List.setIfInBounds_toArray, List.set_cons_zero, List.set_cons_succ]
  have M0 := Lib.hid M
  clear M
  refine callStep rfl (some 52) rfl 48 #[.pointer (some ⟨g, 0, none⟩)] (by first | (go_simp; done) | rfl) (K2.out _ M0.out.at') ?_
  rintro e W ⟨rfl, hw⟩
  refine ⟨.int .i64 (b2 : Int), rfl, ?_⟩
  simp only [Act.put, List.setIfInBounds_toArray, List.set_cons_zero, List.set_cons_succ]
  have M := M0.out.wr hw
  clear hw M0
  refine Great.wpList_runTo rfl (some 4) rfl (.int .i64 (b2 : Int)) W (by first | (go_simp; done) | rfl) ?_
  simp only [Act.put, List.setIfInBounds_toArray, List.set_cons_zero, List.set_cons_succ]
  go_upto_region 10 with fail
  have c2 := M.at'.rb.cell 2; have c3 := M.at'.rb.cell 3; have c4 := M.at'.rb.cell 4
  simp only [inA, List.getElem?_toArray, List.getElem?_cons_zero, List.getElem?_cons_succ] at c2 c3 c4
  have f2 := M.at'.rb.free 2; have f3 := M.at'.rb.free 3
  go_upto_region 13 with fail
  clear c2 c3 c4 f2 f3
  apply wp_region_list
  refine Great.wpList_runTo rfl (some 65) rfl (.bool false) W (by first | (go_simp; done) | rfl) ?_
  simp only [Act.put, List.setIfInBounds_toArray, List.set_cons_zero, List.set_cons_succ]
  refine Great.wpList_runTo rfl (some 66) rfl (.int .i64 (b2 : Int)) W (by first | (go_simp; done) | rfl) ?_
  simp only [Act.put, List.setIfInBounds_toArray, List.set_cons_zero, List.set_cons_succ]
  have M0 := Lib.hid M
  clear M
  refine callStep rfl (some 67) rfl 81 #[.bool false, .int .i64 (b2 : Int)] (by first | (go_simp; done) | rfl) (CS.out _) ?_
  rintro e W ⟨rfl, hw⟩
  refine ⟨shpV ⟨zo, zf, zg, zy, zr⟩, rfl, ?_⟩
  simp only [Act.put, List.setIfInBounds_toArray, List.set_cons_zero, List.set_cons_succ]
  have M := M0.out.below hw
  clear hw M0
  have l6 : w.heap.size + 1 ≤ W.heap.size := Hd.sz1 M
  obtain ⟨W6, hW6⟩ : ∃ k, k = W.heap.size := ⟨_, rfl⟩
  refine Great.wpList_runTo rfl (some 6) rfl (.pointer (some ⟨W.heap.size, 0, none⟩)) (W.alloc (.cells #[.int .i64 0, .int .i64 0, .int .i64 0, .bool false, .int .i64 0] 55)) (by first | (go_simp; done) | rfl) ?_
  simp only [Act.put, List.setIfInBounds_toArray, List.set_cons_zero, List.set_cons_succ]
  refine wpList_store_row rfl 55 (.tmp 6) (.tmp 67) rfl (W.heap.size) (shpA ⟨zo, zf, zg, zy, zr⟩) ?_ ?_ 55 _ (heap_alloc_new W _) (by kernel_rfl) rfl (shpA_one _) ?_
  · rfl
  · rfl
  go_upto_region 14 with fail
  refine abs_world (T := fun W => Hd W0 w W g ⟨s, n + 2, b1, false, 0⟩ ∧ ZB W W6 ⟨zo, zf, zg, zy, zr⟩) (G := fun W => Code.wp _ _ _ _ W) _ (by rw [hW6]; exact ⟨(M.below (bel_alloc _ _)).row l6 (shpA ⟨zo, zf, zg, zy, zr⟩), setRow_heap _ _ _ _ _ _ (heap_alloc_new W _)⟩) ?_
  rw [← hW6]
  rw [← hW6] at l6
  clear hW6 M
  intro W ⟨M, z6⟩
  have zz := z6.cell 1
  simp only [insV, insA, shpA, List.getElem?_toArray, List.getElem?_cons_zero, List.getElem?_cons_succ] at zz
  go_upto_region 15 with fail
  clear zz
  have z60 := Lib.hid z6
  clear z6
  apply wp_region_list
  refine Great.wpList_runTo rfl (some 71) rfl (.pointer (some ⟨g, 0, none⟩)) W (by first | (go_simp; done) | rfl) ?_
  simp only [Act.put, List.setIfInBounds_toArray, List.set_cons_zero, List.set_cons_succ]
  have M0 := Lib.hid M
  clear M
  refine callStep rfl (some 72) rfl 50 #[.pointer (some ⟨g, 0, none⟩), .int .i64 11] (by first | (go_simp; done) | rfl) (K3.out _ M0.out.at') ?_
  rintro e W ⟨rfl, hw⟩
  refine ⟨.tuple #[], rfl, ?_⟩
  simp only [Act.put, List.setIfInBounds_toArray, List.set_cons_zero, List.set_cons_succ]
  have M := M0.out.wr hw; have z6 : ZB W W6 ⟨zo, zf, zg, zy, zr⟩ := (hw.2.block _ (lt_of_blk z60.out) (fun e => by have := M0.out.ne; have := Option.some.inj e; omega)).trans z60.out
  clear hw M0
  clear z60
  go_upto_region 16 with fail
  apply wp_region_list
  refine wpList_load_row rfl 55 (.tmp 6) rfl (W6) rfl 55 (shpA ⟨zo, zf, zg, zy, zr⟩) (0, 0) _ (z6) Tryd.underlying55 rfl (by kernel_rfl) ?_
  simp only [Act.put, List.setIfInBounds_toArray, List.set_cons_zero, List.set_cons_succ]
  refine Great.wpList_runTo rfl (some 74) rfl (.int .i64 (b2 : Int)) W (by first | (go_simp; done) | rfl) ?_
  simp only [Act.put, List.setIfInBounds_toArray, List.set_cons_zero, List.set_cons_succ]
  refine wpList_store_row rfl 55 (.tmp 2) (.tmp 73) rfl (w.heap.size) (shpA ⟨zo, zf, zg, zy, zr⟩) ?_ ?_ 55 _ (M.r) (by kernel_rfl) rfl (shpA_one _) ?_
  · rfl
  · rfl
  go_wp2_with fail
  refine bodyPost_ret (v := .tuple #[.agg (shpA ⟨zo, zf, zg, zy, zr⟩), .int .i64 (b2 : Int)]) (by exact results_cell_row2 Tryd.results46 _ _ w.heap.size 55 (shpA ⟨zo, zf, zg, zy, zr⟩) (0, 0) _ rfl (setRow_heap _ _ _ _ _ _ M.r) Tryd.underlying55 rfl (by kernel_rfl)) (by rfl) ⟨rfl, M.fin _⟩
set_option maxRecDepth 100000 in
set_option maxHeartbeats 2000000 in
theorem hdNX_two (g n : Nat) (s : ByteArray) (W0 w : World) (h : IAt W0 w g ⟨s, n, 0, false, 0⟩)
  (b1 : Nat)
  (K1 : Hid (∀ W, IAt W0 W g ⟨s, n, 0, false, 0⟩ → Calls Tryd.prog 48 #[.pointer (some ⟨g, 0, none⟩)] W fun e w' => e = .returned (.int .i64 (b1 : Int)) ∧ IWr W0 W w' g ⟨s, n + 1, 0, false, 0⟩))
  (d1 : ((b1 : Int) == 102) = false)
  (CP1 : Hid (∀ W, Calls Tryd.prog 80 #[.int .i64 (b1 : Int)] W fun e w' => e = .returned (.bool false) ∧ W = w'))
  (r1 : (((b1 : Int) / 16 == 4)) = true)
  (hb1 : b1 < 256)
  (hx80 : b1 < 80)
  (b2 : Nat)
  (K2 : Hid (∀ W, IAt W0 W g ⟨s, n + 1, b1, false, 0⟩ → Calls Tryd.prog 48 #[.pointer (some ⟨g, 0, none⟩)] W fun e w' => e = .returned (.int .i64 (b2 : Int)) ∧ IWr W0 W w' g ⟨s, n + 2, b1, false, 0⟩))
  (s2 : ((b2 : Int) == 15) = true)
  (b3 : Nat)
  (K3 : Hid (∀ W, IAt W0 W g ⟨s, n + 2, b1, false, 0⟩ → Calls Tryd.prog 48 #[.pointer (some ⟨g, 0, none⟩)] W fun e w' => e = .returned (.int .i64 (b3 : Int)) ∧ IWr W0 W w' g ⟨s, n + 3, b1, false, 0⟩))
  (z : Shp) (hz : (z.f == 0) = false) (CS : Hid (∀ W, Calls Tryd.prog 81 #[.bool true, .int .i64 (b3 : Int)] W fun e w' => e = .returned (shpV z) ∧ Below W.heap.size W w')) :
    Calls Tryd.prog 46 #[.pointer (some ⟨g, 0, none⟩)] w fun e w' => e = .returned (.tuple #[shpV z, .int .i64 (b3 : Int)]) ∧ IWr W0 w w' g ⟨s, n + 3, b1, false, 0⟩ := by
  have M0 := Lib.hid (Hd.new h)
  clear h
  obtain ⟨zo, zf, zg, zy, zr⟩ := z
  simp only at hz
  have nd1 : ((b1 : Int) != 102) = true := by rw [bne, d1]; rfl
  have hb1' : (b1 : Int) < 256 := by omega
  go_enter Tryd.func46, Tryd.ntmps46
  go_upto_region 1 with fail
  refine abs_world (T := fun W => Hd W0 w W g ⟨s, n, 0, false, 0⟩) (G := fun W => Code.wp _ _ _ _ W) _ (M0.out) ?_
  clear M0
  intro W M
  apply wp_region_list
  refine Great.wpList_runTo rfl (some 7) rfl (.pointer (some ⟨g, 0, none⟩)) W (by first | (go_simp; done) | rfl) ?_
  simp only [Act.put, List.setIfInBounds_toArray, List.set_cons_zero, List.set_cons_succ]
  have M0 := Lib.hid M
  clear M
  refine callStep rfl (some 8) rfl 48 #[.pointer (some ⟨g, 0, none⟩)] (by first | (go_simp; done) | rfl) (K1.out _ M0.out.at') ?_
  rintro e W ⟨rfl, hw⟩
  refine ⟨.int .i64 (b1 : Int), rfl, ?_⟩
  simp only [Act.put, List.setIfInBounds_toArray, List.set_cons_zero, List.set_cons_succ]
  have M := M0.out.wr hw
  clear hw M0
  refine Great.wpList_runTo rfl (some 4) rfl (.int .i64 (b1 : Int)) W (by first | (go_simp; done) | rfl) ?_
  simp only [Act.put, List.setIfInBounds_toArray, List.set_cons_zero, List.set_cons_succ]
  go_wp2_with fail
  refine wp_loop_rounds 1 ?_
  rw [rounds_succ]
  have c2 := M.at'.rb.cell 2; have c3 := M.at'.rb.cell 3; have c4 := M.at'.rb.cell 4
  simp only [inA, List.getElem?_toArray, List.getElem?_cons_zero, List.getElem?_cons_succ] at c2 c3 c4
  have f2 := M.at'.rb.free 2; have f3 := M.at'.rb.free 3
  go_upto_region 7 with (go_at_call 80; refine (CP1.out _).mono ?_; rintro e w9 ⟨rfl, rfl⟩)
  go_upto_region 8 with fail
  go_upto_region 9 with fail
  clear c2 c3 c4 f2 f3
  refine abs_world (T := fun W => Hd W0 w W g ⟨s, n + 1, b1, false, 0⟩) (G := fun W => Code.wp _ _ _ _ W) _ (M.setx hx80) ?_
  clear M
  intro W M
  apply wp_region_list
  refine Great.wpList_runTo rfl (some 51) rfl (.pointer (some ⟨g, 0, none⟩)) W (by first | (go_simp; done) | rfl) ?_
  simp only [Act.put, List.setIfInBounds_toArray, List.set_cons_zero, List.set_cons_succ]
  have M0 := Lib.hid M
  clear M
  refine callStep rfl (some 52) rfl 48 #[.pointer (some ⟨g, 0, none⟩)] (by first | (go_simp; done) | rfl) (K2.out _ M0.out.at') ?_
  rintro e W ⟨rfl, hw⟩
  refine ⟨.int .i64 (b2 : Int), rfl, ?_⟩
  simp only [Act.put, List.setIfInBounds_toArray, List.set_cons_zero, List.set_cons_succ]
  have M := M0.out.wr hw
  clear hw M0
  refine Great.wpList_runTo rfl (some 4) rfl (.int .i64 (b2 : Int)) W (by first | (go_simp; done) | rfl) ?_
  simp only [Act.put, List.setIfInBounds_toArray, List.set_cons_zero, List.set_cons_succ]
  go_upto_region 10 with fail
  have c2 := M.at'.rb.cell 2; have c3 := M.at'.rb.cell 3; have c4 := M.at'.rb.cell 4
  simp only [inA, List.getElem?_toArray, List.getElem?_cons_zero, List.getElem?_cons_succ] at c2 c3 c4
  have f2 := M.at'.rb.free 2; have f3 := M.at'.rb.free 3
  go_upto_region 12 with fail
  clear c2 c3 c4 f2 f3
  apply wp_region_list
  refine Great.wpList_runTo rfl (some 63) rfl (.pointer (some ⟨g, 0, none⟩)) W (by first | (go_simp; done) | rfl) ?_
  simp only [Act.put, List.setIfInBounds_toArray, List.set_cons_zero, List.set_cons_succ]
  have M0 := Lib.hid M
  clear M
  refine callStep rfl (some 64) rfl 48 #[.pointer (some ⟨g, 0, none⟩)] (by first | (go_simp; done) | rfl) (K3.out _ M0.out.at') ?_
  rintro e W ⟨rfl, hw⟩
  refine ⟨.int .i64 (b3 : Int), rfl, ?_⟩
  simp only [Act.put, List.setIfInBounds_toArray, List.set_cons_zero, List.set_cons_succ]
  have M := M0.out.wr hw
  clear hw M0
  refine Great.wpList_runTo rfl (some 4) rfl (.int .i64 (b3 : Int)) W (by first | (go_simp; done) | rfl) ?_
  simp only [Act.put, List.setIfInBounds_toArray, List.set_cons_zero, List.set_cons_succ]
  go_upto_region 13 with fail
  apply wp_region_list
  refine Great.wpList_runTo rfl (some 65) rfl (.bool true) W (by first | (go_simp; done) | rfl) ?_
  simp only [Act.put, List.setIfInBounds_toArray, List.set_cons_zero, List.set_cons_succ]
  refine Great.wpList_runTo rfl (some 66) rfl (.int .i64 (b3 : Int)) W (by first | (go_simp; done) | rfl) ?_
  simp only [Act.put, List.setIfInBounds_toArray, List.set_cons_zero, List.set_cons_succ]
  have M0 := Lib.hid M
  clear M
  refine callStep rfl (some 67) rfl 81 #[.bool true, .int .i64 (b3 : Int)] (by first | (go_simp; done) | rfl) (CS.out _) ?_
  rintro e W ⟨rfl, hw⟩
  refine ⟨shpV ⟨zo, zf, zg, zy, zr⟩, rfl, ?_⟩
  simp only [Act.put, List.setIfInBounds_toArray, List.set_cons_zero, List.set_cons_succ]
  have M := M0.out.below hw
  clear hw M0
  have l6 : w.heap.size + 1 ≤ W.heap.size := Hd.sz1 M
  obtain ⟨W6, hW6⟩ : ∃ k, k = W.heap.size := ⟨_, rfl⟩
  refine Great.wpList_runTo rfl (some 6) rfl (.pointer (some ⟨W.heap.size, 0, none⟩)) (W.alloc (.cells #[.int .i64 0, .int .i64 0, .int .i64 0, .bool false, .int .i64 0] 55)) (by first | (go_simp; done) | rfl) ?_
  simp only [Act.put, List.setIfInBounds_toArray, List.set_cons_zero, List.set_cons_succ]
  refine wpList_store_row rfl 55 (.tmp 6) (.tmp 67) rfl (W.heap.size) (shpA ⟨zo, zf, zg, zy, zr⟩) ?_ ?_ 55 _ (heap_alloc_new W _) (by kernel_rfl) rfl (shpA_one _) ?_
  · rfl
  · rfl
  go_upto_region 14 with fail
  refine abs_world (T := fun W => Hd W0 w W g ⟨s, n + 3, b1, false, 0⟩ ∧ ZB W W6 ⟨zo, zf, zg, zy, zr⟩) (G := fun W => Code.wp _ _ _ _ W) _ (by rw [hW6]; exact ⟨(M.below (bel_alloc _ _)).row l6 (shpA ⟨zo, zf, zg, zy, zr⟩), setRow_heap _ _ _ _ _ _ (heap_alloc_new W _)⟩) ?_
  rw [← hW6]
  rw [← hW6] at l6
  clear hW6 M
  intro W ⟨M, z6⟩
  have zz := z6.cell 1
  simp only [insV, insA, shpA, List.getElem?_toArray, List.getElem?_cons_zero, List.getElem?_cons_succ] at zz
  go_upto_region 16 with fail
  clear zz
  apply wp_region_list
  refine wpList_load_row rfl 55 (.tmp 6) rfl (W6) rfl 55 (shpA ⟨zo, zf, zg, zy, zr⟩) (0, 0) _ (z6) Tryd.underlying55 rfl (by kernel_rfl) ?_
  simp only [Act.put, List.setIfInBounds_toArray, List.set_cons_zero, List.set_cons_succ]
  refine Great.wpList_runTo rfl (some 74) rfl (.int .i64 (b3 : Int)) W (by first | (go_simp; done) | rfl) ?_
  simp only [Act.put, List.setIfInBounds_toArray, List.set_cons_zero, List.set_cons_succ]
  refine wpList_store_row rfl 55 (.tmp 2) (.tmp 73) rfl (w.heap.size) (shpA ⟨zo, zf, zg, zy, zr⟩) ?_ ?_ 55 _ (M.r) (by kernel_rfl) rfl (shpA_one _) ?_
  · rfl
  · rfl
  go_wp2_with fail
  refine bodyPost_ret (v := .tuple #[.agg (shpA ⟨zo, zf, zg, zy, zr⟩), .int .i64 (b3 : Int)]) (by exact results_cell_row2 Tryd.results46 _ _ w.heap.size 55 (shpA ⟨zo, zf, zg, zy, zr⟩) (0, 0) _ rfl (setRow_heap _ _ _ _ _ _ M.r) Tryd.underlying55 rfl (by kernel_rfl)) (by rfl) ⟨rfl, M.fin _⟩
set_option maxRecDepth 100000 in
set_option maxHeartbeats 2000000 in
theorem hdNX_two0 (g n : Nat) (s : ByteArray) (W0 w : World) (h : IAt W0 w g ⟨s, n, 0, false, 0⟩)
  (b1 : Nat)
  (K1 : Hid (∀ W, IAt W0 W g ⟨s, n, 0, false, 0⟩ → Calls Tryd.prog 48 #[.pointer (some ⟨g, 0, none⟩)] W fun e w' => e = .returned (.int .i64 (b1 : Int)) ∧ IWr W0 W w' g ⟨s, n + 1, 0, false, 0⟩))
  (d1 : ((b1 : Int) == 102) = false)
  (CP1 : Hid (∀ W, Calls Tryd.prog 80 #[.int .i64 (b1 : Int)] W fun e w' => e = .returned (.bool false) ∧ W = w'))
  (r1 : (((b1 : Int) / 16 == 4)) = true)
  (hb1 : b1 < 256)
  (hx80 : b1 < 80)
  (b2 : Nat)
  (K2 : Hid (∀ W, IAt W0 W g ⟨s, n + 1, b1, false, 0⟩ → Calls Tryd.prog 48 #[.pointer (some ⟨g, 0, none⟩)] W fun e w' => e = .returned (.int .i64 (b2 : Int)) ∧ IWr W0 W w' g ⟨s, n + 2, b1, false, 0⟩))
  (s2 : ((b2 : Int) == 15) = true)
  (b3 : Nat)
  (K3 : Hid (∀ W, IAt W0 W g ⟨s, n + 2, b1, false, 0⟩ → Calls Tryd.prog 48 #[.pointer (some ⟨g, 0, none⟩)] W fun e w' => e = .returned (.int .i64 (b3 : Int)) ∧ IWr W0 W w' g ⟨s, n + 3, b1, false, 0⟩))
  (z : Shp) (hz : (z.f == 0) = true) (CS : Hid (∀ W, Calls Tryd.prog 81 #[.bool true, .int .i64 (b3 : Int)] W fun e w' => e = .returned (shpV z) ∧ Below W.heap.size W w'))
  (K4 : Hid (∀ W, IAt W0 W g ⟨s, n + 3, b1, false, 0⟩ → Calls Tryd.prog 50 #[.pointer (some ⟨g, 0, none⟩), .int .i64 11] W fun e w' => e = .returned (.tuple #[]) ∧ IWr W0 W w' g ⟨s, n + 3, b1, false, 11⟩)) :
    Calls Tryd.prog 46 #[.pointer (some ⟨g, 0, none⟩)] w fun e w' => e = .returned (.tuple #[shpV z, .int .i64 (b3 : Int)]) ∧ IWr W0 w w' g ⟨s, n + 3, b1, false, 11⟩ := by
  have M0 := Lib.hid (Hd.new h)
  clear h
  obtain ⟨zo, zf, zg, zy, zr⟩ := z
  simp only at hz
  have nd1 : ((b1 : Int) != 102) = true := by rw [bne, d1]; rfl
  have hb1' : (b1 : Int) < 256 := by omega
  go_enter Tryd.func46, Tryd.ntmps46
  go_upto_region 1 with fail
  refine abs_world (T := fun W => Hd W0 w W g ⟨s, n, 0, false, 0⟩) (G := fun W => Code.wp _ _ _ _ W) _ (M0.out) ?_
  clear M0
  intro W M
  apply wp_region_list
  refine Great.wpList_runTo rfl (some 7) rfl (.pointer (some ⟨g, 0, none⟩)) W (by first | (go_simp; done) | rfl) ?_
  simp only [Act.put, List.setIfInBounds_toArray, List.set_cons_zero, List.set_cons_succ]
  have M0 := Lib.hid M
  clear M
  refine callStep rfl (some 8) rfl 48 #[.pointer (some ⟨g, 0, none⟩)] (by first | (go_simp; done) | rfl) (K1.out _ M0.out.at') ?_
  rintro e W ⟨rfl, hw⟩
  refine ⟨.int .i64 (b1 : Int), rfl, ?_⟩
  simp only [Act.put, List.setIfInBounds_toArray, List.set_cons_zero, List.set_cons_succ]
  have M := M0.out.wr hw
  clear hw M0
  refine Great.wpList_runTo rfl (some 4) rfl (.int .i64 (b1 : Int)) W (by first | (go_simp; done) | rfl) ?_
  simp only [Act.put, List.setIfInBounds_toArray, List.set_cons_zero, List.set_cons_succ]
  go_wp2_with fail
  refine wp_loop_rounds 1 ?_
  rw [rounds_succ]
  have c2 := M.at'.rb.cell 2; have c3 := M.at'.rb.cell 3; have c4 := M.at'.rb.cell 4
  simp only [inA, List.getElem?_toArray, List.getElem?_cons_zero, List.getElem?_cons_succ] at c2 c3 c4
  have f2 := M.at'.rb.free 2; have f3 := M.at'.rb.free 3
  go_upto_region 7 with (go_at_call 80; refine (CP1.out _).mono ?_; rintro e w9 ⟨rfl, rfl⟩)
  go_upto_region 8 with fail
  go_upto_region 9 with fail
  clear c2 c3 c4 f2 f3
  refine abs_world (T := fun W => Hd W0 w W g ⟨s, n + 1, b1, false, 0⟩) (G := fun W => Code.wp _ _ _ _ W) _ (M.setx hx80) ?_
  clear M
  intro W M
  apply wp_region_list
  refine Great.wpList_runTo rfl (some 51) rfl (.pointer (some ⟨g, 0, none⟩)) W (by first | (go_simp; done) | rfl) ?_
  simp only [Act.put, List.setIfInBounds_toArray, List.set_cons_zero, List.set_cons_succ]
  have M0 := Lib.hid M
  clear M
  refine callStep rfl (some 52) rfl 48 #[.pointer (some ⟨g, 0, none⟩)] (by first | (go_simp; done) | rfl) (K2.out _ M0.out.at') ?_
  rintro e W ⟨rfl, hw⟩
  refine ⟨.int .i64 (b2 : Int), rfl, ?_⟩
  simp only [Act.put, List.setIfInBounds_toArray, List.set_cons_zero, List.set_cons_succ]
  have M := M0.out.wr hw
  clear hw M0
  refine Great.wpList_runTo rfl (some 4) rfl (.int .i64 (b2 : Int)) W (by first | (go_simp; done) | rfl) ?_
  simp only [Act.put, List.setIfInBounds_toArray, List.set_cons_zero, List.set_cons_succ]
  go_upto_region 10 with fail
  have c2 := M.at'.rb.cell 2; have c3 := M.at'.rb.cell 3; have c4 := M.at'.rb.cell 4
  simp only [inA, List.getElem?_toArray, List.getElem?_cons_zero, List.getElem?_cons_succ] at c2 c3 c4
  have f2 := M.at'.rb.free 2; have f3 := M.at'.rb.free 3
  go_upto_region 12 with fail
  clear c2 c3 c4 f2 f3
  apply wp_region_list
  refine Great.wpList_runTo rfl (some 63) rfl (.pointer (some ⟨g, 0, none⟩)) W (by first | (go_simp; done) | rfl) ?_
  simp only [Act.put, List.setIfInBounds_toArray, List.set_cons_zero, List.set_cons_succ]
  have M0 := Lib.hid M
  clear M
  refine callStep rfl (some 64) rfl 48 #[.pointer (some ⟨g, 0, none⟩)] (by first | (go_simp; done) | rfl) (K3.out _ M0.out.at') ?_
  rintro e W ⟨rfl, hw⟩
  refine ⟨.int .i64 (b3 : Int), rfl, ?_⟩
  simp only [Act.put, List.setIfInBounds_toArray, List.set_cons_zero, List.set_cons_succ]
  have M := M0.out.wr hw
  clear hw M0
  refine Great.wpList_runTo rfl (some 4) rfl (.int .i64 (b3 : Int)) W (by first | (go_simp; done) | rfl) ?_
  simp only [Act.put, List.setIfInBounds_toArray, List.set_cons_zero, List.set_cons_succ]
  go_upto_region 13 with fail
  apply wp_region_list
  refine Great.wpList_runTo rfl (some 65) rfl (.bool true) W (by first | (go_simp; done) | rfl) ?_
  simp only [Act.put, List.setIfInBounds_toArray, List.set_cons_zero, List.set_cons_succ]
  refine Great.wpList_runTo rfl (some 66) rfl (.int .i64 (b3 : Int)) W (by first | (go_simp; done) | rfl) ?_
  simp only [Act.put, List.setIfInBounds_toArray, List.set_cons_zero, List.set_cons_succ]
  have M0 := Lib.hid M
  clear M
  refine callStep rfl (some 67) rfl 81 #[.bool true, .int .i64 (b3 : Int)] (by first | (go_simp; done) | rfl) (CS.out _) ?_
  rintro e W ⟨rfl, hw⟩
  refine ⟨shpV ⟨zo, zf, zg, zy, zr⟩, rfl, ?_⟩
  simp only [Act.put, List.setIfInBounds_toArray, List.set_cons_zero, List.set_cons_succ]
  have M := M0.out.below hw
  clear hw M0
  have l6 : w.heap.size + 1 ≤ W.heap.size := Hd.sz1 M
  obtain ⟨W6, hW6⟩ : ∃ k, k = W.heap.size := ⟨_, rfl⟩
  refine Great.wpList_runTo rfl (some 6) rfl (.pointer (some ⟨W.heap.size, 0, none⟩)) (W.alloc (.cells #[.int .i64 0, .int .i64 0, .int .i64 0, .bool false, .int .i64 0] 55)) (by first | (go_simp; done) | rfl) ?_
  simp only [Act.put, List.setIfInBounds_toArray, List.set_cons_zero, List.set_cons_succ]
  refine wpList_store_row rfl 55 (.tmp 6) (.tmp 67) rfl (W.heap.size) (shpA ⟨zo, zf, zg, zy, zr⟩) ?_ ?_ 55 _ (heap_alloc_new W _) (by kernel_rfl) rfl (shpA_one _) ?_
  · rfl
  · rfl
  go_upto_region 14 with fail
  refine abs_world (T := fun W => Hd W0 w W g ⟨s, n + 3, b1, false, 0⟩ ∧ ZB W W6 ⟨zo, zf, zg, zy, zr⟩) (G := fun W => Code.wp _ _ _ _ W) _ (by rw [hW6]; exact ⟨(M.below (bel_alloc _ _)).row l6 (shpA ⟨zo, zf, zg, zy, zr⟩), setRow_heap _ _ _ _ _ _ (heap_alloc_new W _)⟩) ?_
  rw [← hW6]
  rw [← hW6] at l6
  clear hW6 M
  intro W ⟨M, z6⟩
  have zz := z6.cell 1
  simp only [insV, insA, shpA, List.getElem?_toArray, List.getElem?_cons_zero, List.getElem?_cons_succ] at zz
  go_upto_region 15 with fail
  clear zz
  have z60 := Lib.hid z6
  clear z6
  apply wp_region_list
  refine Great.wpList_runTo rfl (some 71) rfl (.pointer (some ⟨g, 0, none⟩)) W (by first | (go_simp; done) | rfl) ?_
  simp only [Act.put, List.setIfInBounds_toArray, List.set_cons_zero, List.set_cons_succ]
  have M0 := Lib.hid M
  clear M
  refine callStep rfl (some 72) rfl 50 #[.pointer (some ⟨g, 0, none⟩), .int .i64 11] (by first | (go_simp; done) | rfl) (K4.out _ M0.out.at') ?_
  rintro e W ⟨rfl, hw⟩
  refine ⟨.tuple #[], rfl, ?_⟩
  simp only [Act.put, List.setIfInBounds_toArray, List.set_cons_zero, List.set_cons_succ]
  have M := M0.out.wr hw; have z6 : ZB W W6 ⟨zo, zf, zg, zy, zr⟩ := (hw.2.block _ (lt_of_blk z60.out) (fun e => by have := M0.out.ne; have := Option.some.inj e; omega)).trans z60.out
  clear hw M0
  clear z60
  go_upto_region 16 with fail
  apply wp_region_list
  refine wpList_load_row rfl 55 (.tmp 6) rfl (W6) rfl 55 (shpA ⟨zo, zf, zg, zy, zr⟩) (0, 0) _ (z6) Tryd.underlying55 rfl (by kernel_rfl) ?_
  simp only [Act.put, List.setIfInBounds_toArray, List.set_cons_zero, List.set_cons_succ]
  refine Great.wpList_runTo rfl (some 74) rfl (.int .i64 (b3 : Int)) W (by first | (go_simp; done) | rfl) ?_
  simp only [Act.put, List.setIfInBounds_toArray, List.set_cons_zero, List.set_cons_succ]
  refine wpList_store_row rfl 55 (.tmp 2) (.tmp 73) rfl (w.heap.size) (shpA ⟨zo, zf, zg, zy, zr⟩) ?_ ?_ 55 _ (M.r) (by kernel_rfl) rfl (shpA_one _) ?_
  · rfl
  · rfl
  go_wp2_with fail
  refine bodyPost_ret (v := .tuple #[.agg (shpA ⟨zo, zf, zg, zy, zr⟩), .int .i64 (b3 : Int)]) (by exact results_cell_row2 Tryd.results46 _ _ w.heap.size 55 (shpA ⟨zo, zf, zg, zy, zr⟩) (0, 0) _ rfl (setRow_heap _ _ _ _ _ _ M.r) Tryd.underlying55 rfl (by kernel_rfl)) (by rfl) ⟨rfl, M.fin _⟩
set_option maxRecDepth 100000 in
set_option maxHeartbeats 2000000 in
theorem hdNX_twoend (g n : Nat) (s : ByteArray) (W0 w : World) (h : IAt W0 w g ⟨s, n, 0, false, 0⟩)
  (b1 : Nat)
  (K1 : Hid (∀ W, IAt W0 W g ⟨s, n, 0, false, 0⟩ → Calls Tryd.prog 48 #[.pointer (some ⟨g, 0, none⟩)] W fun e w' => e = .returned (.int .i64 (b1 : Int)) ∧ IWr W0 W w' g ⟨s, n + 1, 0, false, 0⟩))
  (d1 : ((b1 : Int) == 102) = false)
  (CP1 : Hid (∀ W, Calls Tryd.prog 80 #[.int .i64 (b1 : Int)] W fun e w' => e = .returned (.bool false) ∧ W = w'))
  (r1 : (((b1 : Int) / 16 == 4)) = true)
  (hb1 : b1 < 256)
  (hx80 : b1 < 80)
  (b2 : Nat)
  (K2 : Hid (∀ W, IAt W0 W g ⟨s, n + 1, b1, false, 0⟩ → Calls Tryd.prog 48 #[.pointer (some ⟨g, 0, none⟩)] W fun e w' => e = .returned (.int .i64 (b2 : Int)) ∧ IWr W0 W w' g ⟨s, n + 2, b1, false, 0⟩))
  (s2 : ((b2 : Int) == 15) = true)
  (K3 : Hid (∀ W, IAt W0 W g ⟨s, n + 2, b1, false, 0⟩ → Calls Tryd.prog 48 #[.pointer (some ⟨g, 0, none⟩)] W fun e w' => e = .returned (.int .i64 0) ∧ IWr W0 W w' g ⟨s, n + 2, b1, false, 9⟩))
  (z : Shp) (hz : (z.f == 0) = true) (CS : Hid (∀ W, Calls Tryd.prog 81 #[.bool true, .int .i64 0] W fun e w' => e = .returned (shpV z) ∧ Below W.heap.size W w'))
  (K4 : Hid (∀ W, IAt W0 W g ⟨s, n + 2, b1, false, 9⟩ → Calls Tryd.prog 50 #[.pointer (some ⟨g, 0, none⟩), .int .i64 11] W fun e w' => e = .returned (.tuple #[]) ∧ IWr W0 W w' g ⟨s, n + 2, b1, false, 9⟩)) :
    Calls Tryd.prog 46 #[.pointer (some ⟨g, 0, none⟩)] w fun e w' => e = .returned (.tuple #[shpV z, .int .i64 0]) ∧ IWr W0 w w' g ⟨s, n + 2, b1, false, 9⟩ := by
  have M0 := Lib.hid (Hd.new h)
  clear h
  obtain ⟨zo, zf, zg, zy, zr⟩ := z
  simp only at hz
  have nd1 : ((b1 : Int) != 102) = true := by rw [bne, d1]; rfl
  have hb1' : (b1 : Int) < 256 := by omega
  go_enter Tryd.func46, Tryd.ntmps46
  go_upto_region 1 with fail
  refine abs_world (T := fun W => Hd W0 w W g ⟨s, n, 0, false, 0⟩) (G := fun W => Code.wp _ _ _ _ W) _ (M0.out) ?_
  clear M0
  intro W M
  apply wp_region_list
  refine Great.wpList_runTo rfl (some 7) rfl (.pointer (some ⟨g, 0, none⟩)) W (by first | (go_simp; done) | rfl) ?_
  simp only [Act.put, List.setIfInBounds_toArray, List.set_cons_zero, List.set_cons_succ]
  have M0 := Lib.hid M
  clear M
  refine callStep rfl (some 8) rfl 48 #[.pointer (some ⟨g, 0, none⟩)] (by first | (go_simp; done) | rfl) (K1.out _ M0.out.at') ?_
  rintro e W ⟨rfl, hw⟩
  refine ⟨.int .i64 (b1 : Int), rfl, ?_⟩
  simp only [Act.put, List.setIfInBounds_toArray, List.set_cons_zero, List.set_cons_succ]
  have M := M0.out.wr hw
  clear hw M0
  refine Great.wpList_runTo rfl (some 4) rfl (.int .i64 (b1 : Int)) W (by first | (go_simp; done) | rfl) ?_
  simp only [Act.put, List.setIfInBounds_toArray, List.set_cons_zero, List.set_cons_succ]
  go_wp2_with fail
  refine wp_loop_rounds 1 ?_
  rw [rounds_succ]
  have c2 := M.at'.rb.cell 2; have c3 := M.at'.rb.cell 3; have c4 := M.at'.rb.cell 4
  simp only [inA, List.getElem?_toArray, List.getElem?_cons_zero, List.getElem?_cons_succ] at c2 c3 c4
  have f2 := M.at'.rb.free 2; have f3 := M.at'.rb.free 3
  go_upto_region 7 with (go_at_call 80; refine (CP1.out _).mono ?_; rintro e w9 ⟨rfl, rfl⟩)
  go_upto_region 8 with fail
  go_upto_region 9 with fail
  clear c2 c3 c4 f2 f3
  refine abs_world (T := fun W => Hd W0 w W g ⟨s, n + 1, b1, false, 0⟩) (G := fun W => Code.wp _ _ _ _ W) _ (M.setx hx80) ?_
  clear M
  intro W M
  apply wp_region_list
  refine Great.wpList_runTo rfl (some 51) rfl (.pointer (some ⟨g, 0, none⟩)) W (by first | (go_simp; done) | rfl) ?_
  simp only [Act.put, List.setIfInBounds_toArray, List.set_cons_zero, List.set_cons_succ]
  have M0 := Lib.hid M
  clear M
  refine callStep rfl (some 52) rfl 48 #[.pointer (some ⟨g, 0, none⟩)] (by first | (go_simp; done) | rfl) (K2.out _ M0.out.at') ?_
  rintro e W ⟨rfl, hw⟩
  refine ⟨.int .i64 (b2 : Int), rfl, ?_⟩
  simp only [Act.put, List.setIfInBounds_toArray, List.set_cons_zero, List.set_cons_succ]
  have M := M0.out.wr hw
  clear hw M0
  refine Great.wpList_runTo rfl (some 4) rfl (.int .i64 (b2 : Int)) W (by first | (go_simp; done) | rfl) ?_
  simp only [Act.put, List.setIfInBounds_toArray, List.set_cons_zero, List.set_cons_succ]
  go_upto_region 10 with fail
  have c2 := M.at'.rb.cell 2; have c3 := M.at'.rb.cell 3; have c4 := M.at'.rb.cell 4
  simp only [inA, List.getElem?_toArray, List.getElem?_cons_zero, List.getElem?_cons_succ] at c2 c3 c4
  have f2 := M.at'.rb.free 2; have f3 := M.at'.rb.free 3
  go_upto_region 12 with fail
  clear c2 c3 c4 f2 f3
  apply wp_region_list
  refine Great.wpList_runTo rfl (some 63) rfl (.pointer (some ⟨g, 0, none⟩)) W (by first | (go_simp; done) | rfl) ?_
  simp only [Act.put, List.setIfInBounds_toArray, List.set_cons_zero, List.set_cons_succ]
  have M0 := Lib.hid M
  clear M
  refine callStep rfl (some 64) rfl 48 #[.pointer (some ⟨g, 0, none⟩)] (by first | (go_simp; done) | rfl) (K3.out _ M0.out.at') ?_
  rintro e W ⟨rfl, hw⟩
  refine ⟨.int .i64 0, rfl, ?_⟩
  simp only [Act.put, List.setIfInBounds_toArray, List.set_cons_zero, List.set_cons_succ]
  have M := M0.out.wr hw
  clear hw M0
  refine Great.wpList_runTo rfl (some 4) rfl (.int .i64 0) W (by first | (go_simp; done) | rfl) ?_
  simp only [Act.put, List.setIfInBounds_toArray, List.set_cons_zero, List.set_cons_succ]
  go_upto_region 13 with fail
  apply wp_region_list
  refine Great.wpList_runTo rfl (some 65) rfl (.bool true) W (by first | (go_simp; done) | rfl) ?_
  simp only [Act.put, List.setIfInBounds_toArray, List.set_cons_zero, List.set_cons_succ]
  refine Great.wpList_runTo rfl (some 66) rfl (.int .i64 0) W (by first | (go_simp; done) | rfl) ?_
  simp only [Act.put, List.setIfInBounds_toArray, List.set_cons_zero, List.set_cons_succ]
  have M0 := Lib.hid M
  clear M
  refine callStep rfl (some 67) rfl 81 #[.bool true, .int .i64 0] (by first | (go_simp; done) | rfl) (CS.out _) ?_
  rintro e W ⟨rfl, hw⟩
  refine ⟨shpV ⟨zo, zf, zg, zy, zr⟩, rfl, ?_⟩
  simp only [Act.put, List.setIfInBounds_toArray, List.set_cons_zero, List.set_cons_succ]
  have M := M0.out.below hw
  clear hw M0
  have l6 : w.heap.size + 1 ≤ W.heap.size := Hd.sz1 M
  obtain ⟨W6, hW6⟩ : ∃ k, k = W.heap.size := ⟨_, rfl⟩
  refine Great.wpList_runTo rfl (some 6) rfl (.pointer (some ⟨W.heap.size, 0, none⟩)) (W.alloc (.cells #[.int .i64 0, .int .i64 0, .int .i64 0, .bool false, .int .i64 0] 55)) (by first | (go_simp; done) | rfl) ?_
  simp only [Act.put, List.setIfInBounds_toArray, List.set_cons_zero, List.set_cons_succ]
  refine wpList_store_row rfl 55 (.tmp 6) (.tmp 67) rfl (W.heap.size) (shpA ⟨zo, zf, zg, zy, zr⟩) ?_ ?_ 55 _ (heap_alloc_new W _) (by kernel_rfl) rfl (shpA_one _) ?_
  · rfl
  · rfl
  go_upto_region 14 with fail
  refine abs_world (T := fun W => Hd W0 w W g ⟨s, n + 2, b1, false, 9⟩ ∧ ZB W W6 ⟨zo, zf, zg, zy, zr⟩) (G := fun W => Code.wp _ _ _ _ W) _ (by rw [hW6]; exact ⟨(M.below (bel_alloc _ _)).row l6 (shpA ⟨zo, zf, zg, zy, zr⟩), setRow_heap _ _ _ _ _ _ (heap_alloc_new W _)⟩) ?_
  rw [← hW6]
  rw [← hW6] at l6
  clear hW6 M
  intro W ⟨M, z6⟩
  have zz := z6.cell 1
  simp only [insV, insA, shpA, List.getElem?_toArray, List.getElem?_cons_zero, List.getElem?_cons_succ] at zz
  go_upto_region 15 with fail
  clear zz
  have z60 := Lib.hid z6
  clear z6
  apply wp_region_list
  refine Great.wpList_runTo rfl (some 71) rfl (.pointer (some ⟨g, 0, none⟩)) W (by first | (go_simp; done) | rfl) ?_
  simp only [Act.put, List.setIfInBounds_toArray, List.set_cons_zero, List.set_cons_succ]
  have M0 := Lib.hid M
  clear M
  refine callStep rfl (some 72) rfl 50 #[.pointer (some ⟨g, 0, none⟩), .int .i64 11] (by first | (go_simp; done) | rfl) (K4.out _ M0.out.at') ?_
  rintro e W ⟨rfl, hw⟩
  refine ⟨.tuple #[], rfl, ?_⟩
  simp only [Act.put, List.setIfInBounds_toArray, List.set_cons_zero, List.set_cons_succ]
  have M := M0.out.wr hw; have z6 : ZB W W6 ⟨zo, zf, zg, zy, zr⟩ := (hw.2.block _ (lt_of_blk z60.out) (fun e => by have := M0.out.ne; have := Option.some.inj e; omega)).trans z60.out
  clear hw M0
  clear z60
  go_upto_region 16 with fail
  apply wp_region_list
  refine wpList_load_row rfl 55 (.tmp 6) rfl (W6) rfl 55 (shpA ⟨zo, zf, zg, zy, zr⟩) (0, 0) _ (z6) Tryd.underlying55 rfl (by kernel_rfl) ?_
  simp only [Act.put, List.setIfInBounds_toArray, List.set_cons_zero, List.set_cons_succ]
  refine Great.wpList_runTo rfl (some 74) rfl (.int .i64 0) W (by first | (go_simp; done) | rfl) ?_
  simp only [Act.put, List.setIfInBounds_toArray, List.set_cons_zero, List.set_cons_succ]
  refine wpList_store_row rfl 55 (.tmp 2) (.tmp 73) rfl (w.heap.size) (shpA ⟨zo, zf, zg, zy, zr⟩) ?_ ?_ 55 _ (M.r) (by kernel_rfl) rfl (shpA_one _) ?_
  · rfl
  · rfl
  go_wp2_with fail
  refine bodyPost_ret (v := .tuple #[.agg (shpA ⟨zo, zf, zg, zy, zr⟩), .int .i64 0]) (by exact results_cell_row2 Tryd.results46 _ _ w.heap.size 55 (shpA ⟨zo, zf, zg, zy, zr⟩) (0, 0) _ rfl (setRow_heap _ _ _ _ _ _ M.r) Tryd.underlying55 rfl (by kernel_rfl)) (by rfl) ⟨rfl, M.fin _⟩
set_option maxRecDepth 100000 in
set_option maxHeartbeats 2000000 in
theorem hdNX_end (g n : Nat) (s : ByteArray) (W0 w : World) (h : IAt W0 w g ⟨s, n, 0, false, 0⟩)
  (b1 : Nat)
  (K1 : Hid (∀ W, IAt W0 W g ⟨s, n, 0, false, 0⟩ → Calls Tryd.prog 48 #[.pointer (some ⟨g, 0, none⟩)] W fun e w' => e = .returned (.int .i64 (b1 : Int)) ∧ IWr W0 W w' g ⟨s, n + 1, 0, false, 0⟩))
  (d1 : ((b1 : Int) == 102) = false)
  (CP1 : Hid (∀ W, Calls Tryd.prog 80 #[.int .i64 (b1 : Int)] W fun e w' => e = .returned (.bool false) ∧ W = w'))
  (r1 : (((b1 : Int) / 16 == 4)) = true)
  (hb1 : b1 < 256)
  (hx80 : b1 < 80)
  (K2 : Hid (∀ W, IAt W0 W g ⟨s, n + 1, b1, false, 0⟩ → Calls Tryd.prog 48 #[.pointer (some ⟨g, 0, none⟩)] W fun e w' => e = .returned (.int .i64 0) ∧ IWr W0 W w' g ⟨s, n + 1, b1, false, 9⟩))
  (z : Shp) (hz : (z.f == 0) = false) (CS : Hid (∀ W, Calls Tryd.prog 81 #[.bool false, .int .i64 0] W fun e w' => e = .returned (shpV z) ∧ Below W.heap.size W w')) :
    Calls Tryd.prog 46 #[.pointer (some ⟨g, 0, none⟩)] w fun e w' => e = .returned (.tuple #[shpV z, .int .i64 0]) ∧ IWr W0 w w' g ⟨s, n + 1, b1, false, 9⟩ := by
  have M0 := Lib.hid (Hd.new h)
  clear h
  obtain ⟨zo, zf, zg, zy, zr⟩ := z
  simp only at hz
  have nd1 : ((b1 : Int) != 102) = true := by rw [bne, d1]; rfl
  have hb1' : (b1 : Int) < 256 := by omega
  go_enter Tryd.func46, Tryd.ntmps46
  go_upto_region 1 with fail
  refine abs_world (T := fun W => Hd W0 w W g ⟨s, n, 0, false, 0⟩) (G := fun W => Code.wp _ _ _ _ W) _ (M0.out) ?_
  clear M0
  intro W M
  apply wp_region_list
  refine Great.wpList_runTo rfl (some 7) rfl (.pointer (some ⟨g, 0, none⟩)) W (by first | (go_simp; done) | rfl) ?_
  simp only [Act.put, List.setIfInBounds_toArray, List.set_cons_zero, List.set_cons_succ]
  have M0 := Lib.hid M
  clear M
  refine callStep rfl (some 8) rfl 48 #[.pointer (some ⟨g, 0, none⟩)] (by first | (go_simp; done) | rfl) (K1.out _ M0.out.at') ?_
  rintro e W ⟨rfl, hw⟩
  refine ⟨.int .i64 (b1 : Int), rfl, ?_⟩
  simp only [Act.put, List.setIfInBounds_toArray, List.set_cons_zero, List.set_cons_succ]
  have M := M0.out.wr hw
  clear hw M0
  refine Great.wpList_runTo rfl (some 4) rfl (.int .i64 (b1 : Int)) W (by first | (go_simp; done) | rfl) ?_
  simp only [Act.put, List.setIfInBounds_toArray, List.set_cons_zero, List.set_cons_succ]
  go_wp2_with fail
  refine wp_loop_rounds 1 ?_
  rw [rounds_succ]
  have c2 := M.at'.rb.cell 2; have c3 := M.at'.rb.cell 3; have c4 := M.at'.rb.cell 4
  simp only [inA, List.getElem?_toArray, List.getElem?_cons_zero, List.getElem?_cons_succ] at c2 c3 c4
  have f2 := M.at'.rb.free 2; have f3 := M.at'.rb.free 3
  go_upto_region 7 with (go_at_call 80; refine (CP1.out _).mono ?_; rintro e w9 ⟨rfl, rfl⟩)
  go_upto_region 8 with fail
  go_upto_region 9 with fail
  clear c2 c3 c4 f2 f3
  refine abs_world (T := fun W => Hd W0 w W g ⟨s, n + 1, b1, false, 0⟩) (G := fun W => Code.wp _ _ _ _ W) _ (M.setx hx80) ?_
  clear M
  intro W M
  apply wp_region_list
  refine Great.wpList_runTo rfl (some 51) rfl (.pointer (some ⟨g, 0, none⟩)) W (by first | (go_simp; done) | rfl) ?_
  simp only [Act.put, List.setIfInBounds_toArray, List.set_cons_zero, List.set_cons_succ]
  have M0 := Lib.hid M
  clear M
  refine callStep rfl (some 52) rfl 48 #[.pointer (some ⟨g, 0, none⟩)] (by first | (go_simp; done) | rfl) (K2.out _ M0.out.at') ?_
  rintro e W ⟨rfl, hw⟩
  refine ⟨.int .i64 0, rfl, ?_⟩
  simp only [Act.put, List.setIfInBounds_toArray, List.set_cons_zero, List.set_cons_succ]
  have M := M0.out.wr hw
  clear hw M0
  refine Great.wpList_runTo rfl (some 4) rfl (.int .i64 0) W (by first | (go_simp; done) | rfl) ?_
  simp only [Act.put, List.setIfInBounds_toArray, List.set_cons_zero, List.set_cons_succ]
  go_upto_region 10 with fail
  have c2 := M.at'.rb.cell 2; have c3 := M.at'.rb.cell 3; have c4 := M.at'.rb.cell 4
  simp only [inA, List.getElem?_toArray, List.getElem?_cons_zero, List.getElem?_cons_succ] at c2 c3 c4
  have f2 := M.at'.rb.free 2; have f3 := M.at'.rb.free 3
  go_upto_region 13 with fail
  clear c2 c3 c4 f2 f3
  apply wp_region_list
  refine Great.wpList_runTo rfl (some 65) rfl (.bool false) W (by first | (go_simp; done) | rfl) ?_
  simp only [Act.put, List.setIfInBounds_toArray, List.set_cons_zero, List.set_cons_succ]
  refine Great.wpList_runTo rfl (some 66) rfl (.int .i64 0) W (by first | (go_simp; done) | rfl) ?_
  simp only [Act.put, List.setIfInBounds_toArray, List.set_cons_zero, List.set_cons_succ]
  have M0 := Lib.hid M
  clear M
  refine callStep rfl (some 67) rfl 81 #[.bool false, .int .i64 0] (by first | (go_simp; done) | rfl) (CS.out _) ?_
  rintro e W ⟨rfl, hw⟩
  refine ⟨shpV ⟨zo, zf, zg, zy, zr⟩, rfl, ?_⟩
  simp only [Act.put, List.setIfInBounds_toArray, List.set_cons_zero, List.set_cons_succ]
  have M := M0.out.below hw
  clear hw M0
  have l6 : w.heap.size + 1 ≤ W.heap.size := Hd.sz1 M
  obtain ⟨W6, hW6⟩ : ∃ k, k = W.heap.size := ⟨_, rfl⟩
  refine Great.wpList_runTo rfl (some 6) rfl (.pointer (some ⟨W.heap.size, 0, none⟩)) (W.alloc (.cells #[.int .i64 0, .int .i64 0, .int .i64 0, .bool false, .int .i64 0] 55)) (by first | (go_simp; done) | rfl) ?_
  simp only [Act.put, List.setIfInBounds_toArray, List.set_cons_zero, List.set_cons_succ]
  refine wpList_store_row rfl 55 (.tmp 6) (.tmp 67) rfl (W.heap.size) (shpA ⟨zo, zf, zg, zy, zr⟩) ?_ ?_ 55 _ (heap_alloc_new W _) (by kernel_rfl) rfl (shpA_one _) ?_
  · rfl
  · rfl
  go_upto_region 14 with fail
  refine abs_world (T := fun W => Hd W0 w W g ⟨s, n + 1, b1, false, 9⟩ ∧ ZB W W6 ⟨zo, zf, zg, zy, zr⟩) (G := fun W => Code.wp _ _ _ _ W) _ (by rw [hW6]; exact ⟨(M.below (bel_alloc _ _)).row l6 (shpA ⟨zo, zf, zg, zy, zr⟩), setRow_heap _ _ _ _ _ _ (heap_alloc_new W _)⟩) ?_
  rw [← hW6]
  rw [← hW6] at l6
  clear hW6 M
  intro W ⟨M, z6⟩
  have zz := z6.cell 1
  simp only [insV, insA, shpA, List.getElem?_toArray, List.getElem?_cons_zero, List.getElem?_cons_succ] at zz
  go_upto_region 16 with fail
  clear zz
  apply wp_region_list
  refine wpList_load_row rfl 55 (.tmp 6) rfl (W6) rfl 55 (shpA ⟨zo, zf, zg, zy, zr⟩) (0, 0) _ (z6) Tryd.underlying55 rfl (by kernel_rfl) ?_
  simp only [Act.put, List.setIfInBounds_toArray, List.set_cons_zero, List.set_cons_succ]
  refine Great.wpList_runTo rfl (some 74) rfl (.int .i64 0) W (by first | (go_simp; done) | rfl) ?_
  simp only [Act.put, List.setIfInBounds_toArray, List.set_cons_zero, List.set_cons_succ]
  refine wpList_store_row rfl 55 (.tmp 2) (.tmp 73) rfl (w.heap.size) (shpA ⟨zo, zf, zg, zy, zr⟩) ?_ ?_ 55 _ (M.r) (by kernel_rfl) rfl (shpA_one _) ?_
  · rfl
  · rfl
  go_wp2_with fail
  refine bodyPost_ret (v := .tuple #[.agg (shpA ⟨zo, zf, zg, zy, zr⟩), .int .i64 0]) (by exact results_cell_row2 Tryd.results46 _ _ w.heap.size 55 (shpA ⟨zo, zf, zg, zy, zr⟩) (0, 0) _ rfl (setRow_heap _ _ _ _ _ _ M.r) Tryd.underlying55 rfl (by kernel_rfl)) (by rfl) ⟨rfl, M.fin _⟩
end Go.Proofs.YtinjpobepcenfaaDoor
namespace Go.Proofs.YtinjpobepcenfaaDoor
open Go.RowKit Go.Sort
set_option linter.unusedVariables false
set_option linter.unusedSimpArgs false
set_option maxRecDepth 100000 in
set_option maxHeartbeats 2000000 in
theorem hdW_one (g n : Nat) (s : ByteArray) (W0 w : World) (h : IAt W0 w g ⟨s, n, 0, false, 0⟩)
  (b1 : Nat)
  (K1 : Hid (∀ W, IAt W0 W g ⟨s, n, 0, false, 0⟩ → Calls Tryd.prog 48 #[.pointer (some ⟨g, 0, none⟩)] W fun e w' => e = .returned (.int .i64 (b1 : Int)) ∧ IWr W0 W w' g ⟨s, n + 1, 0, false, 0⟩))
  (d1 : ((b1 : Int) == 102) = true)
  (b2 : Nat)
  (K2 : Hid (∀ W, IAt W0 W g ⟨s, n + 1, 0, true, 0⟩ → Calls Tryd.prog 48 #[.pointer (some ⟨g, 0, none⟩)] W fun e w' => e = .returned (.int .i64 (b2 : Int)) ∧ IWr W0 W w' g ⟨s, n + 2, 0, true, 0⟩))
  (d2 : ((b2 : Int) == 102) = false)
  (CP2 : Hid (∀ W, Calls Tryd.prog 80 #[.int .i64 (b2 : Int)] W fun e w' => e = .returned (.bool false) ∧ W = w'))
  (r2 : (((b2 : Int) / 16 == 4)) = false)
  (hb2 : b2 < 256)
  (s2 : ((b2 : Int) == 15) = false)
  (z : Shp) (hz : (z.f == 0) = false) (CS : Hid (∀ W, Calls Tryd.prog 81 #[.bool false, .int .i64 (b2 : Int)] W fun e w' => e = .returned (shpV z) ∧ Below W.heap.size W w')) :
    Calls Tryd.prog 46 #[.pointer (some ⟨g, 0, none⟩)] w fun e w' => e = .returned (.tuple #[shpV z, .int .i64 (b2 : Int)]) ∧ IWr W0 w w' g ⟨s, n + 2, 0, true, 0⟩ := by
  have M0 := Lib.hid (Hd.new h)
  clear h
  obtain ⟨zo, zf, zg, zy, zr⟩ := z
  simp only at hz
  have nd1 : ((b1 : Int) != 102) = false := by rw [bne, d1]; rfl
  have nd2 : ((b2 : Int) != 102) = true := by rw [bne, d2]; rfl
  have hb2' : (b2 : Int) < 256 := by omega
  go_enter Tryd.func46, Tryd.ntmps46
  go_upto_region 1 with fail
  refine abs_world (T := fun W => Hd W0 w W g ⟨s, n, 0, false, 0⟩) (G := fun W => Code.wp _ _ _ _ W) _ (M0.out) ?_
  clear M0
  intro W M
  apply wp_region_list
  refine Great.wpList_runTo rfl (some 7) rfl (.pointer (some ⟨g, 0, none⟩)) W (by first | (go_simp; done) | rfl) ?_
  simp only [Act.put, List.setIfInBounds_toArray, List.set_cons_zero, List.set_cons_succ]
  have M0 := Lib.hid M
  clear M
  refine callStep rfl (some 8) rfl 48 #[.pointer (some ⟨g, 0, none⟩)] (by first | (go_simp; done) | rfl) (K1.out _ M0.out.at') ?_
  rintro e W ⟨rfl, hw⟩
  refine ⟨.int .i64 (b1 : Int), rfl, ?_⟩
  simp only [Act.put, List.setIfInBounds_toArray, List.set_cons_zero, List.set_cons_succ]
  have M := M0.out.wr hw
  clear hw M0
  refine Great.wpList_runTo rfl (some 4) rfl (.int .i64 (b1 : Int)) W (by first | (go_simp; done) | rfl) ?_
  simp only [Act.put, List.setIfInBounds_toArray, List.set_cons_zero, List.set_cons_succ]
  go_wp2_with fail
  refine wp_loop_rounds 2 ?_
  rw [rounds_succ]
  have c2 := M.at'.rb.cell 2; have c3 := M.at'.rb.cell 3; have c4 := M.at'.rb.cell 4
  simp only [inA, List.getElem?_toArray, List.getElem?_cons_zero, List.getElem?_cons_succ] at c2 c3 c4
  have f2 := M.at'.rb.free 2; have f3 := M.at'.rb.free 3
  go_upto_region 5 with fail
  go_upto_region 6 with fail
  clear c2 c3 c4 f2 f3
  refine abs_world (T := fun W => Hd W0 w W g ⟨s, n + 1, 0, true, 0⟩) (G := fun W => Code.wp _ _ _ _ W) _ (M.setw) ?_
  clear M
  intro W M
  apply wp_region_list
  refine Great.wpList_runTo rfl (some 35) rfl (.pointer (some ⟨g, 0, none⟩)) W (by first | (go_simp; done) | rfl) ?_
  simp only [Act.put, List.setIfInBounds_toArray, List.set_cons_zero, List.set_cons_succ]
  have M0 := Lib.hid M
  clear M
  refine callStep rfl (some 36) rfl 48 #[.pointer (some ⟨g, 0, none⟩)] (by first | (go_simp; done) | rfl) (K2.out _ M0.out.at') ?_
  rintro e W ⟨rfl, hw⟩
  refine ⟨.int .i64 (b2 : Int), rfl, ?_⟩
  simp only [Act.put, List.setIfInBounds_toArray, List.set_cons_zero, List.set_cons_succ]
  have M := M0.out.wr hw
  clear hw M0
  refine Great.wpList_runTo rfl (some 4) rfl (.int .i64 (b2 : Int)) W (by first | (go_simp; done) | rfl) ?_
  simp only [Act.put, List.setIfInBounds_toArray, List.set_cons_zero, List.set_cons_succ]
  go_wp2_with fail
  rw [rounds_succ]
  have c2 := M.at'.rb.cell 2; have c3 := M.at'.rb.cell 3; have c4 := M.at'.rb.cell 4
  simp only [inA, List.getElem?_toArray, List.getElem?_cons_zero, List.getElem?_cons_succ] at c2 c3 c4
  have f2 := M.at'.rb.free 2; have f3 := M.at'.rb.free 3
  go_upto_region 7 with (go_at_call 80; refine (CP2.out _).mono ?_; rintro e w9 ⟨rfl, rfl⟩)
  go_upto_region 10 with fail
  go_upto_region 13 with fail
  clear c2 c3 c4 f2 f3
  apply wp_region_list
  refine Great.wpList_runTo rfl (some 65) rfl (.bool false) W (by first | (go_simp; done) | rfl) ?_
  simp only [Act.put, List.setIfInBounds_toArray, List.set_cons_zero, List.set_cons_succ]
  refine Great.wpList_runTo rfl (some 66) rfl (.int .i64 (b2 : Int)) W (by first | (go_simp; done) | rfl) ?_
  simp only [Act.put, List.setIfInBounds_toArray, List.set_cons_zero, List.set_cons_succ]
  have M0 := Lib.hid M
  clear M
  refine callStep rfl (some 67) rfl 81 #[.bool false, .int .i64 (b2 : Int)] (by first | (go_simp; done) | rfl) (CS.out _) ?_
  rintro e W ⟨rfl, hw⟩
  refine ⟨shpV ⟨zo, zf, zg, zy, zr⟩, rfl, ?_⟩
  simp only [Act.put, List.setIfInBounds_toArray, List.set_cons_zero, List.set_cons_succ]
  have M := M0.out.below hw
  clear hw M0
  have l6 : w.heap.size + 1 ≤ W.heap.size := Hd.sz1 M
  obtain ⟨W6, hW6⟩ : ∃ k, k = W.heap.size := ⟨_, rfl⟩
  refine Great.wpList_runTo rfl (some 6) rfl (.pointer (some ⟨W.heap.size, 0, none⟩)) (W.alloc (.cells #[.int .i64 0, .int .i64 0, .int .i64 0, .bool false, .int .i64 0] 55)) (by first | (go_simp; done) | rfl) ?_
  simp only [Act.put, List.setIfInBounds_toArray, List.set_cons_zero, List.set_cons_succ]
  refine wpList_store_row rfl 55 (.tmp 6) (.tmp 67) rfl (W.heap.size) (shpA ⟨zo, zf, zg, zy, zr⟩) ?_ ?_ 55 _ (heap_alloc_new W _) (by kernel_rfl) rfl (shpA_one _) ?_
  · rfl
  · rfl
  go_upto_region 14 with fail
  refine abs_world (T := fun W => Hd W0 w W g ⟨s, n + 2, 0, true, 0⟩ ∧ ZB W W6 ⟨zo, zf, zg, zy, zr⟩) (G := fun W => Code.wp _ _ _ _ W) _ (by rw [hW6]; exact ⟨(M.below (bel_alloc _ _)).row l6 (shpA ⟨zo, zf, zg, zy, zr⟩), setRow_heap _ _ _ _ _ _ (heap_alloc_new W _)⟩) ?_
  rw [← hW6]
  rw [← hW6] at l6
  clear hW6 M
  intro W ⟨M, z6⟩
  have zz := z6.cell 1
  simp only [insV, insA, shpA, List.getElem?_toArray, List.getElem?_cons_zero, List.getElem?_cons_succ] at zz
  go_upto_region 16 with fail
  clear zz
  apply wp_region_list
  refine wpList_load_row rfl 55 (.tmp 6) rfl (W6) rfl 55 (shpA ⟨zo, zf, zg, zy, zr⟩) (0, 0) _ (z6) Tryd.underlying55 rfl (by kernel_rfl) ?_
  simp only [Act.put, List.setIfInBounds_toArray, List.set_cons_zero, List.set_cons_succ]
  refine Great.wpList_runTo rfl (some 74) rfl (.int .i64 (b2 : Int)) W (by first | (go_simp; done) | rfl) ?_
  simp only [Act.put, List.setIfInBounds_toArray, List.set_cons_zero, List.set_cons_succ]
  refine wpList_store_row rfl 55 (.tmp 2) (.tmp 73) rfl (w.heap.size) (shpA ⟨zo, zf, zg, zy, zr⟩) ?_ ?_ 55 _ (M.r) (by kernel_rfl) rfl (shpA_one _) ?_
  · rfl
  · rfl
  go_wp2_with fail
  refine bodyPost_ret (v := .tuple #[.agg (shpA ⟨zo, zf, zg, zy, zr⟩), .int .i64 (b2 : Int)]) (by exact results_cell_row2 Tryd.results46 _ _ w.heap.size 55 (shpA ⟨zo, zf, zg, zy, zr⟩) (0, 0) _ rfl (setRow_heap _ _ _ _ _ _ M.r) Tryd.underlying55 rfl (by kernel_rfl)) (by rfl) ⟨rfl, M.fin _⟩
set_option maxRecDepth 100000 in
set_option maxHeartbeats 2000000 in
theorem hdW_one0 (g n : Nat) (s : ByteArray) (W0 w : World) (h : IAt W0 w g ⟨s, n, 0, false, 0⟩)
  (b1 : Nat)
  (K1 : Hid (∀ W, IAt W0 W g ⟨s, n, 0, false, 0⟩ → Calls Tryd.prog 48 #[.pointer (some ⟨g, 0, none⟩)] W fun e w' => e = .returned (.int .i64 (b1 : Int)) ∧ IWr W0 W w' g ⟨s, n + 1, 0, false, 0⟩))
  (d1 : ((b1 : Int) == 102) = true)
  (b2 : Nat)
  (K2 : Hid (∀ W, IAt W0 W g ⟨s, n + 1, 0, true, 0⟩ → Calls Tryd.prog 48 #[.pointer (some ⟨g, 0, none⟩)] W fun e w' => e = .returned (.int .i64 (b2 : Int)) ∧ IWr W0 W w' g ⟨s, n + 2, 0, true, 0⟩))
  (d2 : ((b2 : Int) == 102) = false)
  (CP2 : Hid (∀ W, Calls Tryd.prog 80 #[.int .i64 (b2 : Int)] W fun e w' => e = .returned (.bool false) ∧ W = w'))
  (r2 : (((b2 : Int) / 16 == 4)) = false)
  (hb2 : b2 < 256)
  (s2 : ((b2 : Int) == 15) = false)
  (z : Shp) (hz : (z.f == 0) = true) (CS : Hid (∀ W, Calls Tryd.prog 81 #[.bool false, .int .i64 (b2 : Int)] W fun e w' => e = .returned (shpV z) ∧ Below W.heap.size W w'))
  (K3 : Hid (∀ W, IAt W0 W g ⟨s, n + 2, 0, true, 0⟩ → Calls Tryd.prog 50 #[.pointer (some ⟨g, 0, none⟩), .int .i64 11] W fun e w' => e = .returned (.tuple #[]) ∧ IWr W0 W w' g ⟨s, n + 2, 0, true, 11⟩)) :
    Calls Tryd.prog 46 #[.pointer (some ⟨g, 0, none⟩)] w fun e w' => e = .returned (.tuple #[shpV z, .int .i64 (b2 : Int)]) ∧ IWr W0 w w' g ⟨s, n + 2, 0, true, 11⟩ := by
  have M0 := Lib.hid (Hd.new h)
  clear h
  obtain ⟨zo, zf, zg, zy, zr⟩ := z
  simp only at hz
  have nd1 : ((b1 : Int) != 102) = false := by rw [bne, d1]; rfl
  have nd2 : ((b2 : Int) != 102) = true := by rw [bne, d2]; rfl
  have hb2' : (b2 : Int) < 256 := by omega
  go_enter Tryd.func46, Tryd.ntmps46
  go_upto_region 1 with fail
  refine abs_world (T := fun W => Hd W0 w W g ⟨s, n, 0, false, 0⟩) (G := fun W => Code.wp _ _ _ _ W) _ (M0.out) ?_
  clear M0
  intro W M
  apply wp_region_list
  refine Great.wpList_runTo rfl (some 7) rfl (.pointer (some ⟨g, 0, none⟩)) W (by first | (go_simp; done) | rfl) ?_
  simp only [Act.put, List.setIfInBounds_toArray, List.set_cons_zero, List.set_cons_succ]
  have M0 := Lib.hid M
  clear M
  refine callStep rfl (some 8) rfl 48 #[.pointer (some ⟨g, 0, none⟩)] (by first | (go_simp; done) | rfl) (K1.out _ M0.out.at') ?_
  rintro e W ⟨rfl, hw⟩
  refine ⟨.int .i64 (b1 : Int), rfl, ?_⟩
  simp only [Act.put, List.setIfInBounds_toArray, List.set_cons_zero, List.set_cons_succ]
  have M := M0.out.wr hw
  clear hw M0
  refine Great.wpList_runTo rfl (some 4) rfl (.int .i64 (b1 : Int)) W (by first | (go_simp; done) | rfl) ?_
  simp only [Act.put, List.setIfInBounds_toArray, List.set_cons_zero, List.set_cons_succ]
  go_wp2_with fail
  refine wp_loop_rounds 2 ?_
  rw [rounds_succ]
  have c2 := M.at'.rb.cell 2; have c3 := M.at'.rb.cell 3; have c4 := M.at'.rb.cell 4
  simp only [inA, List.getElem?_toArray, List.getElem?_cons_zero, List.getElem?_cons_succ] at c2 c3 c4
  have f2 := M.at'.rb.free 2; have f3 := M.at'.rb.free 3
  go_upto_region 5 with fail
  go_upto_region 6 with fail
  clear c2 c3 c4 f2 f3
  refine abs_world (T := fun W => Hd W0 w W g ⟨s, n + 1, 0, true, 0⟩) (G := fun W => Code.wp _ _ _ _ W) _ (M.setw) ?_
  clear M
  intro W M
  apply wp_region_list
  refine Great.wpList_runTo rfl (some 35) rfl (.pointer (some ⟨g, 0, none⟩)) W (by first | (go_simp; done) | rfl) ?_
  simp only [Act.put, List.setIfInBounds_toArray, List.set_cons_zero, List.set_cons_succ]
  have M0 := Lib.hid M
  clear M
  refine callStep rfl (some 36) rfl 48 #[.pointer (some ⟨g, 0, none⟩)] (by first | (go_simp; done) | rfl) (K2.out _ M0.out.at') ?_
  rintro e W ⟨rfl, hw⟩
  refine ⟨.int .i64 (b2 : Int), rfl, ?_⟩
  simp only [Act.put, List.setIfInBounds_toArray, List.set_cons_zero, List.set_cons_succ]
  have M := M0.out.wr hw
  clear hw M0
  refine Great.wpList_runTo rfl (some 4) rfl (.int .i64 (b2 : Int)) W (by first | (go_simp; done) | rfl) ?_
  simp only [Act.put, List.setIfInBounds_toArray, List.set_cons_zero, List.set_cons_succ]
  go_wp2_with fail
  rw [rounds_succ]
  have c2 := M.at'.rb.cell 2; have c3 := M.at'.rb.cell 3; have c4 := M.at'.rb.cell 4
  simp only [inA, List.getElem?_toArray, List.getElem?_cons_zero, List.getElem?_cons_succ] at c2 c3 c4
  have f2 := M.at'.rb.free 2; have f3 := M.at'.rb.free 3
  go_upto_region 7 with (go_at_call 80; refine (CP2.out _).mono ?_; rintro e w9 ⟨rfl, rfl⟩)
  go_upto_region 10 with fail
  go_upto_region 13 with fail
  clear c2 c3 c4 f2 f3
  apply wp_region_list
  refine Great.wpList_runTo rfl (some 65) rfl (.bool false) W (by first | (go_simp; done) | rfl) ?_
  simp only [Act.put, List.setIfInBounds_toArray, List.set_cons_zero, List.set_cons_succ]
  refine Great.wpList_runTo rfl (some 66) rfl (.int .i64 (b2 : Int)) W (by first | (go_simp; done) | rfl) ?_
  simp only [Act.put, List.setIfInBounds_toArray, List.set_cons_zero, List.set_cons_succ]
  have M0 := Lib.hid M
  clear M
  refine callStep rfl (some 67) rfl 81 #[.bool false, .int .i64 (b2 : Int)] (by first | (go_simp; done) | rfl) (CS.out _) ?_
  rintro e W ⟨rfl, hw⟩
  refine ⟨shpV ⟨zo, zf, zg, zy, zr⟩, rfl, ?_⟩
  simp only [Act.put, List.setIfInBounds_toArray, List.set_cons_zero, List.set_cons_succ]
  have M := M0.out.below hw
  clear hw M0
  have l6 : w.heap.size + 1 ≤ W.heap.size := Hd.sz1 M
  obtain ⟨W6, hW6⟩ : ∃ k, k = W.heap.size := ⟨_, rfl⟩
  refine Great.wpList_runTo rfl (some 6) rfl (.pointer (some ⟨W.heap.size, 0, none⟩)) (W.alloc (.cells #[.int .i64 0, .int .i64 0, .int .i64 0, .bool false, .int .i64 0] 55)) (by first | (go_simp; done) | rfl) ?_
  simp only [Act.put, List.setIfInBounds_toArray, List.set_cons_zero, List.set_cons_succ]
  refine wpList_store_row rfl 55 (.tmp 6) (.tmp 67) rfl (W.heap.size) (shpA ⟨zo, zf, zg, zy, zr⟩) ?_ ?_ 55 _ (heap_alloc_new W _) (by kernel_rfl) rfl (shpA_one _) ?_
  · rfl
  · rfl
  go_upto_region 14 with fail
  refine abs_world (T := fun W => Hd W0 w W g ⟨s, n + 2, 0, true, 0⟩ ∧ ZB W W6 ⟨zo, zf, zg, zy, zr⟩) (G := fun W => Code.wp _ _ _ _ W) _ (by rw [hW6]; exact ⟨(M.below (bel_alloc _ _)).row l6 (shpA ⟨zo, zf, zg, zy, zr⟩), setRow_heap _ _ _ _ _ _ (heap_alloc_new W _)⟩) ?_
  rw [← hW6]
  rw [← hW6] at l6
  clear hW6 M
  intro W ⟨M, z6⟩
  have zz := z6.cell 1
  simp only [insV, insA, shpA, List.getElem?_toArray, List.getElem?_cons_zero, List.getElem?_cons_succ] at zz
  go_upto_region 15 with fail
  clear zz
  have z60 := Lib.hid z6
  clear z6
  apply wp_region_list
  refine Great.wpList_runTo rfl (some 71) rfl (.pointer (some ⟨g, 0, none⟩)) W (by first | (go_simp; done) | rfl) ?_
  simp only [Act.put, List.setIfInBounds_toArray, List.set_cons_zero, List.set_cons_succ]
  have M0 := Lib.hid M
  clear M
  refine callStep rfl (some 72) rfl 50 #[.pointer (some ⟨g, 0, none⟩), .int .i64 11] (by first | (go_simp; done) | rfl) (K3.out _ M0.out.at') ?_
  rintro e W ⟨rfl, hw⟩
  refine ⟨.tuple #[], rfl, ?_⟩
  simp only [Act.put, List.setIfInBounds_toArray, List.set_cons_zero, List.set_cons_succ]
  have M := M0.out.wr hw; have z6 : ZB W W6 ⟨zo, zf, zg, zy, zr⟩ := (hw.2.block _ (lt_of_blk z60.out) (fun e => by have := M0.out.ne; have := Option.some.inj e; omega)).trans z60.out
  clear hw M0
  clear z60
  go_upto_region 16 with fail
  apply wp_region_list
  refine wpList_load_row rfl 55 (.tmp 6) rfl (W6) rfl 55 (shpA ⟨zo, zf, zg, zy, zr⟩) (0, 0) _ (z6) Tryd.underlying55 rfl (by kernel_rfl) ?_
  simp only [Act.put, List.setIfInBounds_toArray, List.set_cons_zero, List.set_cons_succ]
  refine Great.wpList_runTo rfl (some 74) rfl (.int .i64 (b2 : Int)) W (by first | (go_simp; done) | rfl) ?_
  simp only [Act.put, List.setIfInBounds_toArray, List.set_cons_zero, List.set_cons_succ]
  refine wpList_store_row rfl 55 (.tmp 2) (.tmp 73) rfl (w.heap.size) (shpA ⟨zo, zf, zg, zy, zr⟩) ?_ ?_ 55 _ (M.r) (by kernel_rfl) rfl (shpA_one _) ?_
  · rfl
  · rfl
  go_wp2_with fail
  refine bodyPost_ret (v := .tuple #[.agg (shpA ⟨zo, zf, zg, zy, zr⟩), .int .i64 (b2 : Int)]) (by exact results_cell_row2 Tryd.results46 _ _ w.heap.size 55 (shpA ⟨zo, zf, zg, zy, zr⟩) (0, 0) _ rfl (setRow_heap _ _ _ _ _ _ M.r) Tryd.underlying55 rfl (by kernel_rfl)) (by rfl) ⟨rfl, M.fin _⟩
set_option maxRecDepth 100000 in
set_option maxHeartbeats 2000000 in
theorem hdW_two (g n : Nat) (s : ByteArray) (W0 w : World) (h : IAt W0 w g ⟨s, n, 0, false, 0⟩)
  (b1 : Nat)
  (K1 : Hid (∀ W, IAt W0 W g ⟨s, n, 0, false, 0⟩ → Calls Tryd.prog 48 #[.pointer (some ⟨g, 0, none⟩)] W fun e w' => e = .returned (.int .i64 (b1 : Int)) ∧ IWr W0 W w' g ⟨s, n + 1, 0, false, 0⟩))
  (d1 : ((b1 : Int) == 102) = true)
  (b2 : Nat)
  (K2 : Hid (∀ W, IAt W0 W g ⟨s, n + 1, 0, true, 0⟩ → Calls Tryd.prog 48 #[.pointer (some ⟨g, 0, none⟩)] W fun e w' => e = .returned (.int .i64 (b2 : Int)) ∧ IWr W0 W w' g ⟨s, n + 2, 0, true, 0⟩))
  (d2 : ((b2 : Int) == 102) = false)
  (CP2 : Hid (∀ W, Calls Tryd.prog 80 #[.int .i64 (b2 : Int)] W fun e w' => e = .returned (.bool false) ∧ W = w'))
  (r2 : (((b2 : Int) / 16 == 4)) = false)
  (hb2 : b2 < 256)
  (s2 : ((b2 : Int) == 15) = true)
  (b3 : Nat)
  (K3 : Hid (∀ W, IAt W0 W g ⟨s, n + 2, 0, true, 0⟩ → Calls Tryd.prog 48 #[.pointer (some ⟨g, 0, none⟩)] W fun e w' => e = .returned (.int .i64 (b3 : Int)) ∧ IWr W0 W w' g ⟨s, n + 3, 0, true, 0⟩))
  (z : Shp) (hz : (z.f == 0) = false) (CS : Hid (∀ W, Calls Tryd.prog 81 #[.bool true, .int .i64 (b3 : Int)] W fun e w' => e = .returned (shpV z) ∧ Below W.heap.size W w')) :
    Calls Tryd.prog 46 #[.pointer (some ⟨g, 0, none⟩)] w fun e w' => e = .returned (.tuple #[shpV z, .int .i64 (b3 : Int)]) ∧ IWr W0 w w' g ⟨s, n + 3, 0, true, 0⟩ := by
  have M0 := Lib.hid (Hd.new h)
  clear h
  obtain ⟨zo, zf, zg, zy, zr⟩ := z
  simp only at hz
  have nd1 : ((b1 : Int) != 102) = false := by rw [bne, d1]; rfl
  have nd2 : ((b2 : Int) != 102) = true := by rw [bne, d2]; rfl
  have hb2' : (b2 : Int) < 256 := by omega
  go_enter Tryd.func46, Tryd.ntmps46
  go_upto_region 1 with fail
  refine abs_world (T := fun W => Hd W0 w W g ⟨s, n, 0, false, 0⟩) (G := fun W => Code.wp _ _ _ _ W) _ (M0.out) ?_
  clear M0
  intro W M
  apply wp_region_list
  refine Great.wpList_runTo rfl (some 7) rfl (.pointer (some ⟨g, 0, none⟩)) W (by first | (go_simp; done) | rfl) ?_
  simp only [Act.put, List.setIfInBounds_toArray, List.set_cons_zero, List.set_cons_succ]
  have M0 := Lib.hid M
  clear M
  refine callStep rfl (some 8) rfl 48 #[.pointer (some ⟨g, 0, none⟩)] (by first | (go_simp; done) | rfl) (K1.out _ M0.out.at') ?_
  rintro e W ⟨rfl, hw⟩
  refine ⟨.int .i64 (b1 : Int), rfl, ?_⟩
  simp only [Act.put, List.setIfInBounds_toArray, List.set_cons_zero, List.set_cons_succ]
  have M := M0.out.wr hw
  clear hw M0
  refine Great.wpList_runTo rfl (some 4) rfl (.int .i64 (b1 : Int)) W (by first | (go_simp; done) | rfl) ?_
  simp only [Act.put, List.setIfInBounds_toArray, List.set_cons_zero, List.set_cons_succ]
  go_wp2_with fail
  refine wp_loop_rounds 2 ?_
  rw [rounds_succ]
  have c2 := M.at'.rb.cell 2; have c3 := M.at'.rb.cell 3; have c4 := M.at'.rb.cell 4
  simp only [inA, List.getElem?_toArray, List.getElem?_cons_zero, List.getElem?_cons_succ] at c2 c3 c4
  have f2 := M.at'.rb.free 2; have f3 := M.at'.rb.free 3
  go_upto_region 5 with fail
  go_upto_region 6 with fail
  clear c2 c3 c4 f2 f3
  refine abs_world (T := fun W => Hd W0 w W g ⟨s, n + 1, 0, true, 0⟩) (G := fun W => Code.wp _ _ _ _ W) _ (M.setw) ?_
  clear M
  intro W M
  apply wp_region_list
  refine Great.wpList_runTo rfl (some 35) rfl (.pointer (some ⟨g, 0, none⟩)) W (by first | (go_simp; done) | rfl) ?_
  simp only [Act.put, List.setIfInBounds_toArray, List.set_cons_zero, List.set_cons_succ]
  have M0 := Lib.hid M
  clear M
  refine callStep rfl (some 36) rfl 48 #[.pointer (some ⟨g, 0, none⟩)] (by first | (go_simp; done) | rfl) (K2.out _ M0.out.at') ?_
  rintro e W ⟨rfl, hw⟩
  refine ⟨.int .i64 (b2 : Int), rfl, ?_⟩
  simp only [Act.put, List.setIfInBounds_toArray, List.set_cons_zero, List.set_cons_succ]
  have M := M0.out.wr hw
  clear hw M0
  refine Great.wpList_runTo rfl (some 4) rfl (.int .i64 (b2 : Int)) W (by first | (go_simp; done) | rfl) ?_
  simp only [Act.put, List.setIfInBounds_toArray, List.set_cons_zero, List.set_cons_succ]
  go_wp2_with fail
  rw [rounds_succ]
  have c2 := M.at'.rb.cell 2; have c3 := M.at'.rb.cell 3; have c4 := M.at'.rb.cell 4
  simp only [inA, List.getElem?_toArray, List.getElem?_cons_zero, List.getElem?_cons_succ] at c2 c3 c4
  have f2 := M.at'.rb.free 2; have f3 := M.at'.rb.free 3
  go_upto_region 7 with (go_at_call 80; refine (CP2.out _).mono ?_; rintro e w9 ⟨rfl, rfl⟩)
  go_upto_region 10 with fail
  go_upto_region 12 with fail
  clear c2 c3 c4 f2 f3
  apply wp_region_list
  refine Great.wpList_runTo rfl (some 63) rfl (.pointer (some ⟨g, 0, none⟩)) W (by first | (go_simp; done) | rfl) ?_
  simp only [Act.put, List.setIfInBounds_toArray, List.set_cons_zero, List.set_cons_succ]
  have M0 := Lib.hid M
  clear M
  refine callStep rfl (some 64) rfl 48 #[.pointer (some ⟨g, 0, none⟩)] (by first | (go_simp; done) | rfl) (K3.out _ M0.out.at') ?_
  rintro e W ⟨rfl, hw⟩
  refine ⟨.int .i64 (b3 : Int), rfl, ?_⟩
  simp only [Act.put, List.setIfInBounds_toArray, List.set_cons_zero, List.set_cons_succ]
  have M := M0.out.wr hw
  clear hw M0
  refine Great.wpList_runTo rfl (some 4) rfl (.int .i64 (b3 : Int)) W (by first | (go_simp; done) | rfl) ?_
  simp only [Act.put, List.setIfInBounds_toArray, List.set_cons_zero, List.set_cons_succ]
  go_upto_region 13 with fail
  apply wp_region_list
  refine Great.wpList_runTo rfl (some 65) rfl (.bool true) W (by first | (go_simp; done) | rfl) ?_
  simp only [Act.put, List.setIfInBounds_toArray, List.set_cons_zero, List.set_cons_succ]
  refine Great.wpList_runTo rfl (some 66) rfl (.int .i64 (b3 : Int)) W (by first | (go_simp; done) | rfl) ?_
  simp only [Act.put, List.setIfInBounds_toArray, List.set_cons_zero, List.set_cons_succ]
  have M0 := Lib.hid M
  clear M
  refine callStep rfl (some 67) rfl 81 #[.bool true, .int .i64 (b3 : Int)] (by first | (go_simp; done) | rfl) (CS.out _) ?_
  rintro e W ⟨rfl, hw⟩
  refine ⟨shpV ⟨zo, zf, zg, zy, zr⟩, rfl, ?_⟩
  simp only [Act.put, List.setIfInBounds_toArray, List.set_cons_zero, List.set_cons_succ]
  have M := M0.out.below hw
  clear hw M0
  have l6 : w.heap.size + 1 ≤ W.heap.size := Hd.sz1 M
  obtain ⟨W6, hW6⟩ : ∃ k, k = W.heap.size := ⟨_, rfl⟩
  refine Great.wpList_runTo rfl (some 6) rfl (.pointer (some ⟨W.heap.size, 0, none⟩)) (W.alloc (.cells #[.int .i64 0, .int .i64 0, .int .i64 0, .bool false, .int .i64 0] 55)) (by first | (go_simp; done) | rfl) ?_
  simp only [Act.put, List.setIfInBounds_toArray, List.set_cons_zero, List.set_cons_succ]
  refine wpList_store_row rfl 55 (.tmp 6) (.tmp 67) rfl (W.heap.size) (shpA ⟨zo, zf, zg, zy, zr⟩) ?_ ?_ 55 _ (heap_alloc_new W _) (by kernel_rfl) rfl (shpA_one _) ?_
  · rfl
  · rfl
  go_upto_region 14 with fail
  refine abs_world (T := fun W => Hd W0 w W g ⟨s, n + 3, 0, true, 0⟩ ∧ ZB W W6 ⟨zo, zf, zg, zy, zr⟩) (G := fun W => Code.wp _ _ _ _ W) _ (by rw [hW6]; exact ⟨(M.below (bel_alloc _ _)).row l6 (shpA ⟨zo, zf, zg, zy, zr⟩), setRow_heap _ _ _ _ _ _ (heap_alloc_new W _)⟩) ?_
  rw [← hW6]
  rw [← hW6] at l6
  clear hW6 M
  intro W ⟨M, z6⟩
  have zz := z6.cell 1
  simp only [insV, insA, shpA, List.getElem?_toArray, List.getElem?_cons_zero, List.getElem?_cons_succ] at zz
  go_upto_region 16 with fail
  clear zz
  apply wp_region_list
  refine wpList_load_row rfl 55 (.tmp 6) rfl (W6) rfl 55 (shpA ⟨zo, zf, zg, zy, zr⟩) (0, 0) _ (z6) Tryd.underlying55 rfl (by kernel_rfl) ?_
  simp only [Act.put, List.setIfInBounds_toArray, List.set_cons_zero, List.set_cons_succ]
  refine Great.wpList_runTo rfl (some 74) rfl (.int .i64 (b3 : Int)) W (by first | (go_simp; done) | rfl) ?_
  simp only [Act.put, List.setIfInBounds_toArray, List.set_cons_zero, List.set_cons_succ]
  refine wpList_store_row rfl 55 (.tmp 2) (.tmp 73) rfl (w.heap.size) (shpA ⟨zo, zf, zg, zy, zr⟩) ?_ ?_ 55 _ (M.r) (by kernel_rfl) rfl (shpA_one _) ?_
  · rfl
  · rfl
  go_wp2_with fail
  refine bodyPost_ret (v := .tuple #[.agg (shpA ⟨zo, zf, zg, zy, zr⟩), .int .i64 (b3 : Int)]) (by exact results_cell_row2 Tryd.results46 _ _ w.heap.size 55 (shpA ⟨zo, zf, zg, zy, zr⟩) (0, 0) _ rfl (setRow_heap _ _ _ _ _ _ M.r) Tryd.underlying55 rfl (by kernel_rfl)) (by rfl) ⟨rfl, M.fin _⟩
set_option maxRecDepth 100000 in
set_option maxHeartbeats 2000000 in
theorem hdW_two0 (g n : Nat) (s : ByteArray) (W0 w : World) (h : IAt W0 w g ⟨s, n, 0, false, 0⟩)
  (b1 : Nat)
  (K1 : Hid (∀ W, IAt W0 W g ⟨s, n, 0, false, 0⟩ → Calls Tryd.prog 48 #[.pointer (some ⟨g, 0, none⟩)] W fun e w' => e = .returned (.int .i64 (b1 : Int)) ∧ IWr W0 W w' g ⟨s, n + 1, 0, false, 0⟩))
  (d1 : ((b1 : Int) == 102) = true)
  (b2 : Nat)
  (K2 : Hid (∀ W, IAt W0 W g ⟨s, n + 1, 0, true, 0⟩ → Calls Tryd.prog 48 #[.pointer (some ⟨g, 0, none⟩)] W fun e w' => e = .returned (.int .i64 (b2 : Int)) ∧ IWr W0 W w' g ⟨s, n + 2, 0, true, 0⟩))
  (d2 : ((b2 : Int) == 102) = false)
  (CP2 : Hid (∀ W, Calls Tryd.prog 80 #[.int .i64 (b2 : Int)] W fun e w' => e = .returned (.bool false) ∧ W = w'))
  (r2 : (((b2 : Int) / 16 == 4)) = false)
  (hb2 : b2 < 256)
  (s2 : ((b2 : Int) == 15) = true)
  (b3 : Nat)
  (K3 : Hid (∀ W, IAt W0 W g ⟨s, n + 2, 0, true, 0⟩ → Calls Tryd.prog 48 #[.pointer (some ⟨g, 0, none⟩)] W fun e w' => e = .returned (.int .i64 (b3 : Int)) ∧ IWr W0 W w' g ⟨s, n + 3, 0, true, 0⟩))
  (z : Shp) (hz : (z.f == 0) = true) (CS : Hid (∀ W, Calls Tryd.prog 81 #[.bool true, .int .i64 (b3 : Int)] W fun e w' => e = .returned (shpV z) ∧ Below W.heap.size W w'))
  (K4 : Hid (∀ W, IAt W0 W g ⟨s, n + 3, 0, true, 0⟩ → Calls Tryd.prog 50 #[.pointer (some ⟨g, 0, none⟩), .int .i64 11] W fun e w' => e = .returned (.tuple #[]) ∧ IWr W0 W w' g ⟨s, n + 3, 0, true, 11⟩)) :
    Calls Tryd.prog 46 #[.pointer (some ⟨g, 0, none⟩)] w fun e w' => e = .returned (.tuple #[shpV z, .int .i64 (b3 : Int)]) ∧ IWr W0 w w' g ⟨s, n + 3, 0, true, 11⟩ := by
  have M0 := Lib.hid (Hd.new h)
  clear h
  obtain ⟨zo, zf, zg, zy, zr⟩ := z
  simp only at hz
  have nd1 : ((b1 : Int) != 102) = false := by rw [bne, d1]; rfl
  have nd2 : ((b2 : Int) != 102) = true := by rw [bne, d2]; rfl
  have hb2' : (b2 : Int) < 256 := by omega
  go_enter Tryd.func46, Tryd.ntmps46
  go_upto_region 1 with fail
  refine abs_world (T := fun W => Hd W0 w W g ⟨s, n, 0, false, 0⟩) (G := fun W => Code.wp _ _ _ _ W) _ (M0.out) ?_
  clear M0
  intro W M
  apply wp_region_list
  refine Great.wpList_runTo rfl (some 7) rfl (.pointer (some ⟨g, 0, none⟩)) W (by first | (go_simp; done) | rfl) ?_
  simp only [Act.put, List.setIfInBounds_toArray, List.set_cons_zero, List.set_cons_succ]
  have M0 := Lib.hid M
  clear M
  refine callStep rfl (some 8) rfl 48 #[.pointer (some ⟨g, 0, none⟩)] (by first | (go_simp; done) | rfl) (K1.out _ M0.out.at') ?_
  rintro e W ⟨rfl, hw⟩
  refine ⟨.int .i64 (b1 : Int), rfl, ?_⟩
  simp only [Act.put, List.setIfInBounds_toArray, List.set_cons_zero, List.set_cons_succ]
  have M := M0.out.wr hw
  clear hw M0
  refine Great.wpList_runTo rfl (some 4) rfl (.int .i64 (b1 : Int)) W (by first | (go_simp; done) | rfl) ?_
  simp only [Act.put, List.setIfInBounds_toArray, List.set_cons_zero, List.set_cons_succ]
  go_wp2_with fail
  refine wp_loop_rounds 2 ?_
  rw [rounds_succ]
  have c2 := M.at'.rb.cell 2; have c3 := M.at'.rb.cell 3; have c4 := M.at'.rb.cell 4
  simp only [inA, List.getElem?_toArray, List.getElem?_cons_zero, List.getElem?_cons_succ] at c2 c3 c4
  have f2 := M.at'.rb.free 2; have f3 := M.at'.rb.free 3
  go_upto_region 5 with fail
  go_upto_region 6 with fail
  clear c2 c3 c4 f2 f3
  refine abs_world (T := fun W => Hd W0 w W g ⟨s, n + 1, 0, true, 0⟩) (G := fun W => Code.wp _ _ _ _ W) _ (M.setw) ?_
  clear M
  intro W M
  apply wp_region_list
  refine Great.wpList_runTo rfl (some 35) rfl (.pointer (some ⟨g, 0, none⟩)) W (by first | (go_simp; done) | rfl) ?_
  simp only [Act.put, List.setIfInBounds_toArray, List.set_cons_zero, List.set_cons_succ]
  have M0 := Lib.hid M
  clear M
  refine callStep rfl (some 36) rfl 48 #[.pointer (some ⟨g, 0, none⟩)] (by first | (go_simp; done) | rfl) (K2.out _ M0.out.at') ?_
  rintro e W ⟨rfl, hw⟩
  refine ⟨.int .i64 (b2 : Int), rfl, ?_⟩
  simp only [Act.put, List.setIfInBounds_toArray, List.set_cons_zero, List.set_cons_succ]
  have M := M0.out.wr hw
  clear hw M0
  refine Great.wpList_runTo rfl (some 4) rfl (.int .i64 (b2 : Int)) W (by first | (go_simp; done) | rfl) ?_
  simp only [Act.put, List.setIfInBounds_toArray, List.set_cons_zero, List.set_cons_succ]
  go_wp2_with fail
  rw [rounds_succ]
  have c2 := M.at'.rb.cell 2; have c3 := M.at'.rb.cell 3; have c4 := M.at'.rb.cell 4
  simp only [inA, List.getElem?_toArray, List.getElem?_cons_zero, List.getElem?_cons_succ] at c2 c3 c4
  have f2 := M.at'.rb.free 2; have f3 := M.at'.rb.free 3
  go_upto_region 7 with (go_at_call 80; refine (CP2.out _).mono ?_; rintro e w9 ⟨rfl, rfl⟩)
  go_upto_region 10 with fail
  go_upto_region 12 with fail
  clear c2 c3 c4 f2 f3
  apply wp_region_list
  refine Great.wpList_runTo rfl (some 63) rfl (.pointer (some ⟨g, 0, none⟩)) W (by first | (go_simp; done) | rfl) ?_
  simp only [Act.put, List.setIfInBounds_toArray, List.set_cons_zero, List.set_cons_succ]
  have M0 := Lib.hid M
  clear M
  refine callStep rfl (some 64) rfl 48 #[.pointer (some ⟨g, 0, none⟩)] (by first | (go_simp; done) | rfl) (K3.out _ M0.out.at') ?_
  rintro e W ⟨rfl, hw⟩
  refine ⟨.int .i64 (b3 : Int), rfl, ?_⟩
  simp only [Act.put, List.setIfInBounds_toArray, List.set_cons_zero, List.set_cons_succ]
  have M := M0.out.wr hw
  clear hw M0
  refine Great.wpList_runTo rfl (some 4) rfl (.int .i64 (b3 : Int)) W (by first | (go_simp; done) | rfl) ?_
  simp only [Act.put, List.setIfInBounds_toArray, List.set_cons_zero, List.set_cons_succ]
  go_upto_region 13 with fail
  apply wp_region_list
  refine Great.wpList_runTo rfl (some 65) rfl (.bool true) W (by first | (go_simp; done) | rfl) ?_
  simp only [Act.put, List.setIfInBounds_toArray, List.set_cons_zero, List.set_cons_succ]
  refine Great.wpList_runTo rfl (some 66) rfl (.int .i64 (b3 : Int)) W (by first | (go_simp; done) | rfl) ?_
  simp only [Act.put, List.setIfInBounds_toArray, List.set_cons_zero, List.set_cons_succ]
  have M0 := Lib.hid M
  clear M
  refine callStep rfl (some 67) rfl 81 #[.bool true, .int .i64 (b3 : Int)] (by first | (go_simp; done) | rfl) (CS.out _) ?_
  rintro e W ⟨rfl, hw⟩
  refine ⟨shpV ⟨zo, zf, zg, zy, zr⟩, rfl, ?_⟩
  simp only [Act.put, List.setIfInBounds_toArray, List.set_cons_zero, List.set_cons_succ]
  have M := M0.out.below hw
  clear hw M0
  have l6 : w.heap.size + 1 ≤ W.heap.size := Hd.sz1 M
  obtain ⟨W6, hW6⟩ : ∃ k, k = W.heap.size := ⟨_, rfl⟩
  refine Great.wpList_runTo rfl (some 6) rfl (.pointer (some ⟨W.heap.size, 0, none⟩)) (W.alloc (.cells #[.int .i64 0, .int .i64 0, .int .i64 0, .bool false, .int .i64 0] 55)) (by first | (go_simp; done) | rfl) ?_
  simp only [Act.put, List.setIfInBounds_toArray, List.set_cons_zero, List.set_cons_succ]
  refine wpList_store_row rfl 55 (.tmp 6) (.tmp 67) rfl (W.heap.size) (shpA ⟨zo, zf, zg, zy, zr⟩) ?_ ?_ 55 _ (heap_alloc_new W _) (by kernel_rfl) rfl (shpA_one _) ?_
  · rfl
  · rfl
  go_upto_region 14 with fail
  refine abs_world (T := fun W => Hd W0 w W g ⟨s, n + 3, 0, true, 0⟩ ∧ ZB W W6 ⟨zo, zf, zg, zy, zr⟩) (G := fun W => Code.wp _ _ _ _ W) _ (by rw [hW6]; exact ⟨(M.below (bel_alloc _ _)).row l6 (shpA ⟨zo, zf, zg, zy, zr⟩), setRow_heap _ _ _ _ _ _ (heap_alloc_new W _)⟩) ?_
  rw [← hW6]
  rw [← hW6] at l6
  clear hW6 M
  intro W ⟨M, z6⟩
  have zz := z6.cell 1
  simp only [insV, insA, shpA, List.getElem?_toArray, List.getElem?_cons_zero, List.getElem?_cons_succ] at zz
  go_upto_region 15 with fail
  clear zz
  have z60 := Lib.hid z6
  clear z6
  apply wp_region_list
  refine Great.wpList_runTo rfl (some 71) rfl (.pointer (some ⟨g, 0, none⟩)) W (by first | (go_simp; done) | rfl) ?_
  simp only [Act.put, List.setIfInBounds_toArray, List.set_cons_zero, List.set_cons_succ]
  have M0 := Lib.hid M
  clear M
  refine callStep rfl (some 72) rfl 50 #[.pointer (some ⟨g, 0, none⟩), .int .i64 11] (by first | (go_simp; done) | rfl) (K4.out _ M0.out.at') ?_
  rintro e W ⟨rfl, hw⟩
  refine ⟨.tuple #[], rfl, ?_⟩
  simp only [Act.put, List.setIfInBounds_toArray, List.set_cons_zero, List.set_cons_succ]
  have M := M0.out.wr hw; have z6 : ZB W W6 ⟨zo, zf, zg, zy, zr⟩ := (hw.2.block _ (lt_of_blk z60.out) (fun e => by have := M0.out.ne; have := Option.some.inj e; omega)).trans z60.out
  clear hw M0
  clear z60
  go_upto_region 16 with fail
  apply wp_region_list
  refine wpList_load_row rfl 55 (.tmp 6) rfl (W6) rfl 55 (shpA ⟨zo, zf, zg, zy, zr⟩) (0, 0) _ (z6) Tryd.underlying55 rfl (by kernel_rfl) ?_
  simp only [Act.put, List.setIfInBounds_toArray, List.set_cons_zero, List.set_cons_succ]
  refine Great.wpList_runTo rfl (some 74) rfl (.int .i64 (b3 : Int)) W (by first | (go_simp; done) | rfl) ?_
  simp only [Act.put, List.setIfInBounds_toArray, List.set_cons_zero, List.set_cons_succ]
  refine wpList_store_row rfl 55 (.tmp 2) (.tmp 73) rfl (w.heap.size) (shpA ⟨zo, zf, zg, zy, zr⟩) ?_ ?_ 55 _ (M.r) (by kernel_rfl) rfl (shpA_one _) ?_
  · rfl
  · rfl
  go_wp2_with fail
  refine bodyPost_ret (v := .tuple #[.agg (shpA ⟨zo, zf, zg, zy, zr⟩), .int .i64 (b3 : Int)]) (by exact results_cell_row2 Tryd.results46 _ _ w.heap.size 55 (shpA ⟨zo, zf, zg, zy, zr⟩) (0, 0) _ rfl (setRow_heap _ _ _ _ _ _ M.r) Tryd.underlying55 rfl (by kernel_rfl)) (by rfl) ⟨rfl, M.fin _⟩
set_option maxRecDepth 100000 in
set_option maxHeartbeats 2000000 in
theorem hdW_twoend (g n : Nat) (s : ByteArray) (W0 w : World) (h : IAt W0 w g ⟨s, n, 0, false, 0⟩)
  (b1 : Nat)
  (K1 : Hid (∀ W, IAt W0 W g ⟨s, n, 0, false, 0⟩ → Calls Tryd.prog 48 #[.pointer (some ⟨g, 0, none⟩)] W fun e w' => e = .returned (.int .i64 (b1 : Int)) ∧ IWr W0 W w' g ⟨s, n + 1, 0, false, 0⟩))
  (d1 : ((b1 : Int) == 102) = true)
  (b2 : Nat)
  (K2 : Hid (∀ W, IAt W0 W g ⟨s, n + 1, 0, true, 0⟩ → Calls Tryd.prog 48 #[.pointer (some ⟨g, 0, none⟩)] W fun e w' => e = .returned (.int .i64 (b2 : Int)) ∧ IWr W0 W w' g ⟨s, n + 2, 0, true, 0⟩))
  (d2 : ((b2 : Int) == 102) = false)
  (CP2 : Hid (∀ W, Calls Tryd.prog 80 #[.int .i64 (b2 : Int)] W fun e w' => e = .returned (.bool false) ∧ W = w'))
  (r2 : (((b2 : Int) / 16 == 4)) = false)
  (hb2 : b2 < 256)
  (s2 : ((b2 : Int) == 15) = true)
  (K3 : Hid (∀ W, IAt W0 W g ⟨s, n + 2, 0, true, 0⟩ → Calls Tryd.prog 48 #[.pointer (some ⟨g, 0, none⟩)] W fun e w' => e = .returned (.int .i64 0) ∧ IWr W0 W w' g ⟨s, n + 2, 0, true, 9⟩))
  (z : Shp) (hz : (z.f == 0) = true) (CS : Hid (∀ W, Calls Tryd.prog 81 #[.bool true, .int .i64 0] W fun e w' => e = .returned (shpV z) ∧ Below W.heap.size W w'))
  (K4 : Hid (∀ W, IAt W0 W g ⟨s, n + 2, 0, true, 9⟩ → Calls Tryd.prog 50 #[.pointer (some ⟨g, 0, none⟩), .int .i64 11] W fun e w' => e = .returned (.tuple #[]) ∧ IWr W0 W w' g ⟨s, n + 2, 0, true, 9⟩)) :
    Calls Tryd.prog 46 #[.pointer (some ⟨g, 0, none⟩)] w fun e w' => e = .returned (.tuple #[shpV z, .int .i64 0]) ∧ IWr W0 w w' g ⟨s, n + 2, 0, true, 9⟩ := by
  have M0 := Lib.hid (Hd.new h)
  clear h
  obtain ⟨zo, zf, zg, zy, zr⟩ := z
  simp only at hz
  have nd1 : ((b1 : Int) != 102) = false := by rw [bne, d1]; rfl
  have nd2 : ((b2 : Int) != 102) = true := by rw [bne, d2]; rfl
  have hb2' : (b2 : Int) < 256 := by omega
  go_enter Tryd.func46, Tryd.ntmps46
  go_upto_region 1 with fail
  refine abs_world (T := fun W => Hd W0 w W g ⟨s, n, 0, false, 0⟩) (G := fun W => Code.wp _ _ _ _ W) _ (M0.out) ?_
  clear M0
  intro W M
  apply wp_region_list
  refine Great.wpList_runTo rfl (some 7) rfl (.pointer (some ⟨g, 0, none⟩)) W (by first | (go_simp; done) | rfl) ?_
  simp only [Act.put, List.setIfInBounds_toArray, List.set_cons_zero, List.set_cons_succ]
  have M0 := Lib.hid M
  clear M
  refine callStep rfl (some 8) rfl 48 #[.pointer (some ⟨g, 0, none⟩)] (by first | (go_simp; done) | rfl) (K1.out _ M0.out.at') ?_
  rintro e W ⟨rfl, hw⟩
  refine ⟨.int .i64 (b1 : Int), rfl, ?_⟩
  simp only [Act.put, List.setIfInBounds_toArray, List.set_cons_zero, List.set_cons_succ]
  have M := M0.out.wr hw
  clear hw M0
  refine Great.wpList_runTo rfl (some 4) rfl (.int .i64 (b1 : Int)) W (by first | (go_simp; done) | rfl) ?_
  simp only [Act.put, List.setIfInBounds_toArray, List.set_cons_zero, List.set_cons_succ]
  go_wp2_with fail
  refine wp_loop_rounds 2 ?_
  rw [rounds_succ]
  have c2 := M.at'.rb.cell 2; have c3 := M.at'.rb.cell 3; have c4 := M.at'.rb.cell 4
  simp only [inA, List.getElem?_toArray, List.getElem?_cons_zero, List.getElem?_cons_succ] at c2 c3 c4
  have f2 := M.at'.rb.free 2; have f3 := M.at'.rb.free 3
  go_upto_region 5 with fail
  go_upto_region 6 with fail
  clear c2 c3 c4 f2 f3
  refine abs_world (T := fun W => Hd W0 w W g ⟨s, n + 1, 0, true, 0⟩) (G := fun W => Code.wp _ _ _ _ W) _ (M.setw) ?_
  clear M
  intro W M
  apply wp_region_list
  refine Great.wpList_runTo rfl (some 35) rfl (.pointer (some ⟨g, 0, none⟩)) W (by first | (go_simp; done) | rfl) ?_
  simp only [Act.put, List.setIfInBounds_toArray, List.set_cons_zero, List.set_cons_succ]
  have M0 := Lib.hid M
  clear M
  refine callStep rfl (some 36) rfl 48 #[.pointer (some ⟨g, 0, none⟩)] (by first | (go_simp; done) | rfl) (K2.out _ M0.out.at') ?_
  rintro e W ⟨rfl, hw⟩
  refine ⟨.int .i64 (b2 : Int), rfl, ?_⟩
  simp only [Act.put, List.setIfInBounds_toArray, List.set_cons_zero, List.set_cons_succ]
  have M := M0.out.wr hw
  clear hw M0
  refine Great.wpList_runTo rfl (some 4) rfl (.int .i64 (b2 : Int)) W (by first | (go_simp; done) | rfl) ?_
  simp only [Act.put, List.setIfInBounds_toArray, List.set_cons_zero, List.set_cons_succ]
  go_wp2_with fail
  rw [rounds_succ]
  have c2 := M.at'.rb.cell 2; have c3 := M.at'.rb.cell 3; have c4 := M.at'.rb.cell 4
  simp only [inA, List.getElem?_toArray, List.getElem?_cons_zero, List.getElem?_cons_succ] at c2 c3 c4
  have f2 := M.at'.rb.free 2; have f3 := M.at'.rb.free 3
  go_upto_region 7 with (go_at_call 80; refine (CP2.out _).mono ?_; rintro e w9 ⟨rfl, rfl⟩)
  go_upto_region 10 with fail
  go_upto_region 12 with fail
  clear c2 c3 c4 f2 f3
  apply wp_region_list
  refine Great.wpList_runTo rfl (some 63) rfl (.pointer (some ⟨g, 0, none⟩)) W (by first | (go_simp; done) | rfl) ?_
  simp only [Act.put, List.setIfInBounds_toArray, List.set_cons_zero, List.set_cons_succ]
  have M0 := Lib.hid M
  clear M
  refine callStep rfl (some 64) rfl 48 #[.pointer (some ⟨g, 0, none⟩)] (by first | (go_simp; done) | rfl) (K3.out _ M0.out.at') ?_
  rintro e W ⟨rfl, hw⟩
  refine ⟨.int .i64 0, rfl, ?_⟩
  simp only [Act.put, List.setIfInBounds_toArray, List.set_cons_zero, List.set_cons_succ]
  have M := M0.out.wr hw
  clear hw M0
  refine Great.wpList_runTo rfl (some 4) rfl (.int .i64 0) W (by first | (go_simp; done) | rfl) ?_
  simp only [Act.put, List.setIfInBounds_toArray, List.set_cons_zero, List.set_cons_succ]
  go_upto_region 13 with fail
  apply wp_region_list
  refine Great.wpList_runTo rfl (some 65) rfl (.bool true) W (by first | (go_simp; done) | rfl) ?_
  simp only [Act.put, List.setIfInBounds_toArray, List.set_cons_zero, List.set_cons_succ]
  refine Great.wpList_runTo rfl (some 66) rfl (.int .i64 0) W (by first | (go_simp; done) | rfl) ?_
  simp only [Act.put, List.setIfInBounds_toArray, List.set_cons_zero, List.set_cons_succ]
  have M0 := Lib.hid M
  clear M
  refine callStep rfl (some 67) rfl 81 #[.bool true, .int .i64 0] (by first | (go_simp; done) | rfl) (CS.out _) ?_
  rintro e W ⟨rfl, hw⟩
  refine ⟨shpV ⟨zo, zf, zg, zy, zr⟩, rfl, ?_⟩
  simp only [Act.put, List.setIfInBounds_toArray, List.set_cons_zero, List.set_cons_succ]
  have M := M0.out.below hw
  clear hw M0
  have l6 : w.heap.size + 1 ≤ W.heap.size := Hd.sz1 M
  obtain ⟨W6, hW6⟩ : ∃ k, k = W.heap.size := ⟨_, rfl⟩
  refine Great.wpList_runTo rfl (some 6) rfl (.pointer (some ⟨W.heap.size, 0, none⟩)) (W.alloc (.cells #[.int .i64 0, .int .i64 0, .int .i64 0, .bool false, .int .i64 0] 55)) (by first | (go_simp; done) | rfl) ?_
  simp only [Act.put, List.setIfInBounds_toArray, List.set_cons_zero, List.set_cons_succ]
  refine wpList_store_row rfl 55 (.tmp 6) (.tmp 67) rfl (W.heap.size) (shpA ⟨zo, zf, zg, zy, zr⟩) ?_ ?_ 55 _ (heap_alloc_new W _) (by kernel_rfl) rfl (shpA_one _) ?_
  · rfl
  · rfl
  go_upto_region 14 with fail
  refine abs_world (T := fun W => Hd W0 w W g ⟨s, n + 2, 0, true, 9⟩ ∧ ZB W W6 ⟨zo, zf, zg, zy, zr⟩) (G := fun W => Code.wp _ _ _ _ W) _ (by rw [hW6]; exact ⟨(M.below (bel_alloc _ _)).row l6 (shpA ⟨zo, zf, zg, zy, zr⟩), setRow_heap _ _ _ _ _ _ (heap_alloc_new W _)⟩) ?_
  rw [← hW6]
  rw [← hW6] at l6
  clear hW6 M
  intro W ⟨M, z6⟩
  have zz := z6.cell 1
  simp only [insV, insA, shpA, List.getElem?_toArray, List.getElem?_cons_zero, List.getElem?_cons_succ] at zz
  go_upto_region 15 with fail
  clear zz
  have z60 := Lib.hid z6
  clear z6
  apply wp_region_list
  refine Great.wpList_runTo rfl (some 71) rfl (.pointer (some ⟨g, 0, none⟩)) W (by first | (go_simp; done) | rfl) ?_
  simp only [Act.put, List.setIfInBounds_toArray, List.set_cons_zero, List.set_cons_succ]
  have M0 := Lib.hid M
  clear M
  refine callStep rfl (some 72) rfl 50 #[.pointer (some ⟨g, 0, none⟩), .int .i64 11] (by first | (go_simp; done) | rfl) (K4.out _ M0.out.at') ?_
  rintro e W ⟨rfl, hw⟩
  refine ⟨.tuple #[], rfl, ?_⟩
  simp only [Act.put, List.setIfInBounds_toArray, List.set_cons_zero, List.set_cons_succ]
  have M := M0.out.wr hw; have z6 : ZB W W6 ⟨zo, zf, zg, zy, zr⟩ := (hw.2.block _ (lt_of_blk z60.out) (fun e => by have := M0.out.ne; have := Option.some.inj e; omega)).trans z60.out
  clear hw M0
  clear z60
  go_upto_region 16 with fail
  apply wp_region_list
  refine wpList_load_row rfl 55 (.tmp 6) rfl (W6) rfl 55 (shpA ⟨zo, zf, zg, zy, zr⟩) (0, 0) _ (z6) Tryd.underlying55 rfl (by kernel_rfl) ?_
  simp only [Act.put, List.setIfInBounds_toArray, List.set_cons_zero, List.set_cons_succ]
  refine Great.wpList_runTo rfl (some 74) rfl (.int .i64 0) W (by first | (go_simp; done) | rfl) ?_
  simp only [Act.put, List.setIfInBounds_toArray, List.set_cons_zero, List.set_cons_succ]
  refine wpList_store_row rfl 55 (.tmp 2) (.tmp 73) rfl (w.heap.size) (shpA ⟨zo, zf, zg, zy, zr⟩) ?_ ?_ 55 _ (M.r) (by kernel_rfl) rfl (shpA_one _) ?_
  · rfl
  · rfl
  go_wp2_with fail
  refine bodyPost_ret (v := .tuple #[.agg (shpA ⟨zo, zf, zg, zy, zr⟩), .int .i64 0]) (by exact results_cell_row2 Tryd.results46 _ _ w.heap.size 55 (shpA ⟨zo, zf, zg, zy, zr⟩) (0, 0) _ rfl (setRow_heap _ _ _ _ _ _ M.r) Tryd.underlying55 rfl (by kernel_rfl)) (by rfl) ⟨rfl, M.fin _⟩
set_option maxRecDepth 100000 in
set_option maxHeartbeats 2000000 in
theorem hdWX_one (g n : Nat) (s : ByteArray) (W0 w : World) (h : IAt W0 w g ⟨s, n, 0, false, 0⟩)
  (b1 : Nat)
  (K1 : Hid (∀ W, IAt W0 W g ⟨s, n, 0, false, 0⟩ → Calls Tryd.prog 48 #[.pointer (some ⟨g, 0, none⟩)] W fun e w' => e = .returned (.int .i64 (b1 : Int)) ∧ IWr W0 W w' g ⟨s, n + 1, 0, false, 0⟩))
  (d1 : ((b1 : Int) == 102) = true)
  (b2 : Nat)
  (K2 : Hid (∀ W, IAt W0 W g ⟨s, n + 1, 0, true, 0⟩ → Calls Tryd.prog 48 #[.pointer (some ⟨g, 0, none⟩)] W fun e w' => e = .returned (.int .i64 (b2 : Int)) ∧ IWr W0 W w' g ⟨s, n + 2, 0, true, 0⟩))
  (d2 : ((b2 : Int) == 102) = false)
  (CP2 : Hid (∀ W, Calls Tryd.prog 80 #[.int .i64 (b2 : Int)] W fun e w' => e = .returned (.bool false) ∧ W = w'))
  (r2 : (((b2 : Int) / 16 == 4)) = true)
  (hb2 : b2 < 256)
  (hx80 : b2 < 80)
  (b3 : Nat)
  (K3 : Hid (∀ W, IAt W0 W g ⟨s, n + 2, b2, true, 0⟩ → Calls Tryd.prog 48 #[.pointer (some ⟨g, 0, none⟩)] W fun e w' => e = .returned (.int .i64 (b3 : Int)) ∧ IWr W0 W w' g ⟨s, n + 3, b2, true, 0⟩))
  (s3 : ((b3 : Int) == 15) = false)
  (z : Shp) (hz : (z.f == 0) = false) (CS : Hid (∀ W, Calls Tryd.prog 81 #[.bool false, .int .i64 (b3 : Int)] W fun e w' => e = .returned (shpV z) ∧ Below W.heap.size W w')) :
    Calls Tryd.prog 46 #[.pointer (some ⟨g, 0, none⟩)] w fun e w' => e = .returned (.tuple #[shpV z, .int .i64 (b3 : Int)]) ∧ IWr W0 w w' g ⟨s, n + 3, b2, true, 0⟩ := by
  have M0 := Lib.hid (Hd.new h)
  clear h
  obtain ⟨zo, zf, zg, zy, zr⟩ := z
  simp only at hz
  have nd1 : ((b1 : Int) != 102) = false := by rw [bne, d1]; rfl
  have nd2 : ((b2 : Int) != 102) = true := by rw [bne, d2]; rfl
  have hb2' : (b2 : Int) < 256 := by omega
  go_enter Tryd.func46, Tryd.ntmps46
  go_upto_region 1 with fail
  refine abs_world (T := fun W => Hd W0 w W g ⟨s, n, 0, false, 0⟩) (G := fun W => Code.wp _ _ _ _ W) _ (M0.out) ?_
  clear M0
  intro W M
  apply wp_region_list
  refine Great.wpList_runTo rfl (some 7) rfl (.pointer (some ⟨g, 0, none⟩)) W (by first | (go_simp; done) | rfl) ?_
  simp only [Act.put, List.setIfInBounds_toArray, List.set_cons_zero, List.set_cons_succ]
  have M0 := Lib.hid M
  clear M
  refine callStep rfl (some 8) rfl 48 #[.pointer (some ⟨g, 0, none⟩)] (by first | (go_simp; done) | rfl) (K1.out _ M0.out.at') ?_
  rintro e W ⟨rfl, hw⟩
  refine ⟨.int .i64 (b1 : Int), rfl, ?_⟩
  simp only [Act.put, List.setIfInBounds_toArray, List.set_cons_zero, List.set_cons_succ]
  have M := M0.out.wr hw
  clear hw M0
  refine Great.wpList_runTo rfl (some 4) rfl (.int .i64 (b1 : Int)) W (by first | (go_simp; done) | rfl) ?_
  simp only [Act.put, List.setIfInBounds_toArray, List.set_cons_zero, List.set_cons_succ]
  go_wp2_with fail
  refine wp_loop_rounds 2 ?_
  rw [rounds_succ]
  have c2 := M.at'.rb.cell 2; have c3 := M.at'.rb.cell 3; have c4 := M.at'.rb.cell 4
  simp only [inA, List.getElem?_toArray, List.getElem?_cons_zero, List.getElem?_cons_succ] at c2 c3 c4
  have f2 := M.at'.rb.free 2; have f3 := M.at'.rb.free 3
  go_upto_region 5 with fail
  go_upto_region 6 with fail
  clear c2 c3 c4 f2 f3
  refine abs_world (T := fun W => Hd W0 w W g ⟨s, n + 1, 0, true, 0⟩) (G := fun W => Code.wp _ _ _ _ W) _ (M.setw) ?_
  clear M
  intro W M
  apply wp_region_list
  refine Great.wpList_runTo rfl (some 35) rfl (.pointer (some ⟨g, 0, none⟩)) W (by first | (go_simp; done) | rfl) ?_
  simp only [Act.put, List.setIfInBounds_toArray, List.set_cons_zero, List.set_cons_succ]
  have M0 := Lib.hid M
  clear M
  refine callStep rfl (some 36) rfl 48 #[.pointer (some ⟨g, 0, none⟩)] (by first | (go_simp; done) | rfl) (K2.out _ M0.out.at') ?_
  rintro e W ⟨rfl, hw⟩
  refine ⟨.int .i64 (b2 : Int), rfl, ?_⟩
  simp only [Act.put, List.setIfInBounds_toArray, List.set_cons_zero, List.set_cons_succ]
  have M := M0.out.wr hw
  clear hw M0
  refine Great.wpList_runTo rfl (some 4) rfl (.int .i64 (b2 : Int)) W (by first | (go_simp; done) | rfl) ?_
  simp only [Act.put, List.setIfInBounds_toArray, List.set_cons_zero, List.set_cons_succ]
  go_wp2_with fail
  rw [rounds_succ]
  have c2 := M.at'.rb.cell 2; have c3 := M.at'.rb.cell 3; have c4 := M.at'.rb.cell 4
  simp only [inA, List.getElem?_toArray, List.getElem?_cons_zero, List.getElem?_cons_succ] at c2 c3 c4
  have f2 := M.at'.rb.free 2; have f3 := M.at'.rb.free 3
  go_upto_region 7 with (go_at_call 80; refine (CP2.out _).mono ?_; rintro e w9 ⟨rfl, rfl⟩)
  go_upto_region 8 with fail
  go_upto_region 9 with fail
  clear c2 c3 c4 f2 f3
  refine abs_world (T := fun W => Hd W0 w W g ⟨s, n + 2, b2, true, 0⟩) (G := fun W => Code.wp _ _ _ _ W) _ (M.setx hx80) ?_
  clear M
  intro W M
  apply wp_region_list
  refine Great.wpList_runTo rfl (some 51) rfl (.pointer (some ⟨g, 0, none⟩)) W (by first | (go_simp; done) | rfl) ?_
  simp only [Act.put, List.setIfInBounds_toArray, List.set_cons_zero, List.set_cons_succ]
  have M0 := Lib.hid M
  clear M
  refine callStep rfl (some 52) rfl 48 #[.pointer (some ⟨g, 0, none⟩)] (by first | (go_simp; done) | rfl) (K3.out _ M0.out.at') ?_
  rintro e W ⟨rfl, hw⟩
  refine ⟨.int .i64 (b3 : Int), rfl, ?_⟩
  simp only [Act.put, List.setIfInBounds_toArray, List.set_cons_zero, List.set_cons_succ]
  have M := M0.out.wr hw
  clear hw M0
  refine Great.wpList_runTo rfl (some 4) rfl (.int .i64 (b3 : Int)) W (by first | (go_simp; done) | rfl) ?_
  simp only [Act.put, List.setIfInBounds_toArray, List.set_cons_zero, List.set_cons_succ]
  go_upto_region 10 with fail
  have c2 := M.at'.rb.cell 2; have c3 := M.at'.rb.cell 3; have c4 := M.at'.rb.cell 4
  simp only [inA, List.getElem?_toArray, List.getElem?_cons_zero, List.getElem?_cons_succ] at c2 c3 c4
  have f2 := M.at'.rb.free 2; have f3 := M.at'.rb.free 3
  go_upto_region 13 with fail
  clear c2 c3 c4 f2 f3
  apply wp_region_list
  refine Great.wpList_runTo rfl (some 65) rfl (.bool false) W (by first | (go_simp; done) | rfl) ?_
  simp only [Act.put, List.setIfInBounds_toArray, List.set_cons_zero, List.set_cons_succ]
  refine Great.wpList_runTo rfl (some 66) rfl (.int .i64 (b3 : Int)) W (by first | (go_simp; done) | rfl) ?_
  simp only [Act.put, List.setIfInBounds_toArray, List.set_cons_zero, List.set_cons_succ]
  have M0 := Lib.hid M
  clear M
  refine callStep rfl (some 67) rfl 81 #[.bool false, .int .i64 (b3 : Int)] (by first | (go_simp; done) | rfl) (CS.out _) ?_
  rintro e W ⟨rfl, hw⟩
  refine ⟨shpV ⟨zo, zf, zg, zy, zr⟩, rfl, ?_⟩
  simp only [Act.put, List.setIfInBounds_toArray, List.set_cons_zero, List.set_cons_succ]
  have M := M0.out.below hw
  clear hw M0
  have l6 : w.heap.size + 1 ≤ W.heap.size := Hd.sz1 M
  obtain ⟨W6, hW6⟩ : ∃ k, k = W.heap.size := ⟨_, rfl⟩
  refine Great.wpList_runTo rfl (some 6) rfl (.pointer (some ⟨W.heap.size, 0, none⟩)) (W.alloc (.cells #[.int .i64 0, .int .i64 0, .int .i64 0, .bool false, .int .i64 0] 55)) (by first | (go_simp; done) | rfl) ?_
  simp only [Act.put, List.setIfInBounds_toArray, List.set_cons_zero, List.set_cons_succ]
  refine wpList_store_row rfl 55 (.tmp 6) (.tmp 67) rfl (W.heap.size) (shpA ⟨zo, zf, zg, zy, zr⟩) ?_ ?_ 55 _ (heap_alloc_new W _) (by kernel_rfl) rfl (shpA_one _) ?_
  · rfl
  · rfl
  go_upto_region 14 with fail
  refine abs_world (T := fun W => Hd W0 w W g ⟨s, n + 3, b2, true, 0⟩ ∧ ZB W W6 ⟨zo, zf, zg, zy, zr⟩) (G := fun W => Code.wp _ _ _ _ W) _ (by rw [hW6]; exact ⟨(M.below (bel_alloc _ _)).row l6 (shpA ⟨zo, zf, zg, zy, zr⟩), setRow_heap _ _ _ _ _ _ (heap_alloc_new W _)⟩) ?_
  rw [← hW6]
  rw [← hW6] at l6
  clear hW6 M
  intro W ⟨M, z6⟩
  have zz := z6.cell 1
  simp only [insV, insA, shpA, List.getElem?_toArray, List.getElem?_cons_zero, List.getElem?_cons_succ] at zz
  go_upto_region 16 with fail
  clear zz
  apply wp_region_list
  refine wpList_load_row rfl 55 (.tmp 6) rfl (W6) rfl 55 (shpA ⟨zo, zf, zg, zy, zr⟩) (0, 0) _ (z6) Tryd.underlying55 rfl (by kernel_rfl) ?_
  simp only [Act.put, List.setIfInBounds_toArray, List.set_cons_zero, List.set_cons_succ]
  refine Great.wpList_runTo rfl (some 74) rfl (.int .i64 (b3 : Int)) W (by first | (go_simp; done) | rfl) ?_
  simp only [Act.put, List.setIfInBounds_toArray, List.set_cons_zero, List.set_cons_succ]
  refine wpList_store_row rfl 55 (.tmp 2) (.tmp 73) rfl (w.heap.size) (shpA ⟨zo, zf, zg, zy, zr⟩) ?_ ?_ 55 _ (M.r) (by kernel_rfl) rfl (shpA_one _) ?_
  · rfl
  · rfl
  go_wp2_with fail
  refine bodyPost_ret (v := .tuple #[.agg (shpA ⟨zo, zf, zg, zy, zr⟩), .int .i64 (b3 : Int)]) (by exact results_cell_row2 Tryd.results46 _ _ w.heap.size 55 (shpA ⟨zo, zf, zg, zy, zr⟩) (0, 0) _ rfl (setRow_heap _ _ _ _ _ _ M.r) Tryd.underlying55 rfl (by kernel_rfl)) (by rfl) ⟨rfl, M.fin _⟩
set_option maxRecDepth 100000 in
set_option maxHeartbeats 2000000 in
theorem hdWX_one0 (g n : Nat) (s : ByteArray) (W0 w : World) (h : IAt W0 w g ⟨s, n, 0, false, 0⟩)
  (b1 : Nat)
  (K1 : Hid (∀ W, IAt W0 W g ⟨s, n, 0, false, 0⟩ → Calls Tryd.prog 48 #[.pointer (some ⟨g, 0, none⟩)] W fun e w' => e = .returned (.int .i64 (b1 : Int)) ∧ IWr W0 W w' g ⟨s, n + 1, 0, false, 0⟩))
  (d1 : ((b1 : Int) == 102) = true)
  (b2 : Nat)
  (K2 : Hid (∀ W, IAt W0 W g ⟨s, n + 1, 0, true, 0⟩ → Calls Tryd.prog 48 #[.pointer (some ⟨g, 0, none⟩)] W fun e w' => e = .returned (.int .i64 (b2 : Int)) ∧ IWr W0 W w' g ⟨s, n + 2, 0, true, 0⟩))
  (d2 : ((b2 : Int) == 102) = false)
  (CP2 : Hid (∀ W, Calls Tryd.prog 80 #[.int .i64 (b2 : Int)] W fun e w' => e = .returned (.bool false) ∧ W = w'))
  (r2 : (((b2 : Int) / 16 == 4)) = true)
  (hb2 : b2 < 256)
  (hx80 : b2 < 80)
  (b3 : Nat)
  (K3 : Hid (∀ W, IAt W0 W g ⟨s, n + 2, b2, true, 0⟩ → Calls Tryd.prog 48 #[.pointer (some ⟨g, 0, none⟩)] W fun e w' => e = .returned (.int .i64 (b3 : Int)) ∧ IWr W0 W w' g ⟨s, n + 3, b2, true, 0⟩))
  (s3 : ((b3 : Int) == 15) = false)
  (z : Shp) (hz : (z.f == 0) = true) (CS : Hid (∀ W, Calls Tryd.prog 81 #[.bool false, .int .i64 (b3 : Int)] W fun e w' => e = .returned (shpV z) ∧ Below W.heap.size W w'))
  (K4 : Hid (∀ W, IAt W0 W g ⟨s, n + 3, b2, true, 0⟩ → Calls Tryd.prog 50 #[.pointer (some ⟨g, 0, none⟩), .int .i64 11] W fun e w' => e = .returned (.tuple #[]) ∧ IWr W0 W w' g ⟨s, n + 3, b2, true, 11⟩)) :
    Calls Tryd.prog 46 #[.pointer (some ⟨g, 0, none⟩)] w fun e w' => e = .returned (.tuple #[shpV z, .int .i64 (b3 : Int)]) ∧ IWr W0 w w' g ⟨s, n + 3, b2, true, 11⟩ := by
  have M0 := Lib.hid (Hd.new h)
  clear h
  obtain ⟨zo, zf, zg, zy, zr⟩ := z
  simp only at hz
  have nd1 : ((b1 : Int) != 102) = false := by rw [bne, d1]; rfl
  have nd2 : ((b2 : Int) != 102) = true := by rw [bne, d2]; rfl
  have hb2' : (b2 : Int) < 256 := by omega
  go_enter Tryd.func46, Tryd.ntmps46
  go_upto_region 1 with fail
  refine abs_world (T := fun W => Hd W0 w W g ⟨s, n, 0, false, 0⟩) (G := fun W => Code.wp _ _ _ _ W) _ (M0.out) ?_
  clear M0
  intro W M
  apply wp_region_list
  refine Great.wpList_runTo rfl (some 7) rfl (.pointer (some ⟨g, 0, none⟩)) W (by first | (go_simp; done) | rfl) ?_
  simp only [Act.put, List.setIfInBounds_toArray, List.set_cons_zero, List.set_cons_succ]
  have M0 := Lib.hid M
  clear M
  refine callStep rfl (some 8) rfl 48 #[.pointer (some ⟨g, 0, none⟩)] (by first | (go_simp; done) | rfl) (K1.out _ M0.out.at') ?_
  rintro e W ⟨rfl, hw⟩
  refine ⟨.int .i64 (b1 : Int), rfl, ?_⟩
  simp only [Act.put, List.setIfInBounds_toArray, List.set_cons_zero, List.set_cons_succ]
  have M := M0.out.wr hw
  clear hw M0
  refine Great.wpList_runTo rfl (some 4) rfl (.int .i64 (b1 : Int)) W (by first | (go_simp; done) | rfl) ?_
  simp only [Act.put, List.setIfInBounds_toArray, List.set_cons_zero, List.set_cons_succ]
  go_wp2_with fail
  refine wp_loop_rounds 2 ?_
  rw [rounds_succ]
  have c2 := M.at'.rb.cell 2; have c3 := M.at'.rb.cell 3; have c4 := M.at'.rb.cell 4
  simp only [inA, List.getElem?_toArray, List.getElem?_cons_zero, List.getElem?_cons_succ] at c2 c3 c4
  have f2 := M.at'.rb.free 2; have f3 := M.at'.rb.free 3
  go_upto_region 5 with fail
  go_upto_region 6 with fail
  clear c2 c3 c4 f2 f3
  refine abs_world (T := fun W => Hd W0 w W g ⟨s, n + 1, 0, true, 0⟩) (G := fun W => Code.wp _ _ _ _ W) _ (M.setw) ?_
  clear M
  intro W M
  apply wp_region_list
  refine Great.wpList_runTo rfl (some 35) rfl (.pointer (some ⟨g, 0, none⟩)) W (by first | (go_simp; done) | rfl) ?_
  simp only [Act.put, List.setIfInBounds_toArray, List.set_cons_zero, List.set_cons_succ]
  have M0 := Lib.hid M
  clear M
  refine callStep rfl (some 36) rfl 48 #[.pointer (some ⟨g, 0, none⟩)] (by first | (go_simp; done) | rfl) (K2.out _ M0.out.at') ?_
  rintro e W ⟨rfl, hw⟩
  refine ⟨.int .i64 (b2 : Int), rfl, ?_⟩
  simp only [Act.put, List.setIfInBounds_toArray, List.set_cons_zero, List.set_cons_succ]
  have M := M0.out.wr hw
  clear hw M0
  refine Great.wpList_runTo rfl (some 4) rfl (.int .i64 (b2 : Int)) W (by first | (go_simp; done) | rfl) ?_
  simp only [Act.put, List.setIfInBounds_toArray, List.set_cons_zero, List.set_cons_succ]
  go_wp2_with fail
  rw [rounds_succ]
  have c2 := M.at'.rb.cell 2; have c3 := M.at'.rb.cell 3; have c4 := M.at'.rb.cell 4
  simp only [inA, List.getElem?_toArray, List.getElem?_cons_zero, List.getElem?_cons_succ] at c2 c3 c4
  have f2 := M.at'.rb.free 2; have f3 := M.at'.rb.free 3
  go_upto_region 7 with (go_at_call 80; refine (CP2.out _).mono ?_; rintro e w9 ⟨rfl, rfl⟩)
  go_upto_region 8 with fail
  go_upto_region 9 with fail
  clear c2 c3 c4 f2 f3
  refine abs_world (T := fun W => Hd W0 w W g ⟨s, n + 2, b2, true, 0⟩) (G := fun W => Code.wp _ _ _ _ W) _ (M.setx hx80) ?_
  clear M
  intro W M
  apply wp_region_list
  refine Great.wpList_runTo rfl (some 51) rfl (.pointer (some ⟨g, 0, none⟩)) W (by first | (go_simp; done) | rfl) ?_
  simp only [Act.put, List.setIfInBounds_toArray, List.set_cons_zero, List.set_cons_succ]
  have M0 := Lib.hid M
  clear M
  refine callStep rfl (some 52) rfl 48 #[.pointer (some ⟨g, 0, none⟩)] (by first | (go_simp; done) | rfl) (K3.out _ M0.out.at') ?_
  rintro e W ⟨rfl, hw⟩
  refine ⟨.int .i64 (b3 : Int), rfl, ?_⟩
  simp only [Act.put, List.setIfInBounds_toArray, List.set_cons_zero, List.set_cons_succ]
  have M := M0.out.wr hw
  clear hw M0
  refine Great.wpList_runTo rfl (some 4) rfl (.int .i64 (b3 : Int)) W (by first | (go_simp; done) | rfl) ?_
  simp only [Act.put, List.setIfInBounds_toArray, List.set_cons_zero, List.set_cons_succ]
  go_upto_region 10 with fail
  have c2 := M.at'.rb.cell 2; have c3 := M.at'.rb.cell 3; have c4 := M.at'.rb.cell 4
  simp only [inA, List.getElem?_toArray, List.getElem?_cons_zero, List.getElem?_cons_succ] at c2 c3 c4
  have f2 := M.at'.rb.free 2; have f3 := M.at'.rb.free 3
  go_upto_region 13 with fail
  clear c2 c3 c4 f2 f3
  apply wp_region_list
  refine Great.wpList_runTo rfl (some 65) rfl (.bool false) W (by first | (go_simp; done) | rfl) ?_
  simp only [Act.put, List.setIfInBounds_toArray, List.set_cons_zero, List.set_cons_succ]
  refine Great.wpList_runTo rfl (some 66) rfl (.int .i64 (b3 : Int)) W (by first | (go_simp; done) | rfl) ?_
  simp only [Act.put, List.setIfInBounds_toArray, List.set_cons_zero, List.set_cons_succ]
  have M0 := Lib.hid M
  clear M
  refine callStep rfl (some 67) rfl 81 #[.bool false, .int .i64 (b3 : Int)] (by first | (go_simp; done) | rfl) (CS.out _) ?_
  rintro e W ⟨rfl, hw⟩
  refine ⟨shpV ⟨zo, zf, zg, zy, zr⟩, rfl, ?_⟩
  simp only [Act.put, List.setIfInBounds_toArray, List.set_cons_zero, List.set_cons_succ]
  have M := M0.out.below hw
  clear hw M0
  have l6 : w.heap.size + 1 ≤ W.heap.size := Hd.sz1 M
  obtain ⟨W6, hW6⟩ : ∃ k, k = W.heap.size := ⟨_, rfl⟩
  refine Great.wpList_runTo rfl (some 6) rfl (.pointer (some ⟨W.heap.size, 0, none⟩)) (W.alloc (.cells #[.int .i64 0, .int .i64 0, .int .i64 0, .bool false, .int .i64 0] 55)) (by first | (go_simp; done) | rfl) ?_
  simp only [Act.put, List.setIfInBounds_toArray, List.set_cons_zero, List.set_cons_succ]
  refine wpList_store_row rfl 55 (.tmp 6) (.tmp 67) rfl (W.heap.size) (shpA ⟨zo, zf, zg, zy, zr⟩) ?_ ?_ 55 _ (heap_alloc_new W _) (by kernel_rfl) rfl (shpA_one _) ?_
  · rfl
  · rfl
  go_upto_region 14 with fail
  refine abs_world (T := fun W => Hd W0 w W g ⟨s, n + 3, b2, true, 0⟩ ∧ ZB W W6 ⟨zo, zf, zg, zy, zr⟩) (G := fun W => Code.wp _ _ _ _ W) _ (by rw [hW6]; exact ⟨(M.below (bel_alloc _ _)).row l6 (shpA ⟨zo, zf, zg, zy, zr⟩), setRow_heap _ _ _ _ _ _ (heap_alloc_new W _)⟩) ?_
  rw [← hW6]
  rw [← hW6] at l6
  clear hW6 M
  intro W ⟨M, z6⟩
  have zz := z6.cell 1
  simp only [insV, insA, shpA, List.getElem?_toArray, List.getElem?_cons_zero, List.getElem?_cons_succ] at zz
  go_upto_region 15 with fail
  clear zz
  have z60 := Lib.hid z6
  clear z6
  apply wp_region_list
  refine Great.wpList_runTo rfl (some 71) rfl (.pointer (some ⟨g, 0, none⟩)) W (by first | (go_simp; done) | rfl) ?_
  simp only [Act.put, List.setIfInBounds_toArray, List.set_cons_zero, List.set_cons_succ]
  have M0 := Lib.hid M
  clear M
  refine callStep rfl (some 72) rfl 50 #[.pointer (some ⟨g, 0, none⟩), .int .i64 11] (by first | (go_simp; done) | rfl) (K4.out _ M0.out.at') ?_
  rintro e W ⟨rfl, hw⟩
  refine ⟨.tuple #[], rfl, ?_⟩
  simp only [Act.put, List.setIfInBounds_toArray, List.set_cons_zero, List.set_cons_succ]
  have M := M0.out.wr hw; have z6 : ZB W W6 ⟨zo, zf, zg, zy, zr⟩ := (hw.2.block _ (lt_of_blk z60.out) (fun e => by have := M0.out.ne; have := Option.some.inj e; omega)).trans z60.out
  clear hw M0
  clear z60
  go_upto_region 16 with fail
  apply wp_region_list
  refine wpList_load_row rfl 55 (.tmp 6) rfl (W6) rfl 55 (shpA ⟨zo, zf, zg, zy, zr⟩) (0, 0) _ (z6) Tryd.underlying55 rfl (by kernel_rfl) ?_
  simp only [Act.put, List.setIfInBounds_toArray, List.set_cons_zero, List.set_cons_succ]
  refine Great.wpList_runTo rfl (some 74) rfl (.int .i64 (b3 : Int)) W (by first | (go_simp; done) | rfl) ?_
  simp only [Act.put, List.setIfInBounds_toArray, List.set_cons_zero, List.set_cons_succ]
  refine wpList_store_row rfl 55 (.tmp 2) (.tmp 73) rfl (w.heap.size) (shpA ⟨zo, zf, zg, zy, zr⟩) ?_ ?_ 55 _ (M.r) (by kernel_rfl) rfl (shpA_one _) ?_
  · rfl
  · rfl
  go_wp2_with fail
  refine bodyPost_ret (v := .tuple #[.agg (shpA ⟨zo, zf, zg, zy, zr⟩), .int .i64 (b3 : Int)]) (by exact results_cell_row2 Tryd.results46 _ _ w.heap.size 55 (shpA ⟨zo, zf, zg, zy, zr⟩) (0, 0) _ rfl (setRow_heap _ _ _ _ _ _ M.r) Tryd.underlying55 rfl (by kernel_rfl)) (by rfl) ⟨rfl, M.fin _⟩
set_option maxRecDepth 100000 in
set_option maxHeartbeats 2000000 in
theorem hdWX_two (g n : Nat) (s : ByteArray) (W0 w : World) (h : IAt W0 w g ⟨s, n, 0, false, 0⟩)
  (b1 : Nat)
  (K1 : Hid (∀ W, IAt W0 W g ⟨s, n, 0, false, 0⟩ → Calls Tryd.prog 48 #[.pointer (some ⟨g, 0, none⟩)] W fun e w' => e = .returned (.int .i64 (b1 : Int)) ∧ IWr W0 W w' g ⟨s, n + 1, 0, false, 0⟩))
  (d1 : ((b1 : Int) == 102) = true)
  (b2 : Nat)
  (K2 : Hid (∀ W, IAt W0 W g ⟨s, n + 1, 0, true, 0⟩ → Calls Tryd.prog 48 #[.pointer (some ⟨g, 0, none⟩)] W fun e w' => e = .returned (.int .i64 (b2 : Int)) ∧ IWr W0 W w' g ⟨s, n + 2, 0, true, 0⟩))
  (d2 : ((b2 : Int) == 102) = false)
  (CP2 : Hid (∀ W, Calls Tryd.prog 80 #[.int .i64 (b2 : Int)] W fun e w' => e = .returned (.bool false) ∧ W = w'))
  (r2 : (((b2 : Int) / 16 == 4)) = true)
  (hb2 : b2 < 256)
  (hx80 : b2 < 80)
  (b3 : Nat)
  (K3 : Hid (∀ W, IAt W0 W g ⟨s, n + 2, b2, true, 0⟩ → Calls Tryd.prog 48 #[.pointer (some ⟨g, 0, none⟩)] W fun e w' => e = .returned (.int .i64 (b3 : Int)) ∧ IWr W0 W w' g ⟨s, n + 3, b2, true, 0⟩))
  (s3 : ((b3 : Int) == 15) = true)
  (b4 : Nat)
  (K4 : Hid (∀ W, IAt W0 W g ⟨s, n + 3, b2, true, 0⟩ → Calls Tryd.prog 48 #[.pointer (some ⟨g, 0, none⟩)] W fun e w' => e = .returned (.int .i64 (b4 : Int)) ∧ IWr W0 W w' g ⟨s, n + 4, b2, true, 0⟩))
  (z : Shp) (hz : (z.f == 0) = false) (CS : Hid (∀ W, Calls Tryd.prog 81 #[.bool true, .int .i64 (b4 : Int)] W fun e w' => e = .returned (shpV z) ∧ Below W.heap.size W w')) :
    Calls Tryd.prog 46 #[.pointer (some ⟨g, 0, none⟩)] w fun e w' => e = .returned (.tuple #[shpV z, .int .i64 (b4 : Int)]) ∧ IWr W0 w w' g ⟨s, n + 4, b2, true, 0⟩ := by
  have M0 := Lib.hid (Hd.new h)
  clear h
  obtain ⟨zo, zf, zg, zy, zr⟩ := z
  simp only at hz
  have nd1 : ((b1 : Int) != 102) = false := by rw [bne, d1]; rfl
  have nd2 : ((b2 : Int) != 102) = true := by rw [bne, d2]; rfl
  have hb2' : (b2 : Int) < 256 := by omega
  go_enter Tryd.func46, Tryd.ntmps46
  go_upto_region 1 with fail
  refine abs_world (T := fun W => Hd W0 w W g ⟨s, n, 0, false, 0⟩) (G := fun W => Code.wp _ _ _ _ W) _ (M0.out) ?_
  clear M0
  intro W M
  apply wp_region_list
  refine Great.wpList_runTo rfl (some 7) rfl (.pointer (some ⟨g, 0, none⟩)) W (by first | (go_simp; done) | rfl) ?_
  simp only [Act.put, List.setIfInBounds_toArray, List.set_cons_zero, List.set_cons_succ]
  have M0 := Lib.hid M
  clear M
  refine callStep rfl (some 8) rfl 48 #[.pointer (some ⟨g, 0, none⟩)] (by first | (go_simp; done) | rfl) (K1.out _ M0.out.at') ?_
  rintro e W ⟨rfl, hw⟩
  refine ⟨.int .i64 (b1 : Int), rfl, ?_⟩
  simp only [Act.put, List.setIfInBounds_toArray, List.set_cons_zero, List.set_cons_succ]
  have M := M0.out.wr hw
  clear hw M0
  refine Great.wpList_runTo rfl (some 4) rfl (.int .i64 (b1 : Int)) W (by first | (go_simp; done) | rfl) ?_
  simp only [Act.put, List.setIfInBounds_toArray, List.set_cons_zero, List.set_cons_succ]
  go_wp2_with fail
  refine wp_loop_rounds 2 ?_
  rw [rounds_succ]
  have c2 := M.at'.rb.cell 2; have c3 := M.at'.rb.cell 3; have c4 := M.at'.rb.cell 4
  simp only [inA, List.getElem?_toArray, List.getElem?_cons_zero, List.getElem?_cons_succ] at c2 c3 c4
  have f2 := M.at'.rb.free 2; have f3 := M.at'.rb.free 3
  go_upto_region 5 with fail
  go_upto_region 6 with fail
  clear c2 c3 c4 f2 f3
  refine abs_world (T := fun W => Hd W0 w W g ⟨s, n + 1, 0, true, 0⟩) (G := fun W => Code.wp _ _ _ _ W) _ (M.setw) ?_
  clear M
  intro W M
  apply wp_region_list
  refine Great.wpList_runTo rfl (some 35) rfl (.pointer (some ⟨g, 0, none⟩)) W (by first | (go_simp; done) | rfl) ?_
  simp only [Act.put, List.setIfInBounds_toArray, List.set_cons_zero, List.set_cons_succ]
  have M0 := Lib.hid M
  clear M
  refine callStep rfl (some 36) rfl 48 #[.pointer (some ⟨g, 0, none⟩)] (by first | (go_simp; done) | rfl) (K2.out _ M0.out.at') ?_
  rintro e W ⟨rfl, hw⟩
  refine ⟨.int .i64 (b2 : Int), rfl, ?_⟩
  simp only [Act.put, List.setIfInBounds_toArray, List.set_cons_zero, List.set_cons_succ]
  have M := M0.out.wr hw
  clear hw M0
  refine Great.wpList_runTo rfl (some 4) rfl (.int .i64 (b2 : Int)) W (by first | (go_simp; done) | rfl) ?_
  simp only [Act.put, List.setIfInBounds_toArray, List.set_cons_zero, List.set_cons_succ]
  go_wp2_with fail
  rw [rounds_succ]
  have c2 := M.at'.rb.cell 2; have c3 := M.at'.rb.cell 3; have c4 := M.at'.rb.cell 4
  simp only [inA, List.getElem?_toArray, List.getElem?_cons_zero, List.getElem?_cons_succ] at c2 c3 c4
  have f2 := M.at'.rb.free 2; have f3 := M.at'.rb.free 3
  go_upto_region 7 with (go_at_call 80; refine (CP2.out _).mono ?_; rintro e w9 ⟨rfl, rfl⟩)
  go_upto_region 8 with fail
  go_upto_region 9 with fail
  clear c2 c3 c4 f2 f3
  refine abs_world (T := fun W => Hd W0 w W g ⟨s, n + 2, b2, true, 0⟩) (G := fun W => Code.wp _ _ _ _ W) _ (M.setx hx80) ?_
  clear M
  intro W M
  apply wp_region_list
  refine Great.wpList_runTo rfl (some 51) rfl (.pointer (some ⟨g, 0, none⟩)) W (by first | (go_simp; done) | rfl) ?_
  simp only [Act.put, List.setIfInBounds_toArray, List.set_cons_zero, List.set_cons_succ]
  have M0 := Lib.hid M
  clear M
  refine callStep rfl (some 52) rfl 48 #[.pointer (some ⟨g, 0, none⟩)] (by first | (go_simp; done) | rfl) (K3.out _ M0.out.at') ?_
  rintro e W ⟨rfl, hw⟩
  refine ⟨.int .i64 (b3 : Int), rfl, ?_⟩
  simp only [Act.put, List.setIfInBounds_toArray, List.set_cons_zero, List.set_cons_succ]
  have M := M0.out.wr hw
  clear hw M0
  refine Great.wpList_runTo rfl (some 4) rfl (.int .i64 (b3 : Int)) W (by first | (go_simp; done) | rfl) ?_
  simp only [Act.put, List.setIfInBounds_toArray, List.set_cons_zero, List.set_cons_succ]
  go_upto_region 10 with fail
  have c2 := M.at'.rb.cell 2; have c3 := M.at'.rb.cell 3; have c4 := M.at'.rb.cell 4
  simp only [inA, List.getElem?_toArray, List.getElem?_cons_zero, List.getElem?_cons_succ] at c2 c3 c4
  have f2 := M.at'.rb.free 2; have f3 := M.at'.rb.free 3
  go_upto_region 12 with fail
  clear c2 c3 c4 f2 f3
  apply wp_region_list
  refine Great.wpList_runTo rfl (some 63) rfl (.pointer (some ⟨g, 0, none⟩)) W (by first | (go_simp; done) | rfl) ?_
  simp only [Act.put, List.setIfInBounds_toArray, List.set_cons_zero, List.set_cons_succ]
  have M0 := Lib.hid M
  clear M
  refine callStep rfl (some 64) rfl 48 #[.pointer (some ⟨g, 0, none⟩)] (by first | (go_simp; done) | rfl) (K4.out _ M0.out.at') ?_
  rintro e W ⟨rfl, hw⟩
  refine ⟨.int .i64 (b4 : Int), rfl, ?_⟩
  simp only [Act.put, List.setIfInBounds_toArray, List.set_cons_zero, List.set_cons_succ]
  have M := M0.out.wr hw
  clear hw M0
  refine Great.wpList_runTo rfl (some 4) rfl (.int .i64 (b4 : Int)) W (by first | (go_simp; done) | rfl) ?_
  simp only [Act.put, List.setIfInBounds_toArray, List.set_cons_zero, List.set_cons_succ]
  go_upto_region 13 with fail
  apply wp_region_list
  refine Great.wpList_runTo rfl (some 65) rfl (.bool true) W (by first | (go_simp; done) | rfl) ?_
  simp only [Act.put, List.setIfInBounds_toArray, List.set_cons_zero, List.set_cons_succ]
  refine Great.wpList_runTo rfl (some 66) rfl (.int .i64 (b4 : Int)) W (by first | (go_simp; done) | rfl) ?_
  simp only [Act.put, List.setIfInBounds_toArray, List.set_cons_zero, List.set_cons_succ]
  have M0 := Lib.hid M
  clear M
  refine callStep rfl (some 67) rfl 81 #[.bool true, .int .i64 (b4 : Int)] (by first | (go_simp; done) | rfl) (CS.out _) ?_
  rintro e W ⟨rfl, hw⟩
  refine ⟨shpV ⟨zo, zf, zg, zy, zr⟩, rfl, ?_⟩
  simp only [Act.put, List.setIfInBounds_toArray, List.set_cons_zero, List.set_cons_succ]
  have M := M0.out.below hw
  clear hw M0
  have l6 : w.heap.size + 1 ≤ W.heap.size := Hd.sz1 M
  obtain ⟨W6, hW6⟩ : ∃ k, k = W.heap.size := ⟨_, rfl⟩
  refine Great.wpList_runTo rfl (some 6) rfl (.pointer (some ⟨W.heap.size, 0, none⟩)) (W.alloc (.cells #[.int .i64 0, .int .i64 0, .int .i64 0, .bool false, .int .i64 0] 55)) (by first | (go_simp; done) | rfl) ?_
  simp only [Act.put, List.setIfInBounds_toArray, List.set_cons_zero, List.set_cons_succ]
  refine wpList_store_row rfl 55 (.tmp 6) (.tmp 67) rfl (W.heap.size) (shpA ⟨zo, zf, zg, zy, zr⟩) ?_ ?_ 55 _ (heap_alloc_new W _) (by kernel_rfl) rfl (shpA_one _) ?_
  · rfl
  · rfl
  go_upto_region 14 with fail
  refine abs_world (T := fun W => Hd W0 w W g ⟨s, n + 4, b2, true, 0⟩ ∧ ZB W W6 ⟨zo, zf, zg, zy, zr⟩) (G := fun W => Code.wp _ _ _ _ W) _ (by rw [hW6]; exact ⟨(M.below (bel_alloc _ _)).row l6 (shpA ⟨zo, zf, zg, zy, zr⟩), setRow_heap _ _ _ _ _ _ (heap_alloc_new W _)⟩) ?_
  rw [← hW6]
  rw [← hW6] at l6
  clear hW6 M
  intro W ⟨M, z6⟩
  have zz := z6.cell 1
  simp only [insV, insA, shpA, List.getElem?_toArray, List.getElem?_cons_zero, List.getElem?_cons_succ] at zz
  go_upto_region 16 with fail
  clear zz
  apply wp_region_list
  refine wpList_load_row rfl 55 (.tmp 6) rfl (W6) rfl 55 (shpA ⟨zo, zf, zg, zy, zr⟩) (0, 0) _ (z6) Tryd.underlying55 rfl (by kernel_rfl) ?_
  simp only [Act.put, List.setIfInBounds_toArray, List.set_cons_zero, List.set_cons_succ]
  refine Great.wpList_runTo rfl (some 74) rfl (.int .i64 (b4 : Int)) W (by first | (go_simp; done) | rfl) ?_
  simp only [Act.put, List.setIfInBounds_toArray, List.set_cons_zero, List.set_cons_succ]
  refine wpList_store_row rfl 55 (.tmp 2) (.tmp 73) rfl (w.heap.size) (shpA ⟨zo, zf, zg, zy, zr⟩) ?_ ?_ 55 _ (M.r) (by kernel_rfl) rfl (shpA_one _) ?_
  · rfl
  · rfl
  go_wp2_with fail
  refine bodyPost_ret (v := .tuple #[.agg (shpA ⟨zo, zf, zg, zy, zr⟩), .int .i64 (b4 : Int)]) (by exact results_cell_row2 Tryd.results46 _ _ w.heap.size 55 (shpA ⟨zo, zf, zg, zy, zr⟩) (0, 0) _ rfl (setRow_heap _ _ _ _ _ _ M.r) Tryd.underlying55 rfl (by kernel_rfl)) (by rfl) ⟨rfl, M.fin _⟩
set_option maxRecDepth 100000 in
set_option maxHeartbeats 2000000 in
theorem hdWX_two0 (g n : Nat) (s : ByteArray) (W0 w : World) (h : IAt W0 w g ⟨s, n, 0, false, 0⟩)
  (b1 : Nat)
  (K1 : Hid (∀ W, IAt W0 W g ⟨s, n, 0, false, 0⟩ → Calls Tryd.prog 48 #[.pointer (some ⟨g, 0, none⟩)] W fun e w' => e = .returned (.int .i64 (b1 : Int)) ∧ IWr W0 W w' g ⟨s, n + 1, 0, false, 0⟩))
  (d1 : ((b1 : Int) == 102) = true)
  (b2 : Nat)
  (K2 : Hid (∀ W, IAt W0 W g ⟨s, n + 1, 0, true, 0⟩ → Calls Tryd.prog 48 #[.pointer (some ⟨g, 0, none⟩)] W fun e w' => e = .returned (.int .i64 (b2 : Int)) ∧ IWr W0 W w' g ⟨s, n + 2, 0, true, 0⟩))
  (d2 : ((b2 : Int) == 102) = false)
  (CP2 : Hid (∀ W, Calls Tryd.prog 80 #[.int .i64 (b2 : Int)] W fun e w' => e = .returned (.bool false) ∧ W = w'))
  (r2 : (((b2 : Int) / 16 == 4)) = true)
  (hb2 : b2 < 256)
  (hx80 : b2 < 80)
  (b3 : Nat)
  (K3 : Hid (∀ W, IAt W0 W g ⟨s, n + 2, b2, true, 0⟩ → Calls Tryd.prog 48 #[.pointer (some ⟨g, 0, none⟩)] W fun e w' => e = .returned (.int .i64 (b3 : Int)) ∧ IWr W0 W w' g ⟨s, n + 3, b2, true, 0⟩))
  (s3 : ((b3 : Int) == 15) = true)
  (b4 : Nat)
  (K4 : Hid (∀ W, IAt W0 W g ⟨s, n + 3, b2, true, 0⟩ → Calls Tryd.prog 48 #[.pointer (some ⟨g, 0, none⟩)] W fun e w' => e = .returned (.int .i64 (b4 : Int)) ∧ IWr W0 W w' g ⟨s, n + 4, b2, true, 0⟩))
  (z : Shp) (hz : (z.f == 0) = true) (CS : Hid (∀ W, Calls Tryd.prog 81 #[.bool true, .int .i64 (b4 : Int)] W fun e w' => e = .returned (shpV z) ∧ Below W.heap.size W w'))
  (K5 : Hid (∀ W, IAt W0 W g ⟨s, n + 4, b2, true, 0⟩ → Calls Tryd.prog 50 #[.pointer (some ⟨g, 0, none⟩), .int .i64 11] W fun e w' => e = .returned (.tuple #[]) ∧ IWr W0 W w' g ⟨s, n + 4, b2, true, 11⟩)) :
    Calls Tryd.prog 46 #[.pointer (some ⟨g, 0, none⟩)] w fun e w' => e = .returned (.tuple #[shpV z, .int .i64 (b4 : Int)]) ∧ IWr W0 w w' g ⟨s, n + 4, b2, true, 11⟩ := by
  have M0 := Lib.hid (Hd.new h)
  clear h
  obtain ⟨zo, zf, zg, zy, zr⟩ := z
  simp only at hz
  have nd1 : ((b1 : Int) != 102) = false := by rw [bne, d1]; rfl
  have nd2 : ((b2 : Int) != 102) = true := by rw [bne, d2]; rfl
  have hb2' : (b2 : Int) < 256 := by omega
  go_enter Tryd.func46, Tryd.ntmps46
  go_upto_region 1 with fail
  refine abs_world (T := fun W => Hd W0 w W g ⟨s, n, 0, false, 0⟩) (G := fun W => Code.wp _ _ _ _ W) _ (M0.out) ?_
  clear M0
  intro W M
  apply wp_region_list
  refine Great.wpList_runTo rfl (some 7) rfl (.pointer (some ⟨g, 0, none⟩)) W (by first | (go_simp; done) | rfl) ?_
  simp only [Act.put, List.setIfInBounds_toArray, List.set_cons_zero, List.set_cons_succ]
  have M0 := Lib.hid M
  clear M
  refine callStep rfl (some 8) rfl 48 #[.pointer (some ⟨g, 0, none⟩)] (by first | (go_simp; done) | rfl) (K1.out _ M0.out.at') ?_
  rintro e W ⟨rfl, hw⟩
  refine ⟨.int .i64 (b1 : Int), rfl, ?_⟩
  simp only [Act.put, List.setIfInBounds_toArray, List.set_cons_zero, List.set_cons_succ]
  have M := M0.out.wr hw
  clear hw M0
  refine Great.wpList_runTo rfl (some 4) rfl (.int .i64 (b1 : Int)) W (by first | (go_simp; done) | rfl) ?_
  simp only [Act.put, List.setIfInBounds_toArray, List.set_cons_zero, List.set_cons_succ]
  go_wp2_with fail
  refine wp_loop_rounds 2 ?_
  rw [rounds_succ]
  have c2 := M.at'.rb.cell 2; have c3 := M.at'.rb.cell 3; have c4 := M.at'.rb.cell 4
  simp only [inA, List.getElem?_toArray, List.getElem?_cons_zero, List.getElem?_cons_succ] at c2 c3 c4
  have f2 := M.at'.rb.free 2; have f3 := M.at'.rb.free 3
  go_upto_region 5 with fail
  go_upto_region 6 with fail
  clear c2 c3 c4 f2 f3
  refine abs_world (T := fun W => Hd W0 w W g ⟨s, n + 1, 0, true, 0⟩) (G := fun W => Code.wp _ _ _ _ W) _ (M.setw) ?_
  clear M
  intro W M
  apply wp_region_list
  refine Great.wpList_runTo rfl (some 35) rfl (.pointer (some ⟨g, 0, none⟩)) W (by first | (go_simp; done) | rfl) ?_
  simp only [Act.put, List.setIfInBounds_toArray, List.set_cons_zero, List.set_cons_succ]
  have M0 := Lib.hid M
  clear M
  refine callStep rfl (some 36) rfl 48 #[.pointer (some ⟨g, 0, none⟩)] (by first | (go_simp; done) | rfl) (K2.out _ M0.out.at') ?_
  rintro e W ⟨rfl, hw⟩
  refine ⟨.int .i64 (b2 : Int), rfl, ?_⟩
  simp only [Act.put, List.setIfInBounds_toArray, List.set_cons_zero, List.set_cons_succ]
  have M := M0.out.wr hw
  clear hw M0
  refine Great.wpList_runTo rfl (some 4) rfl (.int .i64 (b2 : Int)) W (by first | (go_simp; done) | rfl) ?_
  simp only [Act.put, List.setIfInBounds_toArray, List.set_cons_zero, List.set_cons_succ]
  go_wp2_with fail
  rw [rounds_succ]
  have c2 := M.at'.rb.cell 2; have c3 := M.at'.rb.cell 3; have c4 := M.at'.rb.cell 4
  simp only [inA, List.getElem?_toArray, List.getElem?_cons_zero, List.getElem?_cons_succ] at c2 c3 c4
  have f2 := M.at'.rb.free 2; have f3 := M.at'.rb.free 3
  go_upto_region 7 with (go_at_call 80; refine (CP2.out _).mono ?_; rintro e w9 ⟨rfl, rfl⟩)
  go_upto_region 8 with fail
  go_upto_region 9 with fail
  clear c2 c3 c4 f2 f3
  refine abs_world (T := fun W => Hd W0 w W g ⟨s, n + 2, b2, true, 0⟩) (G := fun W => Code.wp _ _ _ _ W) _ (M.setx hx80) ?_
  clear M
  intro W M
  apply wp_region_list
  refine Great.wpList_runTo rfl (some 51) rfl (.pointer (some ⟨g, 0, none⟩)) W (by first | (go_simp; done) | rfl) ?_
  simp only [Act.put, List.setIfInBounds_toArray, List.set_cons_zero, List.set_cons_succ]
  have M0 := Lib.hid M
  clear M
  refine callStep rfl (some 52) rfl 48 #[.pointer (some ⟨g, 0, none⟩)] (by first | (go_simp; done) | rfl) (K3.out _ M0.out.at') ?_
  rintro e W ⟨rfl, hw⟩
  refine ⟨.int .i64 (b3 : Int), rfl, ?_⟩
  simp only [Act.put, List.setIfInBounds_toArray, List.set_cons_zero, List.set_cons_succ]
  have M := M0.out.wr hw
  clear hw M0
  refine Great.wpList_runTo rfl (some 4) rfl (.int .i64 (b3 : Int)) W (by first | (go_simp; done) | rfl) ?_
  simp only [Act.put, List.setIfInBounds_toArray, List.set_cons_zero, List.set_cons_succ]
  go_upto_region 10 with fail
  have c2 := M.at'.rb.cell 2; have c3 := M.at'.rb.cell 3; have c4 := M.at'.rb.cell 4
  simp only [inA, List.getElem?_toArray, List.getElem?_cons_zero, List.getElem?_cons_succ] at c2 c3 c4
  have f2 := M.at'.rb.free 2; have f3 := M.at'.rb.free 3
  go_upto_region 12 with fail
  clear c2 c3 c4 f2 f3
  apply wp_region_list
  refine Great.wpList_runTo rfl (some 63) rfl (.pointer (some ⟨g, 0, none⟩)) W (by first | (go_simp; done) | rfl) ?_
  simp only [Act.put, List.setIfInBounds_toArray, List.set_cons_zero, List.set_cons_succ]
  have M0 := Lib.hid M
  clear M
  refine callStep rfl (some 64) rfl 48 #[.pointer (some ⟨g, 0, none⟩)] (by first | (go_simp; done) | rfl) (K4.out _ M0.out.at') ?_
  rintro e W ⟨rfl, hw⟩
  refine ⟨.int .i64 (b4 : Int), rfl, ?_⟩
  simp only [Act.put, List.setIfInBounds_toArray, List.set_cons_zero, List.set_cons_succ]
  have M := M0.out.wr hw
  clear hw M0
  refine Great.wpList_runTo rfl (some 4) rfl (.int .i64 (b4 : Int)) W (by first | (go_simp; done) | rfl) ?_
  simp only [Act.put, List.setIfInBounds_toArray, List.set_cons_zero, List.set_cons_succ]
  go_upto_region 13 with fail
  apply wp_region_list
  refine Great.wpList_runTo rfl (some 65) rfl (.bool true) W (by first | (go_simp; done) | rfl) ?_
  simp only [Act.put, List.setIfInBounds_toArray, List.set_cons_zero, List.set_cons_succ]
  refine Great.wpList_runTo rfl (some 66) rfl (.int .i64 (b4 : Int)) W (by first | (go_simp; done) | rfl) ?_
  simp only [Act.put, List.setIfInBounds_toArray, List.set_cons_zero, List.set_cons_succ]
  have M0 := Lib.hid M
  clear M
  refine callStep rfl (some 67) rfl 81 #[.bool true, .int .i64 (b4 : Int)] (by first | (go_simp; done) | rfl) (CS.out _) ?_
  rintro e W ⟨rfl, hw⟩
  refine ⟨shpV ⟨zo, zf, zg, zy, zr⟩, rfl, ?_⟩
  simp only [Act.put, List.setIfInBounds_toArray, List.set_cons_zero, List.set_cons_succ]
  have M := M0.out.below hw
  clear hw M0
  have l6 : w.heap.size + 1 ≤ W.heap.size := Hd.sz1 M
  obtain ⟨W6, hW6⟩ : ∃ k, k = W.heap.size := ⟨_, rfl⟩
  refine Great.wpList_runTo rfl (some 6) rfl (.pointer (some ⟨W.heap.size, 0, none⟩)) (W.alloc (.cells #[.int .i64 0, .int .i64 0, .int .i64 0, .bool false, .int .i64 0] 55)) (by first | (go_simp; done) | rfl) ?_
  simp only [Act.put, List.setIfInBounds_toArray, List.set_cons_zero, List.set_cons_succ]
  refine wpList_store_row rfl 55 (.tmp 6) (.tmp 67) rfl (W.heap.size) (shpA ⟨zo, zf, zg, zy, zr⟩) ?_ ?_ 55 _ (heap_alloc_new W _) (by kernel_rfl) rfl (shpA_one _) ?_
  · rfl
  · rfl
  go_upto_region 14 with fail
  refine abs_world (T := fun W => Hd W0 w W g ⟨s, n + 4, b2, true, 0⟩ ∧ ZB W W6 ⟨zo, zf, zg, zy, zr⟩) (G := fun W => Code.wp _ _ _ _ W) _ (by rw [hW6]; exact ⟨(M.below (bel_alloc _ _)).row l6 (shpA ⟨zo, zf, zg, zy, zr⟩), setRow_heap _ _ _ _ _ _ (heap_alloc_new W _)⟩) ?_
  rw [← hW6]
  rw [← hW6] at l6
  clear hW6 M
  intro W ⟨M, z6⟩
  have zz := z6.cell 1
  simp only [insV, insA, shpA, List.getElem?_toArray, List.getElem?_cons_zero, List.getElem?_cons_succ] at zz
  go_upto_region 15 with fail
  clear zz
  have z60 := Lib.hid z6
  clear z6
  apply wp_region_list
  refine Great.wpList_runTo rfl (some 71) rfl (.pointer (some ⟨g, 0, none⟩)) W (by first | (go_simp; done) | rfl) ?_
  simp only [Act.put, List.setIfInBounds_toArray, List.set_cons_zero, List.set_cons_succ]
  have M0 := Lib.hid M
  clear M
  refine callStep rfl (some 72) rfl 50 #[.pointer (some ⟨g, 0, none⟩), .int .i64 11] (by first | (go_simp; done) | rfl) (K5.out _ M0.out.at') ?_
  rintro e W ⟨rfl, hw⟩
  refine ⟨.tuple #[], rfl, ?_⟩
  simp only [Act.put, List.setIfInBounds_toArray, List.set_cons_zero, List.set_cons_succ]
  have M := M0.out.wr hw; have z6 : ZB W W6 ⟨zo, zf, zg, zy, zr⟩ := (hw.2.block _ (lt_of_blk z60.out) (fun e => by have := M0.out.ne; have := Option.some.inj e; omega)).trans z60.out
  clear hw M0
  clear z60
  go_upto_region 16 with fail
  apply wp_region_list
  refine wpList_load_row rfl 55 (.tmp 6) rfl (W6) rfl 55 (shpA ⟨zo, zf, zg, zy, zr⟩) (0, 0) _ (z6) Tryd.underlying55 rfl (by kernel_rfl) ?_
  simp only [Act.put, List.setIfInBounds_toArray, List.set_cons_zero, List.set_cons_succ]
  refine Great.wpList_runTo rfl (some 74) rfl (.int .i64 (b4 : Int)) W (by first | (go_simp; done) | rfl) ?_
  simp only [Act.put, List.setIfInBounds_toArray, List.set_cons_zero, List.set_cons_succ]
  refine wpList_store_row rfl 55 (.tmp 2) (.tmp 73) rfl (w.heap.size) (shpA ⟨zo, zf, zg, zy, zr⟩) ?_ ?_ 55 _ (M.r) (by kernel_rfl) rfl (shpA_one _) ?_
  · rfl
  · rfl
  go_wp2_with fail
  refine bodyPost_ret (v := .tuple #[.agg (shpA ⟨zo, zf, zg, zy, zr⟩), .int .i64 (b4 : Int)]) (by exact results_cell_row2 Tryd.results46 _ _ w.heap.size 55 (shpA ⟨zo, zf, zg, zy, zr⟩) (0, 0) _ rfl (setRow_heap _ _ _ _ _ _ M.r) Tryd.underlying55 rfl (by kernel_rfl)) (by rfl) ⟨rfl, M.fin _⟩
set_option maxRecDepth 100000 in
set_option maxHeartbeats 2000000 in
theorem hdWX_twoend (g n : Nat) (s : ByteArray) (W0 w : World) (h : IAt W0 w g ⟨s, n, 0, false, 0⟩)
  (b1 : Nat)
  (K1 : Hid (∀ W, IAt W0 W g ⟨s, n, 0, false, 0⟩ → Calls Tryd.prog 48 #[.pointer (some ⟨g, 0, none⟩)] W fun e w' => e = .returned (.int .i64 (b1 : Int)) ∧ IWr W0 W w' g ⟨s, n + 1, 0, false, 0⟩))
  (d1 : ((b1 : Int) == 102) = true)
  (b2 : Nat)
  (K2 : Hid (∀ W, IAt W0 W g ⟨s, n + 1, 0, true, 0⟩ → Calls Tryd.prog 48 #[.pointer (some ⟨g, 0, none⟩)] W fun e w' => e = .returned (.int .i64 (b2 : Int)) ∧ IWr W0 W w' g ⟨s, n + 2, 0, true, 0⟩))
  (d2 : ((b2 : Int) == 102) = false)
  (CP2 : Hid (∀ W, Calls Tryd.prog 80 #[.int .i64 (b2 : Int)] W fun e w' => e = .returned (.bool false) ∧ W = w'))
  (r2 : (((b2 : Int) / 16 == 4)) = true)
  (hb2 : b2 < 256)
  (hx80 : b2 < 80)
  (b3 : Nat)
  (K3 : Hid (∀ W, IAt W0 W g ⟨s, n + 2, b2, true, 0⟩ → Calls Tryd.prog 48 #[.pointer (some ⟨g, 0, none⟩)] W fun e w' => e = .returned (.int .i64 (b3 : Int)) ∧ IWr W0 W w' g ⟨s, n + 3, b2, true, 0⟩))
  (s3 : ((b3 : Int) == 15) = true)
  (K4 : Hid (∀ W, IAt W0 W g ⟨s, n + 3, b2, true, 0⟩ → Calls Tryd.prog 48 #[.pointer (some ⟨g, 0, none⟩)] W fun e w' => e = .returned (.int .i64 0) ∧ IWr W0 W w' g ⟨s, n + 3, b2, true, 9⟩))
  (z : Shp) (hz : (z.f == 0) = true) (CS : Hid (∀ W, Calls Tryd.prog 81 #[.bool true, .int .i64 0] W fun e w' => e = .returned (shpV z) ∧ Below W.heap.size W w'))
  (K5 : Hid (∀ W, IAt W0 W g ⟨s, n + 3, b2, true, 9⟩ → Calls Tryd.prog 50 #[.pointer (some ⟨g, 0, none⟩), .int .i64 11] W fun e w' => e = .returned (.tuple #[]) ∧ IWr W0 W w' g ⟨s, n + 3, b2, true, 9⟩)) :
    Calls Tryd.prog 46 #[.pointer (some ⟨g, 0, none⟩)] w fun e w' => e = .returned (.tuple #[shpV z, .int .i64 0]) ∧ IWr W0 w w' g ⟨s, n + 3, b2, true, 9⟩ := by
  have M0 := Lib.hid (Hd.new h)
  clear h
  obtain ⟨zo, zf, zg, zy, zr⟩ := z
  simp only at hz
  have nd1 : ((b1 : Int) != 102) = false := by rw [bne, d1]; rfl
  have nd2 : ((b2 : Int) != 102) = true := by rw [bne, d2]; rfl
  have hb2' : (b2 : Int) < 256 := by omega
  go_enter Tryd.func46, Tryd.ntmps46
  go_upto_region 1 with fail
  refine abs_world (T := fun W => Hd W0 w W g ⟨s, n, 0, false, 0⟩) (G := fun W => Code.wp _ _ _ _ W) _ (M0.out) ?_
  clear M0
  intro W M
  apply wp_region_list
  refine Great.wpList_runTo rfl (some 7) rfl (.pointer (some ⟨g, 0, none⟩)) W (by first | (go_simp; done) | rfl) ?_
  simp only [Act.put, List.setIfInBounds_toArray, List.set_cons_zero, List.set_cons_succ]
  have M0 := Lib.hid M
  clear M
  refine callStep rfl (some 8) rfl 48 #[.pointer (some ⟨g, 0, none⟩)] (by first | (go_simp; done) | rfl) (K1.out _ M0.out.at') ?_
  rintro e W ⟨rfl, hw⟩
  refine ⟨.int .i64 (b1 : Int), rfl, ?_⟩
  simp only [Act.put, List.setIfInBounds_toArray, List.set_cons_zero, List.set_cons_succ]
  have M := M0.out.wr hw
  clear hw M0
  refine Great.wpList_runTo rfl (some 4) rfl (.int .i64 (b1 : Int)) W (by first | (go_simp; done) | rfl) ?_
  simp only [Act.put, List.setIfInBounds_toArray, List.set_cons_zero, List.set_cons_succ]
  go_wp2_with fail
  refine wp_loop_rounds 2 ?_
  rw [rounds_succ]
  have c2 := M.at'.rb.cell 2; have c3 := M.at'.rb.cell 3; have c4 := M.at'.rb.cell 4
  simp only [inA, List.getElem?_toArray, List.getElem?_cons_zero, List.getElem?_cons_succ] at c2 c3 c4
  have f2 := M.at'.rb.free 2; have f3 := M.at'.rb.free 3
  go_upto_region 5 with fail
  go_upto_region 6 with fail
  clear c2 c3 c4 f2 f3
  refine abs_world (T := fun W => Hd W0 w W g ⟨s, n + 1, 0, true, 0⟩) (G := fun W => Code.wp _ _ _ _ W) _ (M.setw) ?_
  clear M
  intro W M
  apply wp_region_list
  refine Great.wpList_runTo rfl (some 35) rfl (.pointer (some ⟨g, 0, none⟩)) W (by first | (go_simp; done) | rfl) ?_
  simp only [Act.put, List.setIfInBounds_toArray, List.set_cons_zero, List.set_cons_succ]
  have M0 := Lib.hid M
  clear M
  refine callStep rfl (some 36) rfl 48 #[.pointer (some ⟨g, 0, none⟩)] (by first | (go_simp; done) | rfl) (K2.out _ M0.out.at') ?_
  rintro e W ⟨rfl, hw⟩
  refine ⟨.int .i64 (b2 : Int), rfl, ?_⟩
  simp only [Act.put, List.setIfInBounds_toArray, List.set_cons_zero, List.set_cons_succ]
  have M := M0.out.wr hw
  clear hw M0
  refine Great.wpList_runTo rfl (some 4) rfl (.int .i64 (b2 : Int)) W (by first | (go_simp; done) | rfl) ?_
  simp only [Act.put, List.setIfInBounds_toArray, List.set_cons_zero, List.set_cons_succ]
  go_wp2_with fail
  rw [rounds_succ]
  have c2 := M.at'.rb.cell 2; have c3 := M.at'.rb.cell 3; have c4 := M.at'.rb.cell 4
  simp only [inA, List.getElem?_toArray, List.getElem?_cons_zero, List.getElem?_cons_succ] at c2 c3 c4
  have f2 := M.at'.rb.free 2; have f3 := M.at'.rb.free 3
  go_upto_region 7 with (go_at_call 80; refine (CP2.out _).mono ?_; rintro e w9 ⟨rfl, rfl⟩)
  go_upto_region 8 with fail
  go_upto_region 9 with fail
  clear c2 c3 c4 f2 f3
  refine abs_world (T := fun W => Hd W0 w W g ⟨s, n + 2, b2, true, 0⟩) (G := fun W => Code.wp _ _ _ _ W) _ (M.setx hx80) ?_
  clear M
  intro W M
  apply wp_region_list
  refine Great.wpList_runTo rfl (some 51) rfl (.pointer (some ⟨g, 0, none⟩)) W (by first | (go_simp; done) | rfl) ?_
  simp only [Act.put, List.setIfInBounds_toArray, List.set_cons_zero, List.set_cons_succ]
  have M0 := Lib.hid M
  clear M
  refine callStep rfl (some 52) rfl 48 #[.pointer (some ⟨g, 0, none⟩)] (by first | (go_simp; done) | rfl) (K3.out _ M0.out.at') ?_
  rintro e W ⟨rfl, hw⟩
  refine ⟨.int .i64 (b3 : Int), rfl, ?_⟩
  simp only [Act.put, List.setIfInBounds_toArray, List.set_cons_zero, List.set_cons_succ]
  have M := M0.out.wr hw
  clear hw M0
  refine Great.wpList_runTo rfl (some 4) rfl (.int .i64 (b3 : Int)) W (by first | (go_simp; done) | rfl) ?_
  simp only [Act.put, List.setIfInBounds_toArray, List.set_cons_zero, List.set_cons_succ]
  go_upto_region 10 with fail
  have c2 := M.at'.rb.cell 2; have c3 := M.at'.rb.cell 3; have c4 := M.at'.rb.cell 4
  simp only [inA, List.getElem?_toArray, List.getElem?_cons_zero, List.getElem?_cons_succ] at c2 c3 c4
  have f2 := M.at'.rb.free 2; have f3 := M.at'.rb.free 3
  go_upto_region 12 with fail
  clear c2 c3 c4 f2 f3
  apply wp_region_list
  refine Great.wpList_runTo rfl (some 63) rfl (.pointer (some ⟨g, 0, none⟩)) W (by first | (go_simp; done) | rfl) ?_
  simp only [Act.put, List.setIfInBounds_toArray, List.set_cons_zero, List.set_cons_succ]
  have M0 := Lib.hid M
  clear M
  refine callStep rfl (some 64) rfl 48 #[.pointer (some ⟨g, 0, none⟩)] (by first | (go_simp; done) | rfl) (K4.out _ M0.out.at') ?_
  rintro e W ⟨rfl, hw⟩
  refine ⟨.int .i64 0, rfl, ?_⟩
  simp only [Act.put, List.setIfInBounds_toArray, List.set_cons_zero, List.set_cons_succ]
  have M := M0.out.wr hw
  clear hw M0
  refine Great.wpList_runTo rfl (some 4) rfl (.int .i64 0) W (by first | (go_simp; done) | rfl) ?_
  simp only [Act.put, List.setIfInBounds_toArray, List.set_cons_zero, List.set_cons_succ]
  go_upto_region 13 with fail
  apply wp_region_list
  refine Great.wpList_runTo rfl (some 65) rfl (.bool true) W (by first | (go_simp; done) | rfl) ?_
  simp only [Act.put, List.setIfInBounds_toArray, List.set_cons_zero, List.set_cons_succ]
  refine Great.wpList_runTo rfl (some 66) rfl (.int .i64 0) W (by first | (go_simp; done) | rfl) ?_
  simp only [Act.put, List.setIfInBounds_toArray, List.set_cons_zero, List.set_cons_succ]
  have M0 := Lib.hid M
  clear M
  refine callStep rfl (some 67) rfl 81 #[.bool true, .int .i64 0] (by first | (go_simp; done) | rfl) (CS.out _) ?_
  rintro e W ⟨rfl, hw⟩
  refine ⟨shpV ⟨zo, zf, zg, zy, zr⟩, rfl, ?_⟩
  simp only [Act.put, List.setIfInBounds_toArray, List.set_cons_zero, List.set_cons_succ]
  have M := M0.out.below hw
  clear hw M0
  have l6 : w.heap.size + 1 ≤ W.heap.size := Hd.sz1 M
  obtain ⟨W6, hW6⟩ : ∃ k, k = W.heap.size := ⟨_, rfl⟩
  refine Great.wpList_runTo rfl (some 6) rfl (.pointer (some ⟨W.heap.size, 0, none⟩)) (W.alloc (.cells #[.int .i64 0, .int .i64 0, .int .i64 0, .bool false, .int .i64 0] 55)) (by first | (go_simp; done) | rfl) ?_
  simp only [Act.put, List.setIfInBounds_toArray, List.set_cons_zero, List.set_cons_succ]
  refine wpList_store_row rfl 55 (.tmp 6) (.tmp 67) rfl (W.heap.size) (shpA ⟨zo, zf, zg, zy, zr⟩) ?_ ?_ 55 _ (heap_alloc_new W _) (by kernel_rfl) rfl (shpA_one _) ?_
  · rfl
  · rfl
  go_upto_region 14 with fail
  refine abs_world (T := fun W => Hd W0 w W g ⟨s, n + 3, b2, true, 9⟩ ∧ ZB W W6 ⟨zo, zf, zg, zy, zr⟩) (G := fun W => Code.wp _ _ _ _ W) _ (by rw [hW6]; exact ⟨(M.below (bel_alloc _ _)).row l6 (shpA ⟨zo, zf, zg, zy, zr⟩), setRow_heap _ _ _ _ _ _ (heap_alloc_new W _)⟩) ?_
  rw [← hW6]
  rw [← hW6] at l6
  clear hW6 M
  intro W ⟨M, z6⟩
  have zz := z6.cell 1
  simp only [insV, insA, shpA, List.getElem?_toArray, List.getElem?_cons_zero, List.getElem?_cons_succ] at zz
  go_upto_region 15 with fail
  clear zz
  have z60 := Lib.hid z6
  clear z6
  apply wp_region_list
  refine Great.wpList_runTo rfl (some 71) rfl (.pointer (some ⟨g, 0, none⟩)) W (by first | (go_simp; done) | rfl) ?_
  simp only [Act.put, List.setIfInBounds_toArray, List.set_cons_zero, List.set_cons_succ]
  have M0 := Lib.hid M
  clear M
  refine callStep rfl (some 72) rfl 50 #[.pointer (some ⟨g, 0, none⟩), .int .i64 11] (by first | (go_simp; done) | rfl) (K5.out _ M0.out.at') ?_
  rintro e W ⟨rfl, hw⟩
  refine ⟨.tuple #[], rfl, ?_⟩
  simp only [Act.put, List.setIfInBounds_toArray, List.set_cons_zero, List.set_cons_succ]
  have M := M0.out.wr hw; have z6 : ZB W W6 ⟨zo, zf, zg, zy, zr⟩ := (hw.2.block _ (lt_of_blk z60.out) (fun e => by have := M0.out.ne; have := Option.some.inj e; omega)).trans z60.out
  clear hw M0
  clear z60
  go_upto_region 16 with fail
  apply wp_region_list
  refine wpList_load_row rfl 55 (.tmp 6) rfl (W6) rfl 55 (shpA ⟨zo, zf, zg, zy, zr⟩) (0, 0) _ (z6) Tryd.underlying55 rfl (by kernel_rfl) ?_
  simp only [Act.put, List.setIfInBounds_toArray, List.set_cons_zero, List.set_cons_succ]
  refine Great.wpList_runTo rfl (some 74) rfl (.int .i64 0) W (by first | (go_simp; done) | rfl) ?_
  simp only [Act.put, List.setIfInBounds_toArray, List.set_cons_zero, List.set_cons_succ]
  refine wpList_store_row rfl 55 (.tmp 2) (.tmp 73) rfl (w.heap.size) (shpA ⟨zo, zf, zg, zy, zr⟩) ?_ ?_ 55 _ (M.r) (by kernel_rfl) rfl (shpA_one _) ?_
  · rfl
  · rfl
  go_wp2_with fail
  refine bodyPost_ret (v := .tuple #[.agg (shpA ⟨zo, zf, zg, zy, zr⟩), .int .i64 0]) (by exact results_cell_row2 Tryd.results46 _ _ w.heap.size 55 (shpA ⟨zo, zf, zg, zy, zr⟩) (0, 0) _ rfl (setRow_heap _ _ _ _ _ _ M.r) Tryd.underlying55 rfl (by kernel_rfl)) (by rfl) ⟨rfl, M.fin _⟩
set_option maxRecDepth 100000 in
set_option maxHeartbeats 2000000 in
theorem hdWX_end (g n : Nat) (s : ByteArray) (W0 w : World) (h : IAt W0 w g ⟨s, n, 0, false, 0⟩)
  (b1 : Nat)
  (K1 : Hid (∀ W, IAt W0 W g ⟨s, n, 0, false, 0⟩ → Calls Tryd.prog 48 #[.pointer (some ⟨g, 0, none⟩)] W fun e w' => e = .returned (.int .i64 (b1 : Int)) ∧ IWr W0 W w' g ⟨s, n + 1, 0, false, 0⟩))
  (d1 : ((b1 : Int) == 102) = true)
  (b2 : Nat)
  (K2 : Hid (∀ W, IAt W0 W g ⟨s, n + 1, 0, true, 0⟩ → Calls Tryd.prog 48 #[.pointer (some ⟨g, 0, none⟩)] W fun e w' => e = .returned (.int .i64 (b2 : Int)) ∧ IWr W0 W w' g ⟨s, n + 2, 0, true, 0⟩))
  (d2 : ((b2 : Int) == 102) = false)
  (CP2 : Hid (∀ W, Calls Tryd.prog 80 #[.int .i64 (b2 : Int)] W fun e w' => e = .returned (.bool false) ∧ W = w'))
  (r2 : (((b2 : Int) / 16 == 4)) = true)
  (hb2 : b2 < 256)
  (hx80 : b2 < 80)
  (K3 : Hid (∀ W, IAt W0 W g ⟨s, n + 2, b2, true, 0⟩ → Calls Tryd.prog 48 #[.pointer (some ⟨g, 0, none⟩)] W fun e w' => e = .returned (.int .i64 0) ∧ IWr W0 W w' g ⟨s, n + 2, b2, true, 9⟩))
  (z : Shp) (hz : (z.f == 0) = false) (CS : Hid (∀ W, Calls Tryd.prog 81 #[.bool false, .int .i64 0] W fun e w' => e = .returned (shpV z) ∧ Below W.heap.size W w')) :
    Calls Tryd.prog 46 #[.pointer (some ⟨g, 0, none⟩)] w fun e w' => e = .returned (.tuple #[shpV z, .int .i64 0]) ∧ IWr W0 w w' g ⟨s, n + 2, b2, true, 9⟩ := by
  have M0 := Lib.hid (Hd.new h)
  clear h
  obtain ⟨zo, zf, zg, zy, zr⟩ := z
  simp only at hz
  have nd1 : ((b1 : Int) != 102) = false := by rw [bne, d1]; rfl
  have nd2 : ((b2 : Int) != 102) = true := by rw [bne, d2]; rfl
  have hb2' : (b2 : Int) < 256 := by omega
  go_enter Tryd.func46, Tryd.ntmps46
  go_upto_region 1 with fail
  refine abs_world (T := fun W => Hd W0 w W g ⟨s, n, 0, false, 0⟩) (G := fun W => Code.wp _ _ _ _ W) _ (M0.out) ?_
  clear M0
  intro W M
  apply wp_region_list
  refine Great.wpList_runTo rfl (some 7) rfl (.pointer (some ⟨g, 0, none⟩)) W (by first | (go_simp; done) | rfl) ?_
  simp only [Act.put, List.setIfInBounds_toArray, List.set_cons_zero, List.set_cons_succ]
  have M0 := Lib.hid M
  clear M
  refine callStep rfl (some 8) rfl 48 #[.pointer (some ⟨g, 0, none⟩)] (by first | (go_simp; done) | rfl) (K1.out _ M0.out.at') ?_
  rintro e W ⟨rfl, hw⟩
  refine ⟨.int .i64 (b1 : Int), rfl, ?_⟩
  simp only [Act.put, List.setIfInBounds_toArray, List.set_cons_zero, List.set_cons_succ]
  have M := M0.out.wr hw
  clear hw M0
  refine Great.wpList_runTo rfl (some 4) rfl (.int .i64 (b1 : Int)) W (by first | (go_simp; done) | rfl) ?_
  simp only [Act.put, List.setIfInBounds_toArray, List.set_cons_zero, List.set_cons_succ]
  go_wp2_with fail
  refine wp_loop_rounds 2 ?_
  rw [rounds_succ]
  have c2 := M.at'.rb.cell 2; have c3 := M.at'.rb.cell 3; have c4 := M.at'.rb.cell 4
  simp only [inA, List.getElem?_toArray, List.getElem?_cons_zero, List.getElem?_cons_succ] at c2 c3 c4
  have f2 := M.at'.rb.free 2; have f3 := M.at'.rb.free 3
  go_upto_region 5 with fail
  go_upto_region 6 with fail
  clear c2 c3 c4 f2 f3
  refine abs_world (T := fun W => Hd W0 w W g ⟨s, n + 1, 0, true, 0⟩) (G := fun W => Code.wp _ _ _ _ W) _ (M.setw) ?_
  clear M
  intro W M
  apply wp_region_list
  refine Great.wpList_runTo rfl (some 35) rfl (.pointer (some ⟨g, 0, none⟩)) W (by first | (go_simp; done) | rfl) ?_
  simp only [Act.put, List.setIfInBounds_toArray, List.set_cons_zero, List.set_cons_succ]
  have M0 := Lib.hid M
  clear M
  refine callStep rfl (some 36) rfl 48 #[.pointer (some ⟨g, 0, none⟩)] (by first | (go_simp; done) | rfl) (K2.out _ M0.out.at') ?_
  rintro e W ⟨rfl, hw⟩
  refine ⟨.int .i64 (b2 : Int), rfl, ?_⟩
  simp only [Act.put, List.setIfInBounds_toArray, List.set_cons_zero, List.set_cons_succ]
  have M := M0.out.wr hw
  clear hw M0
  refine Great.wpList_runTo rfl (some 4) rfl (.int .i64 (b2 : Int)) W (by first | (go_simp; done) | rfl) ?_
  simp only [Act.put, List.setIfInBounds_toArray, List.set_cons_zero, List.set_cons_succ]
  go_wp2_with fail
  rw [rounds_succ]
  have c2 := M.at'.rb.cell 2; have c3 := M.at'.rb.cell 3; have c4 := M.at'.rb.cell 4
  simp only [inA, List.getElem?_toArray, List.getElem?_cons_zero, List.getElem?_cons_succ] at c2 c3 c4
  have f2 := M.at'.rb.free 2; have f3 := M.at'.rb.free 3
  go_upto_region 7 with (go_at_call 80; refine (CP2.out _).mono ?_; rintro e w9 ⟨rfl, rfl⟩)
  go_upto_region 8 with fail
  go_upto_region 9 with fail
  clear c2 c3 c4 f2 f3
  refine abs_world (T := fun W => Hd W0 w W g ⟨s, n + 2, b2, true, 0⟩) (G := fun W => Code.wp _ _ _ _ W) _ (M.setx hx80) ?_
  clear M
  intro W M
  apply wp_region_list
  refine Great.wpList_runTo rfl (some 51) rfl (.pointer (some ⟨g, 0, none⟩)) W (by first | (go_simp; done) | rfl) ?_
  simp only [Act.put, List.setIfInBounds_toArray, List.set_cons_zero, List.set_cons_succ]
  have M0 := Lib.hid M
  clear M
  refine callStep rfl (some 52) rfl 48 #[.pointer (some ⟨g, 0, none⟩)] (by first | (go_simp; done) | rfl) (K3.out _ M0.out.at') ?_
  rintro e W ⟨rfl, hw⟩
  refine ⟨.int .i64 0, rfl, ?_⟩
  simp only [Act.put, List.setIfInBounds_toArray, List.set_cons_zero, List.set_cons_succ]
  have M := M0.out.wr hw
  clear hw M0
  refine Great.wpList_runTo rfl (some 4) rfl (.int .i64 0) W (by first | (go_simp; done) | rfl) ?_
  simp only [Act.put, List.setIfInBounds_toArray, List.set_cons_zero, List.set_cons_succ]
  go_upto_region 10 with fail
  have c2 := M.at'.rb.cell 2; have c3 := M.at'.rb.cell 3; have c4 := M.at'.rb.cell 4
  simp only [inA, List.getElem?_toArray, List.getElem?_cons_zero, List.getElem?_cons_succ] at c2 c3 c4
  have f2 := M.at'.rb.free 2; have f3 := M.at'.rb.free 3
  go_upto_region 13 with fail
  clear c2 c3 c4 f2 f3
  apply wp_region_list
  refine Great.wpList_runTo rfl (some 65) rfl (.bool false) W (by first | (go_simp; done) | rfl) ?_
  simp only [Act.put, List.setIfInBounds_toArray, List.set_cons_zero, List.set_cons_succ]
  refine Great.wpList_runTo rfl (some 66) rfl (.int .i64 0) W (by first | (go_simp; done) | rfl) ?_
  simp only [Act.put, List.setIfInBounds_toArray, List.set_cons_zero, List.set_cons_succ]
  have M0 := Lib.hid M
  clear M
  refine callStep rfl (some 67) rfl 81 #[.bool false, .int .i64 0] (by first | (go_simp; done) | rfl) (CS.out _) ?_
  rintro e W ⟨rfl, hw⟩
  refine ⟨shpV ⟨zo, zf, zg, zy, zr⟩, rfl, ?_⟩
  simp only [Act.put, List.setIfInBounds_toArray, List.set_cons_zero, List.set_cons_succ]
  have M := M0.out.below hw
  clear hw M0
  have l6 : w.heap.size + 1 ≤ W.heap.size := Hd.sz1 M
  obtain ⟨W6, hW6⟩ : ∃ k, k = W.heap.size := ⟨_, rfl⟩
  refine Great.wpList_runTo rfl (some 6) rfl (.pointer (some ⟨W.heap.size, 0, none⟩)) (W.alloc (.cells #[.int .i64 0, .int .i64 0, .int .i64 0, .bool false, .int .i64 0] 55)) (by first | (go_simp; done) | rfl) ?_
  simp only [Act.put, List.setIfInBounds_toArray, List.set_cons_zero, List.set_cons_succ]
  refine wpList_store_row rfl 55 (.tmp 6) (.tmp 67) rfl (W.heap.size) (shpA ⟨zo, zf, zg, zy, zr⟩) ?_ ?_ 55 _ (heap_alloc_new W _) (by kernel_rfl) rfl (shpA_one _) ?_
  · rfl
  · rfl
  go_upto_region 14 with fail
  refine abs_world (T := fun W => Hd W0 w W g ⟨s, n + 2, b2, true, 9⟩ ∧ ZB W W6 ⟨zo, zf, zg, zy, zr⟩) (G := fun W => Code.wp _ _ _ _ W) _ (by rw [hW6]; exact ⟨(M.below (bel_alloc _ _)).row l6 (shpA ⟨zo, zf, zg, zy, zr⟩), setRow_heap _ _ _ _ _ _ (heap_alloc_new W _)⟩) ?_
  rw [← hW6]
  rw [← hW6] at l6
  clear hW6 M
  intro W ⟨M, z6⟩
  have zz := z6.cell 1
  simp only [insV, insA, shpA, List.getElem?_toArray, List.getElem?_cons_zero, List.getElem?_cons_succ] at zz
  go_upto_region 16 with fail
  clear zz
  apply wp_region_list
  refine wpList_load_row rfl 55 (.tmp 6) rfl (W6) rfl 55 (shpA ⟨zo, zf, zg, zy, zr⟩) (0, 0) _ (z6) Tryd.underlying55 rfl (by kernel_rfl) ?_
  simp only [Act.put, List.setIfInBounds_toArray, List.set_cons_zero, List.set_cons_succ]
  refine Great.wpList_runTo rfl (some 74) rfl (.int .i64 0) W (by first | (go_simp; done) | rfl) ?_
  simp only [Act.put, List.setIfInBounds_toArray, List.set_cons_zero, List.set_cons_succ]
  refine wpList_store_row rfl 55 (.tmp 2) (.tmp 73) rfl (w.heap.size) (shpA ⟨zo, zf, zg, zy, zr⟩) ?_ ?_ 55 _ (M.r) (by kernel_rfl) rfl (shpA_one _) ?_
  · rfl
  · rfl
  go_wp2_with fail
  refine bodyPost_ret (v := .tuple #[.agg (shpA ⟨zo, zf, zg, zy, zr⟩), .int .i64 0]) (by exact results_cell_row2 Tryd.results46 _ _ w.heap.size 55 (shpA ⟨zo, zf, zg, zy, zr⟩) (0, 0) _ rfl (setRow_heap _ _ _ _ _ _ M.r) Tryd.underlying55 rfl (by kernel_rfl)) (by rfl) ⟨rfl, M.fin _⟩
end Go.Proofs.YtinjpobepcenfaaDoor
