/-
  What impl.ShapeOf and spec.ShapeOf do: the shape of a byte and a code, changing nothing that was there; condition: the program's table of the first shapes holds what its text lays there.
-/
import Derived.Test.YtinjpobepcenfaaDoorWalkShape3
import Derived.Laws.ResultCell
namespace Go.Proofs.YtinjpobepcenfaaDoor
open Go.RowKit
theorem results_cell_row2 {P : Program} {fn : Func} {p u : Tmp} {ty : TypeId} (h : fn.results = #[.cell p ty, .tmp u]) (tmps : Array Value) (w : World) (g : Nat) (t : TypeId) (cs : Array Value) (fr : Nat × Nat) (d : TypeDesc)
    (hp : tmps.getD p undef = .pointer (some ⟨g, 0, none⟩)) (hg : w.heap[g]? = some (.cells cs t fr))
    (hu : P.underlying ty = some d) (hd : (match d with | .struct _ | .array _ _ => true | _ => false) = true) (hi : (P.info? ty).map (·.size) = some cs.size) :
    (results fn tmps).run P w = .ok (.tuple #[.agg cs, tmps.getD u undef]) w := by
  rw [results_cell_tmp h, hp]
  simp [asAddr, run_loadVar_row w g t ty cs fr d hg hu hd hi]
/-- the shape of a byte in one of the two tables -/
def shapeT (s : Bool) (b : Nat) : Shp := if s then shape2 b else shape1 b
/-- the code beside a shape, and the shape that is answered -/
def shpCode (s : Shp) : Int := if s.f = 0 then 11 else 0
def shpRes (s : Shp) : Shp := if s.f = 0 then noShp else s
def ShpOut (s : Shp) (e : Ending) : Prop := e = .returned (.tuple #[shpV (shpRes s), .int .i64 (shpCode s)])
theorem shpNo {s : Shp} (h : s.f = 0) : ShpOut s (.returned (.tuple #[.agg (shpL noShp).toArray, .int .i64 11])) := by unfold ShpOut shpCode shpRes; rw [if_pos h, if_pos h]; rfl
theorem shpYes {s : Shp} (h : s.f ≠ 0) : ShpOut s (.returned (.tuple #[.agg (shpL s).toArray, .int .i64 0])) := by unfold ShpOut shpCode shpRes; rw [if_neg h, if_neg h]; rfl
set_option maxHeartbeats 1000000 in
theorem l03ShapeC (s : Bool) (b : Nat) (w : World) (hb : b < 256) : Calls Tryd.prog 81 #[.bool s, .int .i64 (b : Int)] w fun e w' => e = .returned (shpV (shapeT s b)) ∧ Below w.heap.size w w' := by
  have C1 := Lib.hid (fun w => l03FirstC b w hb)
  have C2 := Lib.hid (fun w => l03SecondC b w hb)
  have bz : Below w.heap.size w (w.alloc (.cells (shpL noShp).toArray 55)) := (Below.refl _ _).alloc (Nat.le_refl _) _
  cases s
  · go_enter Tryd.func81, Tryd.ntmps81
    go_wp2_with fail
    refine (C1.out _).mono ?_
    rintro e w1 ⟨rfl, hb1⟩
    have HB1 : Hid (Below w.heap.size w w1) := Lib.hid (bz.trans (hb1.mono bz.size))
    have HZ1 : Hid (Zs w1 w.heap.size) := Lib.hid ((hb1.block _ (by simp)).trans (heap_alloc_new w _))
    clear hb1 bz
    obtain ⟨s, hs⟩ : ∃ s, s = shape1 b := ⟨_, rfl⟩
    rw [← hs]
    have HS := Lib.hid hs
    clear hs
    go_wp2_with (refine wpList_store_row rfl 55 (.tmp 4) (.tmp 9) rfl w.heap.size (shpL s).toArray rfl rfl 55 _ HZ1.out (by kernel_rfl) rfl (shp_one _) ?_)
    refine bodyPost_ret (v := .agg (shpL s).toArray) (by exact results_cell_row Tryd.results81 _ _ w.heap.size 55 (shpL s).toArray (0, 0) _ rfl (setRow_heap _ _ _ _ _ _ HZ1.out) Tryd.underlying55 rfl (by kernel_rfl)) (by rfl) ⟨?_, below_setRow HB1.out⟩
    rw [HS.out]; rfl
  · go_enter Tryd.func81, Tryd.ntmps81
    go_wp2_with fail
    refine (C2.out _).mono ?_
    rintro e w1 ⟨rfl, hb1⟩
    have HB1 : Hid (Below w.heap.size w w1) := Lib.hid (bz.trans (hb1.mono bz.size))
    have HZ1 : Hid (Zs w1 w.heap.size) := Lib.hid ((hb1.block _ (by simp)).trans (heap_alloc_new w _))
    clear hb1 bz
    obtain ⟨s, hs⟩ : ∃ s, s = shape2 b := ⟨_, rfl⟩
    rw [← hs]
    have HS := Lib.hid hs
    clear hs
    go_wp2_with (refine wpList_store_row rfl 55 (.tmp 4) (.tmp 7) rfl w.heap.size (shpL s).toArray rfl rfl 55 _ HZ1.out (by kernel_rfl) rfl (shp_one _) ?_)
    refine bodyPost_ret (v := .agg (shpL s).toArray) (by exact results_cell_row Tryd.results81 _ _ w.heap.size 55 (shpL s).toArray (0, 0) _ rfl (setRow_heap _ _ _ _ _ _ HZ1.out) Tryd.underlying55 rfl (by kernel_rfl)) (by rfl) ⟨?_, below_setRow HB1.out⟩
    rw [HS.out]; rfl
set_option maxHeartbeats 2000000 in
theorem shapeOfI (s : Bool) (b : Nat) (w : World) (hb : b < 256) (hA : Ari w 7) : Calls Tryd.prog 93 #[.bool s, .int .i64 (b : Int)] w fun e w' => ShpOut (shapeT s b) e ∧ Below w.heap.size w w' := by
  have d1 : decide ((b : Int) < 0) = false := decide_eq_false (by omega)
  have d2 : decide (255 < (b : Int)) = false := decide_eq_false (by omega)
  have bz : Below w.heap.size w (w.alloc (.cells (shpL noShp).toArray 55)) := (Below.refl _ _).alloc (Nat.le_refl _) _
  have C1 := Lib.hid (firstShapeC b (w.alloc (.cells (shpL noShp).toArray 55)) hb (hA.below bz))
  have C2 := Lib.hid (secondShapeC (b : Int) (w.alloc (.cells (shpL noShp).toArray 55)))
  clear hA
  cases s
  · go_enter Tryd.func93, Tryd.ntmps93
    go_wp2_with fail
    refine (C1.out).mono ?_
    rintro e w1 ⟨rfl, hb1⟩
    have HB1 : Hid (Below w.heap.size w w1) := Lib.hid (bz.trans (hb1.mono bz.size))
    have HZ1 : Hid (Zs w1 w.heap.size) := Lib.hid ((hb1.block _ (by simp)).trans (heap_alloc_new w _))
    clear hb1 bz
    obtain ⟨sh, hsh⟩ : ∃ sh, sh = shape1 b := ⟨_, rfl⟩
    rw [← hsh]
    have HE : Hid (sh = shapeT false b) := Lib.hid hsh
    clear hsh
    obtain ⟨o, fo, gr, y, r⟩ := sh
    have HB2 : Hid (Below w.heap.size w (w1.alloc (.cells #[.int .i64 o, .int .i64 fo, .int .i64 gr, .bool y, .int .i64 r] 55))) := Lib.hid (HB1.out.alloc HB1.out.size _)
    have HZ2 : Hid (Zs (w1.alloc (.cells #[.int .i64 o, .int .i64 fo, .int .i64 gr, .bool y, .int .i64 r] 55)) w.heap.size) := Lib.hid ((Below.heap_alloc _ _ _ (lt_of_blockR HZ1.out)).trans HZ1.out)
    by_cases h0 : fo = 0
    · subst h0
      have HN := Lib.hid (shpNo (s := ⟨o, 0, gr, y, r⟩) rfl)
      unfold shpV
      go_wp2_with (refine wpList_store_row rfl 55 (.tmp 4) (.tmp 22) rfl w.heap.size (shpL noShp).toArray rfl rfl 55 _ HZ2.out (by kernel_rfl) rfl (shp_one _) ?_)
      refine bodyPost_ret (v := .tuple #[.agg (shpL noShp).toArray, .int .i64 11]) (by exact results_cell_row2 Tryd.results93 _ _ w.heap.size 55 (shpL noShp).toArray (0, 0) _ rfl (setRow_heap _ _ _ _ _ _ HZ2.out) Tryd.underlying55 rfl (by kernel_rfl)) (by rfl) ⟨?_, below_setRow HB2.out⟩
      rw [← HE.out]; exact HN.out
    · have h1 : (fo == 0) = false := beq_eq_false_iff_ne.mpr h0
      have HY := Lib.hid (shpYes (s := ⟨o, fo, gr, y, r⟩) h0)
      clear h0
      unfold shpV
      go_wp2_with (refine wpList_store_row rfl 55 (.tmp 4) (.tmp 23) rfl w.heap.size (shpL ⟨o, fo, gr, y, r⟩).toArray rfl rfl 55 _ HZ2.out (by kernel_rfl) rfl (shp_one _) ?_)
      refine bodyPost_ret (v := .tuple #[.agg (shpL ⟨o, fo, gr, y, r⟩).toArray, .int .i64 0]) (by exact results_cell_row2 Tryd.results93 _ _ w.heap.size 55 (shpL ⟨o, fo, gr, y, r⟩).toArray (0, 0) _ rfl (setRow_heap _ _ _ _ _ _ HZ2.out) Tryd.underlying55 rfl (by kernel_rfl)) (by rfl) ⟨?_, below_setRow HB2.out⟩
      rw [← HE.out]; exact HY.out
  · go_enter Tryd.func93, Tryd.ntmps93
    go_wp2_with fail
    refine (C2.out).mono ?_
    rintro e w1 ⟨rfl, hb1⟩
    have HB1 : Hid (Below w.heap.size w w1) := Lib.hid (bz.trans (hb1.mono bz.size))
    have HZ1 : Hid (Zs w1 w.heap.size) := Lib.hid ((hb1.block _ (by simp)).trans (heap_alloc_new w _))
    clear hb1 bz
    obtain ⟨sh, hsh⟩ : ∃ sh, sh = lookIn rows2 b := ⟨_, rfl⟩
    rw [← hsh]
    have HE : Hid (sh = shapeT true b) := Lib.hid hsh
    clear hsh
    obtain ⟨o, fo, gr, y, r⟩ := sh
    have HB2 : Hid (Below w.heap.size w (w1.alloc (.cells #[.int .i64 o, .int .i64 fo, .int .i64 gr, .bool y, .int .i64 r] 55))) := Lib.hid (HB1.out.alloc HB1.out.size _)
    have HZ2 : Hid (Zs (w1.alloc (.cells #[.int .i64 o, .int .i64 fo, .int .i64 gr, .bool y, .int .i64 r] 55)) w.heap.size) := Lib.hid ((Below.heap_alloc _ _ _ (lt_of_blockR HZ1.out)).trans HZ1.out)
    by_cases h0 : fo = 0
    · subst h0
      have HN := Lib.hid (shpNo (s := ⟨o, 0, gr, y, r⟩) rfl)
      unfold shpV
      go_wp2_with (refine wpList_store_row rfl 55 (.tmp 4) (.tmp 22) rfl w.heap.size (shpL noShp).toArray rfl rfl 55 _ HZ2.out (by kernel_rfl) rfl (shp_one _) ?_)
      refine bodyPost_ret (v := .tuple #[.agg (shpL noShp).toArray, .int .i64 11]) (by exact results_cell_row2 Tryd.results93 _ _ w.heap.size 55 (shpL noShp).toArray (0, 0) _ rfl (setRow_heap _ _ _ _ _ _ HZ2.out) Tryd.underlying55 rfl (by kernel_rfl)) (by rfl) ⟨?_, below_setRow HB2.out⟩
      rw [← HE.out]; exact HN.out
    · have h1 : (fo == 0) = false := beq_eq_false_iff_ne.mpr h0
      have HY := Lib.hid (shpYes (s := ⟨o, fo, gr, y, r⟩) h0)
      clear h0
      unfold shpV
      go_wp2_with (refine wpList_store_row rfl 55 (.tmp 4) (.tmp 23) rfl w.heap.size (shpL ⟨o, fo, gr, y, r⟩).toArray rfl rfl 55 _ HZ2.out (by kernel_rfl) rfl (shp_one _) ?_)
      refine bodyPost_ret (v := .tuple #[.agg (shpL ⟨o, fo, gr, y, r⟩).toArray, .int .i64 0]) (by exact results_cell_row2 Tryd.results93 _ _ w.heap.size 55 (shpL ⟨o, fo, gr, y, r⟩).toArray (0, 0) _ rfl (setRow_heap _ _ _ _ _ _ HZ2.out) Tryd.underlying55 rfl (by kernel_rfl)) (by rfl) ⟨?_, below_setRow HB2.out⟩
      rw [← HE.out]; exact HY.out
set_option maxHeartbeats 1000000 in
theorem shapeNoI (s : Bool) (b : Int) (w : World) (h : b < 0 ∨ 255 < b) : Calls Tryd.prog 93 #[.bool s, .int .i64 b] w fun e w' => e = .returned (.tuple #[shpV noShp, .int .i64 4]) ∧ Below w.heap.size w w' := by
  by_cases h1 : b < 0
  · clear h
    go_enter Tryd.func93, Tryd.ntmps93
    go_wp2
    refine bodyPost_ret (v := .tuple #[.agg (shpL noShp).toArray, .int .i64 4]) (by exact results_cell_row2 Tryd.results93 _ _ w.heap.size 55 _ (0, 0) _ rfl (heap_alloc_new w _) Tryd.underlying55 rfl (by kernel_rfl)) (by rfl) ⟨rfl, (Below.refl _ _).alloc (Nat.le_refl _) _⟩
  · have d1 : decide (b < 0) = false := decide_eq_false h1
    have d2 : 255 < b := by omega
    clear h h1
    go_enter Tryd.func93, Tryd.ntmps93
    go_wp2
    refine bodyPost_ret (v := .tuple #[.agg (shpL noShp).toArray, .int .i64 4]) (by exact results_cell_row2 Tryd.results93 _ _ w.heap.size 55 _ (0, 0) _ rfl (heap_alloc_new w _) Tryd.underlying55 rfl (by kernel_rfl)) (by rfl) ⟨rfl, (Below.refl _ _).alloc (Nat.le_refl _) _⟩
end Go.Proofs.YtinjpobepcenfaaDoor
