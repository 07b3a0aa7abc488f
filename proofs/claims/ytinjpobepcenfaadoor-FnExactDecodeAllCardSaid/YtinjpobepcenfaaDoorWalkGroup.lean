/-
  What impl.GroupOp and spec.GroupOp do: the operation that a digit tells in a group, changing nothing that was there; condition: the program's table of groups holds these operations.
-/
import Derived.Test.YtinjpobepcenfaaDoorWalkTab
namespace Go.Proofs.YtinjpobepcenfaaDoor
open Go.RowKit
def grpL : List (List Int) := [[1, 2, 3, 4, 5, 6, 7, 8], [20, 21, 0, 0, 22, 23, 0, 24], [10, 0, 11, 12, 13, 14, 15, 16], [18, 19, 0, 0, 0, 0, 0, 0], [18, 19, 31, 0, 32, 0, 29, 0], [30, 0, 0, 0, 0, 0, 0, 0], [9, 0, 0, 0, 0, 0, 0, 0]]
def grp (i j : Nat) : Int := (grpL.getD i []).getD j 0
theorem cells_of_grid {H : Type} {enc : TypeId × Value → H} {P : Program} {w : World} {base : Nat} {sp : Nat → Bool} {held : Bool} {fuel : Nat} {t e f : TypeId} {n m : Nat} {cs : List Value} {zss : List (List Int)} {p : List MemPlace}
    (ht : P.underlying t = some (.array n e)) (he : P.underlying e = some (.array m f)) (hf : P.underlying f = some (.int .i64)) (hcf : P.cellsOf f = 1) (hce : P.cellsOf e = m)
    (h : DataW.trod enc P w base sp held fuel t cs = some (.agg (zss.map fun zs => Lib.tabData .i64 zs), p)) (i j : Nat) (hi : i < n) (hj : j < m) (hl : ∀ zs ∈ zss, zs.length = m) : cs[i * m + j]? = some (.int .i64 ((zss.getD i []).getD j 0)) := by
  obtain ⟨xs, k, _, hx, _, hn, hel⟩ := DataW.trod_array ht h
  have h1 := hel i hi
  rw [hce] at h1
  have hxi : xs[i]? = some xs[i] := List.getElem?_eq_getElem (by omega)
  rw [hxi] at h1
  have h2 := congrArg Prod.fst hx
  simp only [DataW.agg.injEq] at h2
  have h3 : (zss.map fun zs => (Lib.tabData .i64 zs : DataW H))[i]? = some xs[i].1 := by rw [h2, List.getElem?_map, hxi]; rfl
  rw [List.getElem?_map, Option.map_eq_some_iff] at h3
  obtain ⟨zs, hz1, hz2⟩ := h3
  have h4 : DataW.trod enc P w base sp held k e ((cs.drop (i * m)).take m) = some (Lib.tabData .i64 zs, xs[i].2) := by rw [h1, hz2]
  have h5 := Lib.cells_of_tab he hf hcf hce h4
  have h6 := congrArg (·[j]?) h5
  simp only [List.getElem?_take, List.getElem?_drop, if_pos hj, List.getElem?_map] at h6
  have hzl := hl zs (List.mem_of_getElem? hz1)
  have hzj : zs[j]? = some zs[j] := List.getElem?_eq_getElem (by omega)
  have e1 : zss.getD i [] = zs := by rw [List.getD_eq_getElem?_getD, hz1]; rfl
  have e2 : zs.getD j 0 = zs[j] := by rw [List.getD_eq_getElem?_getD, hzj]; rfl
  rw [h6, e1, e2, hzj]; rfl
/-- block g holds the groups' operations -/
def Grps (W : World) (g : Nat) : Prop := ∃ cs t fr, W.heap[g]? = some (.cells cs t fr) ∧ ∀ i j, i < 7 → j < 8 → cs[i * 8 + j]? = some (.int .i64 (grp i j))
theorem Grps.lt {W : World} {g : Nat} (h : Grps W g) : g < W.heap.size := by
  obtain ⟨cs, t, fr, h, _⟩ := h
  rcases Nat.lt_or_ge g W.heap.size with h' | h'
  · exact h'
  · rw [Array.getElem?_eq_none h'] at h; cases h
theorem Grps.below {W W' : World} {g : Nat} (h : Grps W g) (hb : Below W.heap.size W W') : Grps W' g := by
  have hl := h.lt
  obtain ⟨cs, t, fr, h, h2⟩ := h
  exact ⟨cs, t, fr, (hb.block _ hl).trans h, h2⟩
theorem Grps.cell {W : World} {g : Nat} (h : Grps W g) (i j : Nat) (hi : i < 7) (hj : j < 8) : W.cell? ⟨g, i * 8 + j, none⟩ = some (.int .i64 (grp i j)) := by
  obtain ⟨cs, t, fr, h, h2⟩ := h
  rw [cell_of_row W g _ _ t fr h]; exact h2 i j hi hj
theorem groupsMet {W : World} {d : DataW Unit} (hd : d = Rows.laid_loop_example_g00664_impl_groupOps) (h : laidMetH Tryd.prog [("loop.example/g00664/impl.groupOps", d)] W) : Grps W 6 := by
  subst hd
  rw [MakeChecks.laidMetH_plain _ _ _ (by kernel_rfl)] at h
  obtain ⟨ps, ⟨g, t, cs, fuel, p, q, hg, ht, hvar, hd, _, _⟩, _⟩ := h
  obtain rfl := Option.some.inj ((show Tryd.prog.globalNamed "loop.example/g00664/impl.groupOps" = some 6 by kernel_rfl).symm.trans hg)
  obtain rfl := Option.some.inj ((show (Tryd.prog.globals[6]?).map (·.type) = some 113 by kernel_rfl).symm.trans ht)
  obtain ⟨t, fr, hb⟩ := var_block hg hvar
  refine ⟨cs, t, fr, hb, fun i j hi hj => ?_⟩
  have := cells_of_grid (zss := grpL) Tryd.underlying113 Tryd.underlying112 Tryd.underlying3 (by kernel_rfl) (by kernel_rfl) hd i j hi hj (by decide)
  rw [← Array.getElem?_toList]; exact this
/-- what is answered for the operation v of a group -/
def grpCode (v : Int) : Int := if v = 0 then 11 else 0
def GrpOut (v : Int) (e : Ending) : Prop := e = .returned (.tuple #[.int .i64 v, .int .i64 (grpCode v)])
set_option maxHeartbeats 1000000 in
theorem groupI (i j : Nat) (w : World) (hi : i < 7) (hj : j < 8) (hg : Grps w 6) :
    Calls Tryd.prog 95 #[.int .i64 ((i : Int) + 1), .int .i64 (j : Int)] w fun e w' => GrpOut (grp i j) e ∧ w = w' := by
  have hc := hg.cell i j hi hj
  have h1 : decide ((i : Int) + 1 < 1) = false := decide_eq_false (by omega)
  have h2 : (i : Int) < 7 := by omega
  have h3 : (j : Int) < 8 := by omega
  clear hg
  obtain ⟨v, hv⟩ : ∃ v, v = grp i j := ⟨_, rfl⟩
  rw [← hv] at hc ⊢
  clear hv
  by_cases h0 : v = 0
  · subst h0
    go_enter Tryd.func95, Tryd.ntmps95
    go_wp2
    go_ret2
    exact ⟨rfl, rfl⟩
  · have h4 : (v == 0) = false := beq_eq_false_iff_ne.mpr h0
    have HV : Hid (GrpOut v (.returned (.tuple #[.int .i64 v, .int .i64 0]))) := Lib.hid (by unfold GrpOut grpCode; rw [if_neg h0])
    clear h0
    go_enter Tryd.func95, Tryd.ntmps95
    go_wp2
    go_ret2
    exact ⟨HV.out, rfl⟩
set_option maxHeartbeats 1000000 in
theorem groupINo (a b : Int) (w : World) (h : a < 1 ∨ 7 < a ∨ b < 0 ∨ 7 < b) :
    Calls Tryd.prog 95 #[.int .i64 a, .int .i64 b] w fun e w' => e = .returned (.tuple #[.int .i64 0, .int .i64 4]) ∧ w = w' := by
  by_cases h1 : a < 1
  · clear h
    go_enter Tryd.func95, Tryd.ntmps95
    go_wp2
    go_ret2
    exact ⟨rfl, rfl⟩
  have d1 : decide (a < 1) = false := decide_eq_false h1
  by_cases h2 : 7 < a
  · clear h
    go_enter Tryd.func95, Tryd.ntmps95
    go_wp2
    go_ret2
    exact ⟨rfl, rfl⟩
  have d2 : decide (7 < a) = false := decide_eq_false h2
  by_cases h3 : b < 0
  · clear h
    go_enter Tryd.func95, Tryd.ntmps95
    go_wp2
    go_ret2
    exact ⟨rfl, rfl⟩
  have d3 : decide (b < 0) = false := decide_eq_false h3
  have h4 : 7 < b := by omega
  clear h
  go_enter Tryd.func95, Tryd.ntmps95
  go_wp2
  go_ret2
  exact ⟨rfl, rfl⟩
set_option maxHeartbeats 4000000 in
theorem l03GroupC (i j : Nat) (w : World) (hi : i < 7) (hj : j < 8) :
    Calls Tryd.prog 49 #[.int .i64 ((i : Int) + 1), .int .i64 (j : Int)] w fun e w' => e = .returned (.int .i64 (grp i j)) ∧ Below w.heap.size w w' := by
  have h8 : (j : Int) < 8 := by omega
  have HJ : Hid (j = 0 ∨ j = 1 ∨ j = 2 ∨ j = 3 ∨ j = 4 ∨ j = 5 ∨ j = 6 ∨ j = 7) := Lib.hid (by omega)
  rcases (show i = 0 ∨ i = 1 ∨ i = 2 ∨ i = 3 ∨ i = 4 ∨ i = 5 ∨ i = 6 by omega) with rfl | rfl | rfl | rfl | rfl | rfl | rfl
  all_goals
    go_enter Tryd.func49, Tryd.ntmps49
    go_wp2
    go_ret
    refine ⟨?_, by first | exact Below.refl _ _ | exact (Below.refl _ _).alloc (Nat.le_refl _) _⟩
    rcases HJ.out with rfl | rfl | rfl | rfl | rfl | rfl | rfl | rfl <;> rfl
end Go.Proofs.YtinjpobepcenfaaDoor
