/-
  The table of the first shapes out of what a row lists, and the comparison of two shapes that are alike; no condition but those in each head.
-/
import Derived.Test.YtinjpobepcenfaaDoorWalkShape4
namespace Go.Proofs.YtinjpobepcenfaaDoor
open Go.RowKit
theorem arith_at : ∀ i, i < 6 → arithL[i]? = some (arithAt i)
  | 0, _ => rfl | 1, _ => rfl | 2, _ => rfl | 3, _ => rfl | 4, _ => rfl | 5, _ => rfl
  | n + 6, h => by omega
def shpData {H : Type} (s : Shp) : DataW H := .agg [.lit (.int .i64 s.o), .lit (.int .i64 s.f), .lit (.int .i64 s.g), .lit (.bool s.y), .lit (.int .i64 s.r)]
theorem cells_of_shape {W : World} {fuel : Nat} {cs : List Value} {s : Shp} {p : List MemPlace} (h : DataW.trod (fun _ => ()) Tryd.prog W 0 (fun _ => true) false fuel 55 cs = some (shpData s, p)) (j : Nat) (hj : j < 5) : cs[j]? = (shpL s)[j]? := by
  obtain ⟨xs, m, _, hx, hl, hlen, hf⟩ := DataW.trod_struct Tryd.underlying55 h
  have hx1 := congrArg Prod.fst hx
  simp only [shpData, DataW.agg.injEq] at hx1
  have k1 : Tryd.prog.cellsOf 3 = 1 := by kernel_rfl
  have k4 : Tryd.prog.cellsOf 4 = 1 := by kernel_rfl
  have f0 : DataW.trod (fun _ => ()) Tryd.prog W 0 (fun _ => true) false m 3 ((cs.drop 0).take (Tryd.prog.cellsOf 3)) = xs[0]? := hf 0 _ rfl
  have f1 : DataW.trod (fun _ => ()) Tryd.prog W 0 (fun _ => true) false m 3 ((cs.drop 1).take (Tryd.prog.cellsOf 3)) = xs[1]? := hf 1 _ rfl
  have f2 : DataW.trod (fun _ => ()) Tryd.prog W 0 (fun _ => true) false m 3 ((cs.drop 2).take (Tryd.prog.cellsOf 3)) = xs[2]? := hf 2 _ rfl
  have f3 : DataW.trod (fun _ => ()) Tryd.prog W 0 (fun _ => true) false m 4 ((cs.drop 3).take (Tryd.prog.cellsOf 4)) = xs[3]? := hf 3 _ rfl
  have f4 : DataW.trod (fun _ => ()) Tryd.prog W 0 (fun _ => true) false m 3 ((cs.drop 4).take (Tryd.prog.cellsOf 3)) = xs[4]? := hf 4 _ rfl
  rw [k1] at f0 f1 f2 f4
  rw [k4] at f3
  match xs, hlen with
  | [x0, x1, x2, x3, x4], _ =>
    simp only [List.map_cons, List.map_nil, List.cons.injEq, and_true] at hx1
    obtain ⟨e0, e1, e2, e3, e4⟩ := hx1
    obtain ⟨n0, c0, d0, _⟩ := DataW.trod_int Tryd.underlying3 f0
    obtain ⟨n1, c1, d1, _⟩ := DataW.trod_int Tryd.underlying3 f1
    obtain ⟨n2, c2, d2, _⟩ := DataW.trod_int Tryd.underlying3 f2
    obtain ⟨n3, c3, d3⟩ := DataW.trod_bool Tryd.underlying4 f3
    obtain ⟨n4, c4, d4, _⟩ := DataW.trod_int Tryd.underlying3 f4
    have q0 : n0 = s.o := by simpa [d0] using e0.symm
    have q1 : n1 = s.f := by simpa [d1] using e1.symm
    have q2 : n2 = s.g := by simpa [d2] using e2.symm
    have q3 : n3 = s.y := by simpa [d3] using e3.symm
    have q4 : n4 = s.r := by simpa [d4] using e4.symm
    subst q0 q1 q2 q3 q4
    have g (k : Nat) (v : Value) (h : (cs.drop k).take 1 = [v]) : cs[k]? = some v := by
      have := congrArg (·[0]?) h
      simpa [List.getElem?_take, List.getElem?_drop] using this
    rcases (show j = 0 ∨ j = 1 ∨ j = 2 ∨ j = 3 ∨ j = 4 by omega) with rfl | rfl | rfl | rfl | rfl
    · exact g 0 _ c0
    · exact g 1 _ c1
    · exact g 2 _ c2
    · exact g 3 _ c3
    · exact g 4 _ c4
theorem arithMet {W : World} {d : DataW Unit} (hd : d = Rows.laid_loop_example_g00664_impl_arithShapes) (h : laidMetH Tryd.prog [("loop.example/g00664/impl.arithShapes", d)] W) : Ari W 7 := by
  subst hd
  rw [MakeChecks.laidMetH_plain _ _ _ (by kernel_rfl)] at h
  obtain ⟨ps, ⟨g, t, cs, fuel, p, q, hg, ht, hvar, hd, _, _⟩, _⟩ := h
  obtain rfl := Option.some.inj ((show Tryd.prog.globalNamed "loop.example/g00664/impl.arithShapes" = some 7 by kernel_rfl).symm.trans hg)
  obtain rfl := Option.some.inj ((show (Tryd.prog.globals[7]?).map (·.type) = some 118 by kernel_rfl).symm.trans ht)
  obtain ⟨t, fr, hb⟩ := var_block hg hvar
  refine ⟨cs, t, fr, hb, fun i hi j hj => ?_⟩
  obtain ⟨xs, k, _, hx, _, hn, hel⟩ := DataW.trod_array Tryd.underlying118 hd
  have h1 := hel i hi
  rw [show Tryd.prog.cellsOf 55 = 5 by kernel_rfl] at h1
  have hxi : xs[i]? = some xs[i] := List.getElem?_eq_getElem (by omega)
  rw [hxi] at h1
  have h2 := congrArg Prod.fst hx
  have h3 : (.agg (arithL.map shpData) : DataW Unit) = .agg (xs.map (·.1)) := h2
  simp only [DataW.agg.injEq] at h3
  have h4 : (arithL.map (shpData (H := Unit)))[i]? = some xs[i].1 := by rw [h3, List.getElem?_map, hxi]; rfl
  rw [List.getElem?_map, arith_at i hi] at h4
  have h5 : shpData (arithAt i) = xs[i].1 := by simpa using h4
  have h6 : DataW.trod (fun _ => ()) Tryd.prog W 0 (fun _ => true) false k 55 ((cs.toList.drop (i * 5)).take 5) = some (shpData (arithAt i), xs[i].2) := by rw [h1, h5]
  have h7 := cells_of_shape h6 j hj
  simp only [List.getElem?_take, List.getElem?_drop, if_pos hj] at h7
  rw [← Array.getElem?_toList]; exact h7
theorem box5 (w : World) (v : Array Value) (t : TypeId) (i : Nat) : (w.alloc (.cells v t)).cell? ⟨w.heap.size, i, none⟩ = v[i]? := cell_of_row _ _ i _ _ (0, 0) (heap_alloc_new w _)
/-- two calls, with a variable made between them and behind them -/
theorem two_boxes {w w1 w2 : World} {o o2 : Obj} (h1 : Below w.heap.size w w1) (h2 : Below (w1.alloc o).heap.size (w1.alloc o) w2) : Below w.heap.size w (w2.alloc o2) := by
  have hs := h1.size
  have h3 := h1.alloc hs o
  have h4 := h3.trans (h2.mono h3.size)
  exact h4.alloc h4.size o2
/-- what the variable made between them holds behind them -/
theorem box_kept {w1 w2 : World} {v : Array Value} {t : TypeId} {o2 : Obj} (h2 : Below (w1.alloc (.cells v t)).heap.size (w1.alloc (.cells v t)) w2) (i : Nat) : (w2.alloc o2).cell? ⟨w1.heap.size, i, none⟩ = v[i]? := by
  have hs := h2.size
  simp only [World.size_alloc] at hs
  rw [World.cell?_alloc_lt _ _ _ (by show w1.heap.size < _; omega), h2.cell (p := ⟨w1.heap.size, i, none⟩) (by simp)]
  exact box5 w1 v t i
end Go.Proofs.YtinjpobepcenfaaDoor
