/-
  impl.divideSigned, told by the contracts of its helpers; conditions: those in each head.
-/
import Derived.Test.YtbcbepdfijcbmaaDoorWalkDw
namespace Go.Proofs.YtbcbepdfijcbmaaDoor
open Go.RowKit Go.Sort
set_option linter.unusedVariables false
set_option maxHeartbeats 1000000 in
set_option maxRecDepth 100000 in
theorem dsXFF (xh xl dh dl q r k : Int) (hb : decide (xh < 0) = false) (hd : decide (dh < 0) = false) (pl : ∀ w, Calls Tryd.prog 51 #[.agg #[.int .i64 xh, .int .i64 xl], .agg #[.int .i64 dh, .int .i64 dl]] w fun e w' => e = .returned (.tuple #[.agg #[.int .i64 0, .int .i64 q], .int .i64 r, .int .i64 k]) ∧ Below w.heap.size w w') (w : World) :
    Calls Tryd.prog 52 #[.agg #[.int .i64 xh, .int .i64 xl], .agg #[.int .i64 dh, .int .i64 dl]] w fun e w' => e = .returned (.tuple #[.agg #[.int .i64 0, .int .i64 q], .int .i64 r, .int .i64 k]) ∧ Below w.heap.size w w' := by
  have CP := Lib.hid pl
  clear pl
  go_enter Tryd.func52, Tryd.ntmps52
  go_wp2_with fail
  have D0 := DS.new w xh xl dh dl
  go_quiet (fail)
  have D1 := Lib.hid (D0.drewN nq)
  have s1 := Lib.hid (show ((((w.alloc (.cells #[.int .i64 xh, .int .i64 xl] 82)).alloc (.cells #[.int .i64 dh, .int .i64 dl] 82)).alloc (.cells #[.int .i64 0, .int .i64 0] 82)).drewN nq).heap.size = w.heap.size + 1 + 1 + 1 by simp)
  clear D0
  generalize ((((w.alloc (.cells #[.int .i64 xh, .int .i64 xl] 82)).alloc (.cells #[.int .i64 dh, .int .i64 dl] 82)).alloc (.cells #[.int .i64 0, .int .i64 0] 82)).drewN nq) = V1 at *
  obtain ⟨x0, x1, x2, x3⟩ := row_cells2 D1.out.x
  obtain ⟨y0, y1, y2, y3⟩ := row_cells2 D1.out.d
  obtain ⟨z0, z1, z2, z3⟩ := row_cells2 D1.out.q
  go_wp2_with fail
  refine (CP.out _).mono ?_
  rintro e V ⟨rfl, hbV⟩
  clear x0 x1 x2 x3 y0 y1 y2 y3 z0 z1 z2 z3
  have E := Lib.hid (D1.out.call hbV)
  clear hbV
  have A := Lib.hid (E.out.alloc (.cells #[.int .i64 0, .int .i64 q] 82))
  have rg := Lib.hid (heap_alloc_new V (.cells #[.int .i64 0, .int .i64 q] 82))
  have gs : Hid (w.heap.size + 1 + 1 < V.heap.size) := Lib.hid (lt_of_blk E.out.q)
  obtain ⟨z0, z1, z2, z3⟩ := row_cells2 A.out.q
  obtain ⟨g0, g1, g2, g3⟩ := row_cells2 rg.out
  have G := Lib.hid (A.out.setQ 0 q)
  go_wp2
  refine bodyPost_ret (v := .tuple #[.agg #[.int .i64 0, .int .i64 q], .int .i64 r, .int .i64 k]) (by exact results_cell_row3 Tryd.results52 _ _ (w.heap.size + 1 + 1) 82 #[.int .i64 0, .int .i64 q] (0, 0) _ rfl G.out.q Tryd.underlying82 rfl (by kernel_rfl)) (by rfl) ⟨rfl, G.out.be⟩
set_option maxHeartbeats 1000000 in
set_option maxRecDepth 100000 in
theorem dsXFT (xh xl dh dl q r k ch cl qh ql : Int) (hb : decide (xh < 0) = false) (hd : decide (dh < 0) = true) (nd : ∀ w, Calls Tryd.prog 84 #[.agg #[.int .i64 dh, .int .i64 dl]] w fun e w' => e = .returned (.agg #[.int .i64 ch, .int .i64 cl]) ∧ Below w.heap.size w w') (pl : ∀ w, Calls Tryd.prog 51 #[.agg #[.int .i64 xh, .int .i64 xl], .agg #[.int .i64 ch, .int .i64 cl]] w fun e w' => e = .returned (.tuple #[.agg #[.int .i64 0, .int .i64 q], .int .i64 r, .int .i64 k]) ∧ Below w.heap.size w w') (nq : ∀ w, Calls Tryd.prog 84 #[.agg #[.int .i64 0, .int .i64 q]] w fun e w' => e = .returned (.agg #[.int .i64 qh, .int .i64 ql]) ∧ Below w.heap.size w w') (w : World) :
    Calls Tryd.prog 52 #[.agg #[.int .i64 xh, .int .i64 xl], .agg #[.int .i64 dh, .int .i64 dl]] w fun e w' => e = .returned (.tuple #[.agg #[.int .i64 qh, .int .i64 ql], .int .i64 r, .int .i64 k]) ∧ Below w.heap.size w w' := by
  have CD := Lib.hid nd
  clear nd
  have CQ := Lib.hid nq
  clear nq
  have CP := Lib.hid pl
  clear pl
  go_enter Tryd.func52, Tryd.ntmps52
  go_wp2_with fail
  have D0 := DS.new w xh xl dh dl
  go_quiet (fail)
  have D1 := Lib.hid (D0.drewN nq)
  have s1 := Lib.hid (show ((((w.alloc (.cells #[.int .i64 xh, .int .i64 xl] 82)).alloc (.cells #[.int .i64 dh, .int .i64 dl] 82)).alloc (.cells #[.int .i64 0, .int .i64 0] 82)).drewN nq).heap.size = w.heap.size + 1 + 1 + 1 by simp)
  clear D0
  generalize ((((w.alloc (.cells #[.int .i64 xh, .int .i64 xl] 82)).alloc (.cells #[.int .i64 dh, .int .i64 dl] 82)).alloc (.cells #[.int .i64 0, .int .i64 0] 82)).drewN nq) = V1 at *
  obtain ⟨x0, x1, x2, x3⟩ := row_cells2 D1.out.x
  obtain ⟨y0, y1, y2, y3⟩ := row_cells2 D1.out.d
  obtain ⟨z0, z1, z2, z3⟩ := row_cells2 D1.out.q
  go_wp2_with fail
  refine (CD.out _).mono ?_
  rintro e V2 ⟨rfl, hb2⟩
  clear x0 x1 x2 x3 y0 y1 y2 y3 z0 z1 z2 z3
  have E1 := Lib.hid (D1.out.call hb2)
  clear hb2
  have D2 := Lib.hid (E1.out.setD ch cl)
  obtain ⟨x0, x1, x2, x3⟩ := row_cells2 E1.out.x
  obtain ⟨y0, y1, y2, y3⟩ := row_cells2 E1.out.d
  obtain ⟨z0, z1, z2, z3⟩ := row_cells2 E1.out.q
  go_wp2_with fail
  refine (CP.out _).mono ?_
  rintro e V ⟨rfl, hbV⟩
  clear x0 x1 x2 x3 y0 y1 y2 y3 z0 z1 z2 z3
  have E := Lib.hid (D2.out.call hbV)
  clear hbV
  have A := Lib.hid (E.out.alloc (.cells #[.int .i64 0, .int .i64 q] 82))
  have rg := Lib.hid (heap_alloc_new V (.cells #[.int .i64 0, .int .i64 q] 82))
  have gs : Hid (w.heap.size + 1 + 1 < V.heap.size) := Lib.hid (lt_of_blk E.out.q)
  obtain ⟨z0, z1, z2, z3⟩ := row_cells2 A.out.q
  obtain ⟨g0, g1, g2, g3⟩ := row_cells2 rg.out
  go_wp2_with fail
  refine (CQ.out _).mono ?_
  rintro e V' ⟨rfl, hbW⟩
  clear z0 z1 z2 z3 g0 g1 g2 g3
  have E' := Lib.hid (A.out.call hbW)
  have rg' := Lib.hid ((hbW.block _ (lt_of_blk rg.out)).trans rg.out)
  clear hbW
  have F := Lib.hid (show DS w ((V'.setCell ⟨V.heap.size, 0, none⟩ (.int .i64 qh)).setCell ⟨V.heap.size, 1, none⟩ (.int .i64 ql)) _ _ _ _ 0 0 from E'.out.own V.heap.size gs.out qh ql)
  obtain ⟨z0, z1, z2, z3⟩ := row_cells2 F.out.q
  obtain ⟨g0, g1, g2, g3⟩ := row_cells2 rg'.out
  have rf := Lib.hid (show ((V'.setCell ⟨V.heap.size, 0, none⟩ (.int .i64 qh)).setCell ⟨V.heap.size, 1, none⟩ (.int .i64 ql)).heap[V.heap.size]? = _ from W2.row rg'.out qh ql)
  obtain ⟨k0, k1, k2, k3⟩ := row_cells2 rf.out
  have G := Lib.hid (F.out.setQ qh ql)
  go_wp2
  refine bodyPost_ret (v := .tuple #[.agg #[.int .i64 qh, .int .i64 ql], .int .i64 r, .int .i64 k]) (by exact results_cell_row3 Tryd.results52 _ _ (w.heap.size + 1 + 1) 82 #[.int .i64 qh, .int .i64 ql] (0, 0) _ rfl G.out.q Tryd.underlying82 rfl (by kernel_rfl)) (by rfl) ⟨rfl, G.out.be⟩
set_option maxHeartbeats 1000000 in
set_option maxRecDepth 100000 in
theorem dsXTF (xh xl dh dl q r k ah al qh ql : Int) (hb : decide (xh < 0) = true) (hd : decide (dh < 0) = false) (nx : ∀ w, Calls Tryd.prog 84 #[.agg #[.int .i64 xh, .int .i64 xl]] w fun e w' => e = .returned (.agg #[.int .i64 ah, .int .i64 al]) ∧ Below w.heap.size w w') (pl : ∀ w, Calls Tryd.prog 51 #[.agg #[.int .i64 ah, .int .i64 al], .agg #[.int .i64 dh, .int .i64 dl]] w fun e w' => e = .returned (.tuple #[.agg #[.int .i64 0, .int .i64 q], .int .i64 r, .int .i64 k]) ∧ Below w.heap.size w w') (nq : ∀ w, Calls Tryd.prog 84 #[.agg #[.int .i64 0, .int .i64 q]] w fun e w' => e = .returned (.agg #[.int .i64 qh, .int .i64 ql]) ∧ Below w.heap.size w w') (w : World) :
    Calls Tryd.prog 52 #[.agg #[.int .i64 xh, .int .i64 xl], .agg #[.int .i64 dh, .int .i64 dl]] w fun e w' => e = .returned (.tuple #[.agg #[.int .i64 qh, .int .i64 ql], .int .i64 (wrap64 (-r)), .int .i64 k]) ∧ Below w.heap.size w w' := by
  have CX := Lib.hid nx
  clear nx
  have CQ := Lib.hid nq
  clear nq
  have CP := Lib.hid pl
  clear pl
  go_enter Tryd.func52, Tryd.ntmps52
  go_wp2_with fail
  have D0 := DS.new w xh xl dh dl
  go_quiet (fail)
  have D1 := Lib.hid (D0.drewN nq)
  have s1 := Lib.hid (show ((((w.alloc (.cells #[.int .i64 xh, .int .i64 xl] 82)).alloc (.cells #[.int .i64 dh, .int .i64 dl] 82)).alloc (.cells #[.int .i64 0, .int .i64 0] 82)).drewN nq).heap.size = w.heap.size + 1 + 1 + 1 by simp)
  clear D0
  generalize ((((w.alloc (.cells #[.int .i64 xh, .int .i64 xl] 82)).alloc (.cells #[.int .i64 dh, .int .i64 dl] 82)).alloc (.cells #[.int .i64 0, .int .i64 0] 82)).drewN nq) = V1 at *
  obtain ⟨x0, x1, x2, x3⟩ := row_cells2 D1.out.x
  obtain ⟨y0, y1, y2, y3⟩ := row_cells2 D1.out.d
  obtain ⟨z0, z1, z2, z3⟩ := row_cells2 D1.out.q
  go_wp2_with fail
  refine (CX.out _).mono ?_
  rintro e V2 ⟨rfl, hb2⟩
  clear x0 x1 x2 x3 y0 y1 y2 y3 z0 z1 z2 z3
  have E1 := Lib.hid (D1.out.call hb2)
  clear hb2
  have D2 := Lib.hid (E1.out.setX ah al)
  obtain ⟨x0, x1, x2, x3⟩ := row_cells2 E1.out.x
  obtain ⟨y0, y1, y2, y3⟩ := row_cells2 E1.out.d
  obtain ⟨z0, z1, z2, z3⟩ := row_cells2 E1.out.q
  go_wp2_with fail
  refine (CP.out _).mono ?_
  rintro e V ⟨rfl, hbV⟩
  clear x0 x1 x2 x3 y0 y1 y2 y3 z0 z1 z2 z3
  have E := Lib.hid (D2.out.call hbV)
  clear hbV
  have A := Lib.hid (E.out.alloc (.cells #[.int .i64 0, .int .i64 q] 82))
  have rg := Lib.hid (heap_alloc_new V (.cells #[.int .i64 0, .int .i64 q] 82))
  have gs : Hid (w.heap.size + 1 + 1 < V.heap.size) := Lib.hid (lt_of_blk E.out.q)
  obtain ⟨z0, z1, z2, z3⟩ := row_cells2 A.out.q
  obtain ⟨g0, g1, g2, g3⟩ := row_cells2 rg.out
  go_wp2_with fail
  refine (CQ.out _).mono ?_
  rintro e V' ⟨rfl, hbW⟩
  clear z0 z1 z2 z3 g0 g1 g2 g3
  have E' := Lib.hid (A.out.call hbW)
  have rg' := Lib.hid ((hbW.block _ (lt_of_blk rg.out)).trans rg.out)
  clear hbW
  have F := Lib.hid (show DS w ((V'.setCell ⟨V.heap.size, 0, none⟩ (.int .i64 qh)).setCell ⟨V.heap.size, 1, none⟩ (.int .i64 ql)) _ _ _ _ 0 0 from E'.out.own V.heap.size gs.out qh ql)
  obtain ⟨z0, z1, z2, z3⟩ := row_cells2 F.out.q
  obtain ⟨g0, g1, g2, g3⟩ := row_cells2 rg'.out
  have rf := Lib.hid (show ((V'.setCell ⟨V.heap.size, 0, none⟩ (.int .i64 qh)).setCell ⟨V.heap.size, 1, none⟩ (.int .i64 ql)).heap[V.heap.size]? = _ from W2.row rg'.out qh ql)
  obtain ⟨k0, k1, k2, k3⟩ := row_cells2 rf.out
  have G := Lib.hid (F.out.setQ qh ql)
  go_wp2
  refine bodyPost_ret (v := .tuple #[.agg #[.int .i64 qh, .int .i64 ql], .int .i64 (wrap64 (-r)), .int .i64 k]) (by exact results_cell_row3 Tryd.results52 _ _ (w.heap.size + 1 + 1) 82 #[.int .i64 qh, .int .i64 ql] (0, 0) _ rfl G.out.q Tryd.underlying82 rfl (by kernel_rfl)) (by rfl) ⟨rfl, G.out.be⟩
set_option maxHeartbeats 1000000 in
set_option maxRecDepth 100000 in
theorem dsXTT (xh xl dh dl q r k ah al ch cl : Int) (hb : decide (xh < 0) = true) (hd : decide (dh < 0) = true) (nx : ∀ w, Calls Tryd.prog 84 #[.agg #[.int .i64 xh, .int .i64 xl]] w fun e w' => e = .returned (.agg #[.int .i64 ah, .int .i64 al]) ∧ Below w.heap.size w w') (nd : ∀ w, Calls Tryd.prog 84 #[.agg #[.int .i64 dh, .int .i64 dl]] w fun e w' => e = .returned (.agg #[.int .i64 ch, .int .i64 cl]) ∧ Below w.heap.size w w') (pl : ∀ w, Calls Tryd.prog 51 #[.agg #[.int .i64 ah, .int .i64 al], .agg #[.int .i64 ch, .int .i64 cl]] w fun e w' => e = .returned (.tuple #[.agg #[.int .i64 0, .int .i64 q], .int .i64 r, .int .i64 k]) ∧ Below w.heap.size w w') (w : World) :
    Calls Tryd.prog 52 #[.agg #[.int .i64 xh, .int .i64 xl], .agg #[.int .i64 dh, .int .i64 dl]] w fun e w' => e = .returned (.tuple #[.agg #[.int .i64 0, .int .i64 q], .int .i64 (wrap64 (-r)), .int .i64 k]) ∧ Below w.heap.size w w' := by
  have CX := Lib.hid nx
  clear nx
  have CD := Lib.hid nd
  clear nd
  have CP := Lib.hid pl
  clear pl
  go_enter Tryd.func52, Tryd.ntmps52
  go_wp2_with fail
  have D0 := DS.new w xh xl dh dl
  go_quiet (fail)
  have D1 := Lib.hid (D0.drewN nq)
  have s1 := Lib.hid (show ((((w.alloc (.cells #[.int .i64 xh, .int .i64 xl] 82)).alloc (.cells #[.int .i64 dh, .int .i64 dl] 82)).alloc (.cells #[.int .i64 0, .int .i64 0] 82)).drewN nq).heap.size = w.heap.size + 1 + 1 + 1 by simp)
  clear D0
  generalize ((((w.alloc (.cells #[.int .i64 xh, .int .i64 xl] 82)).alloc (.cells #[.int .i64 dh, .int .i64 dl] 82)).alloc (.cells #[.int .i64 0, .int .i64 0] 82)).drewN nq) = V1 at *
  obtain ⟨x0, x1, x2, x3⟩ := row_cells2 D1.out.x
  obtain ⟨y0, y1, y2, y3⟩ := row_cells2 D1.out.d
  obtain ⟨z0, z1, z2, z3⟩ := row_cells2 D1.out.q
  go_wp2_with fail
  refine (CX.out _).mono ?_
  rintro e V2 ⟨rfl, hb2⟩
  clear x0 x1 x2 x3 y0 y1 y2 y3 z0 z1 z2 z3
  have E1 := Lib.hid (D1.out.call hb2)
  clear hb2
  have D2 := Lib.hid (E1.out.setX ah al)
  obtain ⟨x0, x1, x2, x3⟩ := row_cells2 E1.out.x
  obtain ⟨y0, y1, y2, y3⟩ := row_cells2 E1.out.d
  obtain ⟨z0, z1, z2, z3⟩ := row_cells2 E1.out.q
  go_wp2_with fail
  refine (CD.out _).mono ?_
  rintro e V3 ⟨rfl, hb3⟩
  clear x0 x1 x2 x3 y0 y1 y2 y3 z0 z1 z2 z3
  have E2 := Lib.hid (D2.out.call hb3)
  clear hb3
  have D3 := Lib.hid (E2.out.setD ch cl)
  obtain ⟨x0, x1, x2, x3⟩ := row_cells2 E2.out.x
  obtain ⟨y0, y1, y2, y3⟩ := row_cells2 E2.out.d
  obtain ⟨z0, z1, z2, z3⟩ := row_cells2 E2.out.q
  go_wp2_with fail
  refine (CP.out _).mono ?_
  rintro e V ⟨rfl, hbV⟩
  clear x0 x1 x2 x3 y0 y1 y2 y3 z0 z1 z2 z3
  have E := Lib.hid (D3.out.call hbV)
  clear hbV
  have A := Lib.hid (E.out.alloc (.cells #[.int .i64 0, .int .i64 q] 82))
  have rg := Lib.hid (heap_alloc_new V (.cells #[.int .i64 0, .int .i64 q] 82))
  have gs : Hid (w.heap.size + 1 + 1 < V.heap.size) := Lib.hid (lt_of_blk E.out.q)
  obtain ⟨z0, z1, z2, z3⟩ := row_cells2 A.out.q
  obtain ⟨g0, g1, g2, g3⟩ := row_cells2 rg.out
  have G := Lib.hid (A.out.setQ 0 q)
  go_wp2
  refine bodyPost_ret (v := .tuple #[.agg #[.int .i64 0, .int .i64 q], .int .i64 (wrap64 (-r)), .int .i64 k]) (by exact results_cell_row3 Tryd.results52 _ _ (w.heap.size + 1 + 1) 82 #[.int .i64 0, .int .i64 q] (0, 0) _ rfl G.out.q Tryd.underlying82 rfl (by kernel_rfl)) (by rfl) ⟨rfl, G.out.be⟩
end Go.Proofs.YtbcbepdfijcbmaaDoor
