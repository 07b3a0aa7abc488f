/-
  AddressOf of both: what is refused, and what is answered; conditions: those in each head.
-/
import Derived.Test.YtbcbepdfijcbmaaDoorWalkAddr
import Derived.Test.YtbcbepdfijcbmaaDoorWalkOpd
namespace Go.Proofs.YtbcbepdfijcbmaaDoor
open Go.RowKit
set_option linter.unusedVariables false
/-- the boxes of a processor and of an operand -/
structure AB (w W : World) (V : Array Value) (x : Opd) : Prop where
  c : Cpb W w.heap.size V
  x : W.heap[w.heap.size + 1]? = some (.cells #[.int .i64 x.k, .int .i64 x.r, .int .i64 x.b, .int .i64 x.i, .int .i64 x.s, .int .i64 x.d, .int .i64 x.m] 37 (0, 0))
  be : Below w.heap.size w W
theorem AB.new (w : World) (V : Array Value) (x : Opd) : AB w ((w.alloc (.cells V 27)).alloc (.cells #[.int .i64 x.k, .int .i64 x.r, .int .i64 x.b, .int .i64 x.i, .int .i64 x.s, .int .i64 x.d, .int .i64 x.m] 37)) V x := by
  have e1 := heap_alloc_new w (.cells V 27)
  have e2 := heap_alloc_new (w.alloc (.cells V 27)) (.cells #[.int .i64 x.k, .int .i64 x.r, .int .i64 x.b, .int .i64 x.i, .int .i64 x.s, .int .i64 x.d, .int .i64 x.m] 37)
  have z2 : (w.alloc (.cells V 27)).heap.size = w.heap.size + 1 := by simp
  rw [z2] at e2
  exact ⟨(Below.heap_alloc _ _ _ (by simp)).trans e1, e2, ((Below.refl _ _).alloc (Nat.le_refl _) _).alloc (by simp) _⟩
theorem AB.call {w W W' : World} {V : Array Value} {x : Opd} (h : AB w W V x) (hb : Below W.heap.size W W') : AB w W' V x := ⟨h.c.on hb, (hb.block _ (lt_of_blk' h.x)).trans h.x, h.be.trans (hb.mono h.be.size)⟩
theorem AB.cells {w W : World} {V : Array Value} {k r b i s d m : Int} (h : AB w W V ⟨k, r, b, i, s, d, m⟩) : W.cell? ⟨w.heap.size + 1, 0, none⟩ = some (.int .i64 k) ∧ W.cell? ⟨w.heap.size + 1, 1, none⟩ = some (.int .i64 r) ∧ W.cell? ⟨w.heap.size + 1, 2, none⟩ = some (.int .i64 b) ∧ W.cell? ⟨w.heap.size + 1, 3, none⟩ = some (.int .i64 i) ∧ W.cell? ⟨w.heap.size + 1, 4, none⟩ = some (.int .i64 s) ∧ W.cell? ⟨w.heap.size + 1, 5, none⟩ = some (.int .i64 d) ∧ W.cell? ⟨w.heap.size + 1, 6, none⟩ = some (.int .i64 m) :=
  ⟨cell_of_row _ _ 0 _ _ _ h.x, cell_of_row _ _ 1 _ _ _ h.x, cell_of_row _ _ 2 _ _ _ h.x, cell_of_row _ _ 3 _ _ _ h.x, cell_of_row _ _ 4 _ _ _ h.x, cell_of_row _ _ 5 _ _ _ h.x, cell_of_row _ _ 6 _ _ _ h.x⟩
set_option maxRecDepth 100000 in
set_option maxHeartbeats 2000000 in
theorem adrICpu (c : Cp) (k r b i s d m nx v : Int) (w : World) (hO : ∀ w, Calls Tryd.prog 33 #[.agg (cpV c)] w fun e w' => e = .returned (.bool false) ∧ Below w.heap.size w w') :
    Calls Tryd.prog 17 #[.agg (cpV c), .agg #[.int .i64 k, .int .i64 r, .int .i64 b, .int .i64 i, .int .i64 s, .int .i64 d, .int .i64 m], .int .i64 nx] w fun e w' => e = .returned (.tuple #[.int .i64 0, .int .i64 1]) ∧ Below w.heap.size w w' := by
  have CO := Lib.hid hO
  clear hO
  have A0 := Lib.hid (AB.new w (cpV c) ⟨k, r, b, i, s, d, m⟩)
  have sz : (cpV c).size = 18 := rfl
  generalize cpV c = V at *
  have HS := Lib.hid sz
  clear sz
  have I18 := Lib.hid (show (Tryd.prog.info? 27).map (·.size) = some 18 by kernel_rfl)
  go_enter Tryd.func17, Tryd.ntmps17
  go_wp2_with (refine wpList_load_row rfl 27 (.tmp 3) rfl w.heap.size rfl 27 V (0, 0) _ A0.out.c Tryd.underlying27 rfl (by rw [HS.out]; exact I18.out) ?_)
  refine (CO.out _).mono ?_
  rintro e w1 ⟨rfl, hb1⟩
  have A1 := Lib.hid (A0.out.call hb1)
  clear hb1 A0
  obtain ⟨x0, x1, x2, x3, x4, x5, x6⟩ := A1.out.cells
  go_wp2
  go_ret2
  exact ⟨rfl, A1.out.be⟩
set_option maxRecDepth 100000 in
set_option maxHeartbeats 2000000 in
theorem adrIKind (c : Cp) (k r b i s d m nx v : Int) (w : World) (hO : ∀ w, Calls Tryd.prog 33 #[.agg (cpV c)] w fun e w' => e = .returned (.bool true) ∧ Below w.heap.size w w') (hk : (k != 2) = true) :
    Calls Tryd.prog 17 #[.agg (cpV c), .agg #[.int .i64 k, .int .i64 r, .int .i64 b, .int .i64 i, .int .i64 s, .int .i64 d, .int .i64 m], .int .i64 nx] w fun e w' => e = .returned (.tuple #[.int .i64 0, .int .i64 1]) ∧ Below w.heap.size w w' := by
  have CO := Lib.hid hO
  clear hO
  have A0 := Lib.hid (AB.new w (cpV c) ⟨k, r, b, i, s, d, m⟩)
  have sz : (cpV c).size = 18 := rfl
  generalize cpV c = V at *
  have HS := Lib.hid sz
  clear sz
  have I18 := Lib.hid (show (Tryd.prog.info? 27).map (·.size) = some 18 by kernel_rfl)
  go_enter Tryd.func17, Tryd.ntmps17
  go_wp2_with (refine wpList_load_row rfl 27 (.tmp 3) rfl w.heap.size rfl 27 V (0, 0) _ A0.out.c Tryd.underlying27 rfl (by rw [HS.out]; exact I18.out) ?_)
  refine (CO.out _).mono ?_
  rintro e w1 ⟨rfl, hb1⟩
  have A1 := Lib.hid (A0.out.call hb1)
  clear hb1 A0
  obtain ⟨x0, x1, x2, x3, x4, x5, x6⟩ := A1.out.cells
  go_wp2
  go_ret2
  exact ⟨rfl, A1.out.be⟩
set_option maxRecDepth 100000 in
set_option maxHeartbeats 2000000 in
theorem adrIMem (c : Cp) (k r b i s d m nx v : Int) (w : World) (hO : ∀ w, Calls Tryd.prog 33 #[.agg (cpV c)] w fun e w' => e = .returned (.bool true) ∧ Below w.heap.size w w') (hk : (k != 2) = false) (hM : ∀ W, Below w.heap.size w W → Calls Tryd.prog 41 #[.agg #[.int .i64 k, .int .i64 r, .int .i64 b, .int .i64 i, .int .i64 s, .int .i64 d, .int .i64 m]] W fun e w' => e = .returned (.bool false) ∧ Below W.heap.size W w') :
    Calls Tryd.prog 17 #[.agg (cpV c), .agg #[.int .i64 k, .int .i64 r, .int .i64 b, .int .i64 i, .int .i64 s, .int .i64 d, .int .i64 m], .int .i64 nx] w fun e w' => e = .returned (.tuple #[.int .i64 0, .int .i64 1]) ∧ Below w.heap.size w w' := by
  have CO := Lib.hid hO; have CM := Lib.hid hM
  clear hO hM
  have A0 := Lib.hid (AB.new w (cpV c) ⟨k, r, b, i, s, d, m⟩)
  have sz : (cpV c).size = 18 := rfl
  generalize cpV c = V at *
  have HS := Lib.hid sz
  clear sz
  have I18 := Lib.hid (show (Tryd.prog.info? 27).map (·.size) = some 18 by kernel_rfl)
  go_enter Tryd.func17, Tryd.ntmps17
  go_wp2_with (refine wpList_load_row rfl 27 (.tmp 3) rfl w.heap.size rfl 27 V (0, 0) _ A0.out.c Tryd.underlying27 rfl (by rw [HS.out]; exact I18.out) ?_)
  refine (CO.out _).mono ?_
  rintro e w1 ⟨rfl, hb1⟩
  have A1 := Lib.hid (A0.out.call hb1)
  clear hb1 A0
  obtain ⟨x0, x1, x2, x3, x4, x5, x6⟩ := A1.out.cells
  go_wp2_with fail
  refine (CM.out _ A1.out.be).mono ?_
  rintro e w2 ⟨rfl, hb2⟩
  have A2 := Lib.hid (A1.out.call hb2)
  clear hb2 x0 x1 x2 x3 x4 x5 x6
  obtain ⟨x0, x1, x2, x3, x4, x5, x6⟩ := A2.out.cells
  go_wp2
  go_ret2
  exact ⟨rfl, A2.out.be⟩
set_option maxRecDepth 100000 in
set_option maxHeartbeats 2000000 in
theorem adrIYes (c : Cp) (k r b i s d m nx v : Int) (w : World) (hO : ∀ w, Calls Tryd.prog 33 #[.agg (cpV c)] w fun e w' => e = .returned (.bool true) ∧ Below w.heap.size w w') (hk : (k != 2) = false) (hM : ∀ W, Below w.heap.size w W → Calls Tryd.prog 41 #[.agg #[.int .i64 k, .int .i64 r, .int .i64 b, .int .i64 i, .int .i64 s, .int .i64 d, .int .i64 m]] W fun e w' => e = .returned (.bool true) ∧ Below W.heap.size W w') (hA : ∀ W g, Cpb W g (cpV c) → Calls Tryd.prog 42 #[.pointer (some ⟨g, 0, none⟩), .agg #[.int .i64 k, .int .i64 r, .int .i64 b, .int .i64 i, .int .i64 s, .int .i64 d, .int .i64 m], .int .i64 nx] W fun e w' => e = .returned (.int .i64 v) ∧ Below W.heap.size W w') :
    Calls Tryd.prog 17 #[.agg (cpV c), .agg #[.int .i64 k, .int .i64 r, .int .i64 b, .int .i64 i, .int .i64 s, .int .i64 d, .int .i64 m], .int .i64 nx] w fun e w' => e = .returned (.tuple #[.int .i64 v, .int .i64 0]) ∧ Below w.heap.size w w' := by
  have CO := Lib.hid hO; have CM := Lib.hid hM; have CA := Lib.hid hA
  clear hO hM hA
  have A0 := Lib.hid (AB.new w (cpV c) ⟨k, r, b, i, s, d, m⟩)
  have sz : (cpV c).size = 18 := rfl
  generalize cpV c = V at *
  have HS := Lib.hid sz
  clear sz
  have I18 := Lib.hid (show (Tryd.prog.info? 27).map (·.size) = some 18 by kernel_rfl)
  go_enter Tryd.func17, Tryd.ntmps17
  go_wp2_with (refine wpList_load_row rfl 27 (.tmp 3) rfl w.heap.size rfl 27 V (0, 0) _ A0.out.c Tryd.underlying27 rfl (by rw [HS.out]; exact I18.out) ?_)
  refine (CO.out _).mono ?_
  rintro e w1 ⟨rfl, hb1⟩
  have A1 := Lib.hid (A0.out.call hb1)
  clear hb1 A0
  obtain ⟨x0, x1, x2, x3, x4, x5, x6⟩ := A1.out.cells
  go_wp2_with fail
  refine (CM.out _ A1.out.be).mono ?_
  rintro e w2 ⟨rfl, hb2⟩
  have A2 := Lib.hid (A1.out.call hb2)
  clear hb2 x0 x1 x2 x3 x4 x5 x6
  obtain ⟨x0, x1, x2, x3, x4, x5, x6⟩ := A2.out.cells
  go_wp2_with fail
  refine (CA.out _ _ A2.out.c).mono ?_
  rintro e w3 ⟨rfl, hb3⟩
  have A3 := Lib.hid (A2.out.call hb3)
  clear hb3
  go_wp2
  go_ret2
  exact ⟨rfl, A3.out.be⟩
set_option maxRecDepth 100000 in
set_option maxHeartbeats 2000000 in
theorem adrSCpu (c : Cp) (k r b i s d m nx v : Int) (w : World) (hO : ∀ w, Calls Tryd.prog 29 #[.agg (cpV c)] w fun e w' => e = .returned (.bool false) ∧ Below w.heap.size w w') :
    Calls Tryd.prog 15 #[.agg (cpV c), .agg #[.int .i64 k, .int .i64 r, .int .i64 b, .int .i64 i, .int .i64 s, .int .i64 d, .int .i64 m], .int .i64 nx] w fun e w' => e = .returned (.tuple #[.int .i64 0, .int .i64 1]) ∧ Below w.heap.size w w' := by
  have CO := Lib.hid hO
  clear hO
  have A0 := Lib.hid (AB.new w (cpV c) ⟨k, r, b, i, s, d, m⟩)
  have sz : (cpV c).size = 18 := rfl
  generalize cpV c = V at *
  have HS := Lib.hid sz
  clear sz
  have I18 := Lib.hid (show (Tryd.prog.info? 27).map (·.size) = some 18 by kernel_rfl)
  go_enter Tryd.func15, Tryd.ntmps15
  go_wp2_with (refine wpList_load_row rfl 27 (.tmp 3) rfl w.heap.size rfl 27 V (0, 0) _ A0.out.c Tryd.underlying27 rfl (by rw [HS.out]; exact I18.out) ?_)
  refine (CO.out _).mono ?_
  rintro e w1 ⟨rfl, hb1⟩
  have A1 := Lib.hid (A0.out.call hb1)
  clear hb1 A0
  obtain ⟨x0, x1, x2, x3, x4, x5, x6⟩ := A1.out.cells
  go_wp2
  go_ret2
  exact ⟨rfl, A1.out.be⟩
set_option maxRecDepth 100000 in
set_option maxHeartbeats 2000000 in
theorem adrSKind (c : Cp) (k r b i s d m nx v : Int) (w : World) (hO : ∀ w, Calls Tryd.prog 29 #[.agg (cpV c)] w fun e w' => e = .returned (.bool true) ∧ Below w.heap.size w w') (hk : (k != 2) = true) :
    Calls Tryd.prog 15 #[.agg (cpV c), .agg #[.int .i64 k, .int .i64 r, .int .i64 b, .int .i64 i, .int .i64 s, .int .i64 d, .int .i64 m], .int .i64 nx] w fun e w' => e = .returned (.tuple #[.int .i64 0, .int .i64 1]) ∧ Below w.heap.size w w' := by
  have CO := Lib.hid hO
  clear hO
  have A0 := Lib.hid (AB.new w (cpV c) ⟨k, r, b, i, s, d, m⟩)
  have sz : (cpV c).size = 18 := rfl
  generalize cpV c = V at *
  have HS := Lib.hid sz
  clear sz
  have I18 := Lib.hid (show (Tryd.prog.info? 27).map (·.size) = some 18 by kernel_rfl)
  go_enter Tryd.func15, Tryd.ntmps15
  go_wp2_with (refine wpList_load_row rfl 27 (.tmp 3) rfl w.heap.size rfl 27 V (0, 0) _ A0.out.c Tryd.underlying27 rfl (by rw [HS.out]; exact I18.out) ?_)
  refine (CO.out _).mono ?_
  rintro e w1 ⟨rfl, hb1⟩
  have A1 := Lib.hid (A0.out.call hb1)
  clear hb1 A0
  obtain ⟨x0, x1, x2, x3, x4, x5, x6⟩ := A1.out.cells
  go_wp2
  go_ret2
  exact ⟨rfl, A1.out.be⟩
set_option maxRecDepth 100000 in
set_option maxHeartbeats 2000000 in
theorem adrSMem (c : Cp) (k r b i s d m nx v : Int) (w : World) (hO : ∀ w, Calls Tryd.prog 29 #[.agg (cpV c)] w fun e w' => e = .returned (.bool true) ∧ Below w.heap.size w w') (hk : (k != 2) = false) (hM : ∀ W, Below w.heap.size w W → Calls Tryd.prog 39 #[.agg #[.int .i64 k, .int .i64 r, .int .i64 b, .int .i64 i, .int .i64 s, .int .i64 d, .int .i64 m], .int .i64 8] W fun e w' => e = .returned (.bool false) ∧ Below W.heap.size W w') :
    Calls Tryd.prog 15 #[.agg (cpV c), .agg #[.int .i64 k, .int .i64 r, .int .i64 b, .int .i64 i, .int .i64 s, .int .i64 d, .int .i64 m], .int .i64 nx] w fun e w' => e = .returned (.tuple #[.int .i64 0, .int .i64 1]) ∧ Below w.heap.size w w' := by
  have CO := Lib.hid hO; have CM := Lib.hid hM
  clear hO hM
  have A0 := Lib.hid (AB.new w (cpV c) ⟨k, r, b, i, s, d, m⟩)
  have sz : (cpV c).size = 18 := rfl
  generalize cpV c = V at *
  have HS := Lib.hid sz
  clear sz
  have I18 := Lib.hid (show (Tryd.prog.info? 27).map (·.size) = some 18 by kernel_rfl)
  go_enter Tryd.func15, Tryd.ntmps15
  go_wp2_with (refine wpList_load_row rfl 27 (.tmp 3) rfl w.heap.size rfl 27 V (0, 0) _ A0.out.c Tryd.underlying27 rfl (by rw [HS.out]; exact I18.out) ?_)
  refine (CO.out _).mono ?_
  rintro e w1 ⟨rfl, hb1⟩
  have A1 := Lib.hid (A0.out.call hb1)
  clear hb1 A0
  obtain ⟨x0, x1, x2, x3, x4, x5, x6⟩ := A1.out.cells
  go_wp2_with fail
  refine (CM.out _ A1.out.be).mono ?_
  rintro e w2 ⟨rfl, hb2⟩
  have A2 := Lib.hid (A1.out.call hb2)
  clear hb2 x0 x1 x2 x3 x4 x5 x6
  obtain ⟨x0, x1, x2, x3, x4, x5, x6⟩ := A2.out.cells
  go_wp2
  go_ret2
  exact ⟨rfl, A2.out.be⟩
set_option maxRecDepth 100000 in
set_option maxHeartbeats 2000000 in
theorem adrSYes (c : Cp) (k r b i s d m nx v : Int) (w : World) (hO : ∀ w, Calls Tryd.prog 29 #[.agg (cpV c)] w fun e w' => e = .returned (.bool true) ∧ Below w.heap.size w w') (hk : (k != 2) = false) (hM : ∀ W, Below w.heap.size w W → Calls Tryd.prog 39 #[.agg #[.int .i64 k, .int .i64 r, .int .i64 b, .int .i64 i, .int .i64 s, .int .i64 d, .int .i64 m], .int .i64 8] W fun e w' => e = .returned (.bool true) ∧ Below W.heap.size W w') (hA : ∀ W, Calls Tryd.prog 40 #[.agg (cpV c), .agg #[.int .i64 k, .int .i64 r, .int .i64 b, .int .i64 i, .int .i64 s, .int .i64 d, .int .i64 m], .int .i64 nx] W fun e w' => e = .returned (.int .i64 v) ∧ Below W.heap.size W w') :
    Calls Tryd.prog 15 #[.agg (cpV c), .agg #[.int .i64 k, .int .i64 r, .int .i64 b, .int .i64 i, .int .i64 s, .int .i64 d, .int .i64 m], .int .i64 nx] w fun e w' => e = .returned (.tuple #[.int .i64 v, .int .i64 0]) ∧ Below w.heap.size w w' := by
  have CO := Lib.hid hO; have CM := Lib.hid hM; have CA := Lib.hid hA
  clear hO hM hA
  have A0 := Lib.hid (AB.new w (cpV c) ⟨k, r, b, i, s, d, m⟩)
  have sz : (cpV c).size = 18 := rfl
  generalize cpV c = V at *
  have HS := Lib.hid sz
  clear sz
  have I18 := Lib.hid (show (Tryd.prog.info? 27).map (·.size) = some 18 by kernel_rfl)
  go_enter Tryd.func15, Tryd.ntmps15
  go_wp2_with (refine wpList_load_row rfl 27 (.tmp 3) rfl w.heap.size rfl 27 V (0, 0) _ A0.out.c Tryd.underlying27 rfl (by rw [HS.out]; exact I18.out) ?_)
  refine (CO.out _).mono ?_
  rintro e w1 ⟨rfl, hb1⟩
  have A1 := Lib.hid (A0.out.call hb1)
  clear hb1 A0
  obtain ⟨x0, x1, x2, x3, x4, x5, x6⟩ := A1.out.cells
  go_wp2_with fail
  refine (CM.out _ A1.out.be).mono ?_
  rintro e w2 ⟨rfl, hb2⟩
  have A2 := Lib.hid (A1.out.call hb2)
  clear hb2 x0 x1 x2 x3 x4 x5 x6
  obtain ⟨x0, x1, x2, x3, x4, x5, x6⟩ := A2.out.cells
  go_wp2_with (refine wpList_load_row rfl 27 (.tmp 3) rfl w.heap.size rfl 27 V (0, 0) _ A2.out.c Tryd.underlying27 rfl (by rw [HS.out]; exact I18.out) ?_)
  refine (CA.out _).mono ?_
  rintro e w3 ⟨rfl, hb3⟩
  have A3 := Lib.hid (A2.out.call hb3)
  clear hb3
  go_wp2
  go_ret2
  exact ⟨rfl, A3.out.be⟩
/-- the address: both reckon alike -/
theorem adrBoth (c : Cp) (x : Opd) (nx : Int) (h : MemOk' x) :
    (∀ W g, Cpb W g (cpV c) → Calls Tryd.prog 42 #[.pointer (some ⟨g, 0, none⟩), .agg #[.int .i64 x.k, .int .i64 x.r, .int .i64 x.b, .int .i64 x.i, .int .i64 x.s, .int .i64 x.d, .int .i64 x.m], .int .i64 nx] W fun e w' => e = .returned (.int .i64 (addrN c x nx)) ∧ Below W.heap.size W w') ∧
    (∀ W, Calls Tryd.prog 40 #[.agg (cpV c), .agg #[.int .i64 x.k, .int .i64 x.r, .int .i64 x.b, .int .i64 x.i, .int .i64 x.s, .int .i64 x.d, .int .i64 x.m], .int .i64 nx] W fun e w' => e = .returned (.int .i64 (addrN c x nx)) ∧ Below W.heap.size W w') := by
  obtain ⟨k, r, b, i, s, d, m⟩ := x
  obtain ⟨_, _, hb, hi, _⟩ := h
  simp only at hb hi ⊢
  by_cases hbn : b = -1
  · subst hbn
    have e : baseN c (-1) d nx = d := by unfold baseN; rw [if_pos rfl]
    by_cases hin : i = -1
    · subst hin
      have e2 : addrN c ⟨k, r, -1, -1, s, d, m⟩ nx = d := by unfold addrN; rw [if_pos rfl, e]
      rw [e2]
      exact ⟨fun W g hg => addrINN c k r s d m nx W g hg, fun W => addrSNN c k r s d m nx W⟩
    · obtain ⟨j, rfl⟩ := Int.eq_ofNat_of_zero_le (show 0 ≤ i by omega)
      have e2 : addrN c ⟨k, r, -1, (j : Int), s, d, m⟩ nx = wrap64 (d + wrap64 (c.rs j * s)) := by unfold addrN; rw [if_neg hin, e]; rfl
      rw [e2]
      exact ⟨fun W g hg => addrINY c k r s d m nx j (by omega) W g hg, fun W => addrSNY c k r s d m nx j (by omega) W⟩
  · by_cases hb16 : b = 16
    · subst hb16
      have e : baseN c 16 d nx = wrap64 (d + nx) := by unfold baseN; rw [if_neg (by decide), if_pos rfl]
      by_cases hin : i = -1
      · subst hin
        have e2 : addrN c ⟨k, r, 16, -1, s, d, m⟩ nx = wrap64 (d + nx) := by unfold addrN; rw [if_pos rfl, e]
        rw [e2]
        exact ⟨fun W g hg => addrIPN c k r s d m nx W g hg, fun W => addrSPN c k r s d m nx W⟩
      · obtain ⟨j, rfl⟩ := Int.eq_ofNat_of_zero_le (show 0 ≤ i by omega)
        have e2 : addrN c ⟨k, r, 16, (j : Int), s, d, m⟩ nx = wrap64 (wrap64 (d + nx) + wrap64 (c.rs j * s)) := by unfold addrN; rw [if_neg hin, e]; rfl
        rw [e2]
        exact ⟨fun W g hg => addrIPY c k r s d m nx j (by omega) W g hg, fun W => addrSPY c k r s d m nx j (by omega) W⟩
    · obtain ⟨q, rfl⟩ := Int.eq_ofNat_of_zero_le (show 0 ≤ b by omega)
      have e : baseN c (q : Int) d nx = wrap64 (d + c.rs q) := by unfold baseN; rw [if_neg hbn, if_neg hb16]; rfl
      by_cases hin : i = -1
      · subst hin
        have e2 : addrN c ⟨k, r, (q : Int), -1, s, d, m⟩ nx = wrap64 (d + c.rs q) := by unfold addrN; rw [if_pos rfl, e]
        rw [e2]
        exact ⟨fun W g hg => addrIRN c k r s d m nx q (by omega) W g hg, fun W => addrSRN c k r s d m nx q (by omega) W⟩
      · obtain ⟨j, rfl⟩ := Int.eq_ofNat_of_zero_le (show 0 ≤ i by omega)
        have e2 : addrN c ⟨k, r, (q : Int), (j : Int), s, d, m⟩ nx = wrap64 (wrap64 (d + c.rs q) + wrap64 (c.rs j * s)) := by unfold addrN; rw [if_neg hin, e]; rfl
        rw [e2]
        exact ⟨fun W g hg => addrIRY c k r s d m nx q (by omega) j (by omega) W g hg, fun W => addrSRY c k r s d m nx q (by omega) j (by omega) W⟩
end Go.Proofs.YtbcbepdfijcbmaaDoor
