/-
  What impl.Divide does of numbers that it takes, told by the contracts of its helpers; conditions: those in each head.
-/
import Derived.Test.YtbcbepdfijcbmaaDoorWalkDw3
import Derived.Test.YtbcbepdfijcbmaaDoorWalkFlW
namespace Go.Proofs.YtbcbepdfijcbmaaDoor
open Go.RowKit Go.Sort
set_option linter.unusedVariables false
set_option maxHeartbeats 400000 in
theorem isOpYesD (op : Int) (w : World) (h1 : 1 ≤ op) (h2 : op ≤ 44) : Calls Tryd.prog 53 #[.int .i64 op] w fun e w' => e = .returned (.bool true) ∧ w = w' := by
  go_enter Tryd.func53, Tryd.ntmps53
  go_wp2
  go_ret
  exact ⟨rfl, rfl⟩
set_option maxRecDepth 100000 in
theorem eqNoD (g : Fn) (l c : Array Value) (w : World) : (binOp .eql 79 (.func g l c) .nilFunc).run Tryd.prog w = .ok (.bool false) w := by kernel_rfl
set_option maxRecDepth 100000 in
theorem eqYesD (w : World) : (binOp .eql 79 .nilFunc .nilFunc).run Tryd.prog w = .ok (.bool true) w := by kernel_rfl
def divRow : Array Value := #[.nilFunc, .nilFunc, .nilFunc, .nilFunc, .nilFunc, .nilFunc, .nilFunc, .nilFunc, .nilFunc, .nilFunc, .nilFunc, .nilFunc, .nilFunc, .nilFunc, .nilFunc, .func (.func 51) #[] #[], .func (.func 52) #[] #[], .nilFunc, .nilFunc, .nilFunc, .nilFunc, .nilFunc, .nilFunc, .nilFunc, .nilFunc, .nilFunc, .nilFunc, .nilFunc, .nilFunc, .nilFunc, .nilFunc, .nilFunc, .nilFunc, .nilFunc, .nilFunc, .nilFunc, .nilFunc, .nilFunc, .nilFunc, .nilFunc, .nilFunc, .nilFunc, .nilFunc, .nilFunc, .nilFunc]
theorem divRow_w (w : World) : ((w.alloc (.cells #[.nilFunc, .nilFunc, .nilFunc, .nilFunc, .nilFunc, .nilFunc, .nilFunc, .nilFunc, .nilFunc, .nilFunc, .nilFunc, .nilFunc, .nilFunc, .nilFunc, .nilFunc, .nilFunc, .nilFunc, .nilFunc, .nilFunc, .nilFunc, .nilFunc, .nilFunc, .nilFunc, .nilFunc, .nilFunc, .nilFunc, .nilFunc, .nilFunc, .nilFunc, .nilFunc, .nilFunc, .nilFunc, .nilFunc, .nilFunc, .nilFunc, .nilFunc, .nilFunc, .nilFunc, .nilFunc, .nilFunc, .nilFunc, .nilFunc, .nilFunc, .nilFunc, .nilFunc] 80)).setRow w.heap.size #[.nilFunc, .nilFunc, .nilFunc, .nilFunc, .nilFunc, .nilFunc, .nilFunc, .nilFunc, .nilFunc, .nilFunc, .nilFunc, .nilFunc, .nilFunc, .nilFunc, .nilFunc, .func (.func 51) #[] #[], .func (.func 52) #[] #[], .nilFunc, .nilFunc, .nilFunc, .nilFunc, .nilFunc, .nilFunc, .nilFunc, .nilFunc, .nilFunc, .nilFunc, .nilFunc, .nilFunc, .nilFunc, .nilFunc, .nilFunc, .nilFunc, .nilFunc, .nilFunc, .nilFunc, .nilFunc, .nilFunc, .nilFunc, .nilFunc, .nilFunc, .nilFunc, .nilFunc, .nilFunc, .nilFunc]).heap[w.heap.size]? = some (.cells divRow 80 (0, 0)) := setRow_heap _ _ _ _ _ _ (heap_alloc_new w _)
theorem divRow_b (w : World) : Below w.heap.size w ((w.alloc (.cells #[.nilFunc, .nilFunc, .nilFunc, .nilFunc, .nilFunc, .nilFunc, .nilFunc, .nilFunc, .nilFunc, .nilFunc, .nilFunc, .nilFunc, .nilFunc, .nilFunc, .nilFunc, .nilFunc, .nilFunc, .nilFunc, .nilFunc, .nilFunc, .nilFunc, .nilFunc, .nilFunc, .nilFunc, .nilFunc, .nilFunc, .nilFunc, .nilFunc, .nilFunc, .nilFunc, .nilFunc, .nilFunc, .nilFunc, .nilFunc, .nilFunc, .nilFunc, .nilFunc, .nilFunc, .nilFunc, .nilFunc, .nilFunc, .nilFunc, .nilFunc, .nilFunc, .nilFunc] 80)).setRow w.heap.size #[.nilFunc, .nilFunc, .nilFunc, .nilFunc, .nilFunc, .nilFunc, .nilFunc, .nilFunc, .nilFunc, .nilFunc, .nilFunc, .nilFunc, .nilFunc, .nilFunc, .nilFunc, .func (.func 51) #[] #[], .func (.func 52) #[] #[], .nilFunc, .nilFunc, .nilFunc, .nilFunc, .nilFunc, .nilFunc, .nilFunc, .nilFunc, .nilFunc, .nilFunc, .nilFunc, .nilFunc, .nilFunc, .nilFunc, .nilFunc, .nilFunc, .nilFunc, .nilFunc, .nilFunc, .nilFunc, .nilFunc, .nilFunc, .nilFunc, .nilFunc, .nilFunc, .nilFunc, .nilFunc, .nilFunc]) := Go.below_setRow ((Below.refl _ _).alloc (Nat.le_refl _) _) (Nat.le_refl _) _
theorem fieldH (h l : Int) (w : World) : (Instr.field 82 (.agg #[.int .i64 h, .int .i64 l]) 0).run Tryd.prog w = .ok (.int .i64 h) w := by kernel_rfl
def Two (W : World) (b : Nat) : Prop := ∃ x y : Int, W.heap[b]? = some (.cells #[.int .i64 x, .int .i64 y] 82 (0, 0))
theorem Two.call {W W' : World} (h : Below W.heap.size W W') : ∀ b, Two W b → Two W' b := fun b ⟨x, y, e⟩ => ⟨x, y, (h.block _ (lt_of_blk e)).trans e⟩
theorem Two.drew {W : World} {b : Nat} (h : Two W b) : Two W.drew b := h
theorem Two.new (W : World) : Two (W.alloc (.cells #[.int .i64 0, .int .i64 0] 82)) W.heap.size := ⟨0, 0, heap_alloc_new W _⟩
theorem Two.store {W : World} {b : Nat} (h : Two W b) (p q : Int) : (Instr.storeAt 82 (.pointer (some ⟨b, 0, none⟩)) (.agg #[.int .i64 p, .int .i64 q])).run Tryd.prog W = .ok () (W.setRow b #[.int .i64 p, .int .i64 q]) := by
  obtain ⟨x, y, hx⟩ := h
  simp only [Instr.storeAt, Instr.sureAddr, Sem.run_bind, Sem.run_pure, Result.andThen_ok]
  exact run_storeVar_row W b 82 82 _ _ hx (by kernel_rfl) rfl (by kernel_rfl)
theorem rowOf {B b : Nat} {w u : World} {p q : Int} (h : Below B w (u.setRow b #[.int .i64 p, .int .i64 q])) (t : Two u b) : (u.setRow b #[.int .i64 p, .int .i64 q]).heap[b]? = some (.cells #[.int .i64 p, .int .i64 q] 82 (0, 0)) := by
  obtain ⟨x, y, hx⟩ := t
  exact setRow_heap _ _ _ _ _ _ hx
theorem rowOn {W W' : World} {b : Nat} {cs : Array Value} {t : TypeId} (h : W.heap[b]? = some (.cells cs t (0, 0))) (hb : Below W.heap.size W W') : W'.heap[b]? = some (.cells cs t (0, 0)) := (hb.block _ (lt_of_blk h)).trans h
def SD (w : World) (i : Nat) (F : Value) (W : World) : Prop := W.cell? ⟨w.heap.size, i, none⟩ = some F ∧ Below w.heap.size w W
theorem SD.call {w W W' : World} {i : Nat} {F : Value} (h : SD w i F W) (hb : Below W.heap.size W W') : SD w i F W' := ⟨(hb.cell (p := ⟨w.heap.size, i, none⟩) (lt_of_cell h.1)).trans h.1, h.2.trans (hb.mono h.2.size)⟩
theorem SD.drew {w W : World} {i : Nat} {F : Value} (h : SD w i F W) : SD w i F W.drew := ⟨h.1, h.2.drew⟩
theorem SD.alloc {w W : World} {i : Nat} {F : Value} (h : SD w i F W) (o : Obj) : SD w i F (W.alloc o) := h.call ((Below.refl _ _).alloc (Nat.le_refl _) _)
theorem SD.lt {w W : World} {i : Nat} {F : Value} (h : SD w i F W) : w.heap.size < W.heap.size := lt_of_cell h.1
theorem SD.row {w W : World} {i b : Nat} {F : Value} (h : SD w i F W) (hb : w.heap.size < b) (cs : Array Value) : SD w i F (W.setRow b cs) := ⟨(cell_setRow_other _ _ _ _ (by simp; omega)).trans h.1, Go.below_setRow h.2 (by omega) _⟩
theorem divRow_nil (i : Nat) (h : i < 45) (h5 : i ≠ 15) (h6 : i ≠ 16) : divRow[i]? = some .nilFunc := by
  rcases (by omega : i = 0 ∨ i = 1 ∨ i = 2 ∨ i = 3 ∨ i = 4 ∨ i = 5 ∨ i = 6 ∨ i = 7 ∨ i = 8 ∨ i = 9 ∨ i = 10 ∨ i = 11 ∨ i = 12 ∨ i = 13 ∨ i = 14 ∨ i = 17 ∨ i = 18 ∨ i = 19 ∨ i = 20 ∨ i = 21 ∨ i = 22 ∨ i = 23 ∨ i = 24 ∨ i = 25 ∨ i = 26 ∨ i = 27 ∨ i = 28 ∨ i = 29 ∨ i = 30 ∨ i = 31 ∨ i = 32 ∨ i = 33 ∨ i = 34 ∨ i = 35 ∨ i = 36 ∨ i = 37 ∨ i = 38 ∨ i = 39 ∨ i = 40 ∨ i = 41 ∨ i = 42 ∨ i = 43 ∨ i = 44) with rfl | rfl | rfl | rfl | rfl | rfl | rfl | rfl | rfl | rfl | rfl | rfl | rfl | rfl | rfl | rfl | rfl | rfl | rfl | rfl | rfl | rfl | rfl | rfl | rfl | rfl | rfl | rfl | rfl | rfl | rfl | rfl | rfl | rfl | rfl | rfl | rfl | rfl | rfl | rfl | rfl | rfl | rfl
  all_goals rfl
set_option maxHeartbeats 400000 in
theorem isOpNoD (op : Int) (w : World) (h : ¬ (1 ≤ op ∧ op ≤ 44)) : Calls Tryd.prog 53 #[.int .i64 op] w fun e w' => e = .returned (.bool false) ∧ w = w' := by
  by_cases h1 : 1 ≤ op
  · have h2 : decide (op ≤ 44) = false := decide_eq_false (by omega)
    clear h
    go_enter Tryd.func53, Tryd.ntmps53
    go_wp2
    go_ret
    exact ⟨rfl, rfl⟩
  · have h2 : decide (1 ≤ op) = false := decide_eq_false h1
    clear h h1
    go_enter Tryd.func53, Tryd.ntmps53
    go_wp2
    go_ret
    exact ⟨rfl, rfl⟩
set_option maxRecDepth 100000 in
set_option maxHeartbeats 2000000 in
theorem DivIOp (op n h l d : Int) (hn : okSize n) (h5 : op ≠ 15) (h6 : op ≠ 16) (w : World) :
    Calls Tryd.prog 24 #[.int .i64 op, .int .i64 n, .int .i64 h, .int .i64 l, .int .i64 d] w fun e w' => e = .returned (.tuple #[.int .i64 0, .int .i64 0, .int .i64 11]) ∧ Below w.heap.size w w' := by
  have CZ := Lib.hid (fun w => checkYesF n w hn)
  have HG := Lib.hid (heap_alloc_new w (.cells #[.nilFunc, .nilFunc, .nilFunc, .nilFunc, .nilFunc, .nilFunc, .nilFunc, .nilFunc, .nilFunc, .nilFunc, .nilFunc, .nilFunc, .nilFunc, .nilFunc, .nilFunc, .nilFunc, .nilFunc, .nilFunc, .nilFunc, .nilFunc, .nilFunc, .nilFunc, .nilFunc, .nilFunc, .nilFunc, .nilFunc, .nilFunc, .nilFunc, .nilFunc, .nilFunc, .nilFunc, .nilFunc, .nilFunc, .nilFunc, .nilFunc, .nilFunc, .nilFunc, .nilFunc, .nilFunc, .nilFunc, .nilFunc, .nilFunc, .nilFunc, .nilFunc, .nilFunc] 80))
  have HW := Lib.hid (divRow_w w); have B9 := Lib.hid (divRow_b w)
  by_cases ho : 1 ≤ op ∧ op ≤ 44
  · have CO := Lib.hid (fun w => isOpYesD op w ho.1 ho.2)
    have o1 := ho.1; have o2 := ho.2
    clear hn ho
    go_enter Tryd.func24, Tryd.ntmps24
    go_wp2_with fail
    refine (CZ.out _).mono ?_
    rintro e w1 ⟨rfl, rfl⟩
    go_wp2_with (refine wpList_store_row rfl 80 (.tmp 13) (.tmp 21) rfl w.heap.size #[.nilFunc, .nilFunc, .nilFunc, .nilFunc, .nilFunc, .nilFunc, .nilFunc, .nilFunc, .nilFunc, .nilFunc, .nilFunc, .nilFunc, .nilFunc, .nilFunc, .nilFunc, .func (.func 51) #[] #[], .func (.func 52) #[] #[], .nilFunc, .nilFunc, .nilFunc, .nilFunc, .nilFunc, .nilFunc, .nilFunc, .nilFunc, .nilFunc, .nilFunc, .nilFunc, .nilFunc, .nilFunc, .nilFunc, .nilFunc, .nilFunc, .nilFunc, .nilFunc, .nilFunc, .nilFunc, .nilFunc, .nilFunc, .nilFunc, .nilFunc, .nilFunc, .nilFunc, .nilFunc, .nilFunc] rfl rfl 80 _ HG.out (by kernel_rfl) rfl (by simp [Value.oneCell']) ?_; generalize hW9 : (w.alloc (.cells #[.nilFunc, .nilFunc, .nilFunc, .nilFunc, .nilFunc, .nilFunc, .nilFunc, .nilFunc, .nilFunc, .nilFunc, .nilFunc, .nilFunc, .nilFunc, .nilFunc, .nilFunc, .nilFunc, .nilFunc, .nilFunc, .nilFunc, .nilFunc, .nilFunc, .nilFunc, .nilFunc, .nilFunc, .nilFunc, .nilFunc, .nilFunc, .nilFunc, .nilFunc, .nilFunc, .nilFunc, .nilFunc, .nilFunc, .nilFunc, .nilFunc, .nilFunc, .nilFunc, .nilFunc, .nilFunc, .nilFunc, .nilFunc, .nilFunc, .nilFunc, .nilFunc, .nilFunc] 80)).setRow w.heap.size #[.nilFunc, .nilFunc, .nilFunc, .nilFunc, .nilFunc, .nilFunc, .nilFunc, .nilFunc, .nilFunc, .nilFunc, .nilFunc, .nilFunc, .nilFunc, .nilFunc, .nilFunc, .func (.func 51) #[] #[], .func (.func 52) #[] #[], .nilFunc, .nilFunc, .nilFunc, .nilFunc, .nilFunc, .nilFunc, .nilFunc, .nilFunc, .nilFunc, .nilFunc, .nilFunc, .nilFunc, .nilFunc, .nilFunc, .nilFunc, .nilFunc, .nilFunc, .nilFunc, .nilFunc, .nilFunc, .nilFunc, .nilFunc, .nilFunc, .nilFunc, .nilFunc, .nilFunc, .nilFunc, .nilFunc] = W9 at *; clear hW9)
    clear HG
    have hc := (cell_of_row _ _ op.toNat _ _ _ HW.out).trans (divRow_nil op.toNat (by omega) (by omega) (by omega))
    have KE := eqYesD
    refine (CO.out _).mono ?_
    rintro e w2 ⟨rfl, rfl⟩
    go_wp2
    go_ret3
    exact ⟨rfl, B9.out⟩
  · have CO := Lib.hid (fun w => isOpNoD op w ho)
    clear hn ho
    go_enter Tryd.func24, Tryd.ntmps24
    go_wp2_with fail
    refine (CZ.out _).mono ?_
    rintro e w1 ⟨rfl, rfl⟩
    go_wp2_with (refine wpList_store_row rfl 80 (.tmp 13) (.tmp 21) rfl w.heap.size #[.nilFunc, .nilFunc, .nilFunc, .nilFunc, .nilFunc, .nilFunc, .nilFunc, .nilFunc, .nilFunc, .nilFunc, .nilFunc, .nilFunc, .nilFunc, .nilFunc, .nilFunc, .func (.func 51) #[] #[], .func (.func 52) #[] #[], .nilFunc, .nilFunc, .nilFunc, .nilFunc, .nilFunc, .nilFunc, .nilFunc, .nilFunc, .nilFunc, .nilFunc, .nilFunc, .nilFunc, .nilFunc, .nilFunc, .nilFunc, .nilFunc, .nilFunc, .nilFunc, .nilFunc, .nilFunc, .nilFunc, .nilFunc, .nilFunc, .nilFunc, .nilFunc, .nilFunc, .nilFunc, .nilFunc] rfl rfl 80 _ HG.out (by kernel_rfl) rfl (by simp [Value.oneCell']) ?_; generalize hW9 : (w.alloc (.cells #[.nilFunc, .nilFunc, .nilFunc, .nilFunc, .nilFunc, .nilFunc, .nilFunc, .nilFunc, .nilFunc, .nilFunc, .nilFunc, .nilFunc, .nilFunc, .nilFunc, .nilFunc, .nilFunc, .nilFunc, .nilFunc, .nilFunc, .nilFunc, .nilFunc, .nilFunc, .nilFunc, .nilFunc, .nilFunc, .nilFunc, .nilFunc, .nilFunc, .nilFunc, .nilFunc, .nilFunc, .nilFunc, .nilFunc, .nilFunc, .nilFunc, .nilFunc, .nilFunc, .nilFunc, .nilFunc, .nilFunc, .nilFunc, .nilFunc, .nilFunc, .nilFunc, .nilFunc] 80)).setRow w.heap.size #[.nilFunc, .nilFunc, .nilFunc, .nilFunc, .nilFunc, .nilFunc, .nilFunc, .nilFunc, .nilFunc, .nilFunc, .nilFunc, .nilFunc, .nilFunc, .nilFunc, .nilFunc, .func (.func 51) #[] #[], .func (.func 52) #[] #[], .nilFunc, .nilFunc, .nilFunc, .nilFunc, .nilFunc, .nilFunc, .nilFunc, .nilFunc, .nilFunc, .nilFunc, .nilFunc, .nilFunc, .nilFunc, .nilFunc, .nilFunc, .nilFunc, .nilFunc, .nilFunc, .nilFunc, .nilFunc, .nilFunc, .nilFunc, .nilFunc, .nilFunc, .nilFunc, .nilFunc, .nilFunc, .nilFunc] = W9 at *; clear hW9)
    clear HG
    refine (CO.out _).mono ?_
    rintro e w2 ⟨rfl, rfl⟩
    go_wp2
    go_ret3
    exact ⟨rfl, B9.out⟩
set_option maxHeartbeats 1000000 in
theorem DivIBad (op n h l d : Int) (w : World) (aR : Addr) (hs : SentF w aR) (hn : ¬ okSize n) :
    Calls Tryd.prog 24 #[.int .i64 op, .int .i64 n, .int .i64 h, .int .i64 l, .int .i64 d] w fun e w' => e = .returned (.tuple #[.int .i64 0, .int .i64 0, .int .i64 4]) ∧ w = w' := by
  have hz := checkNoF n w aR hs hn
  unfold bErr at hz
  have CZ := Lib.hid hz
  clear hn hz hs
  go_enter Tryd.func24, Tryd.ntmps24
  go_wp2_with fail
  refine (CZ.out).mono ?_
  rintro e w1 ⟨rfl, rfl⟩
  go_wp2
  go_ret3
  exact ⟨rfl, rfl⟩
set_option maxHeartbeats 1000000 in
theorem DivSBad (op n h l d : Int) (w : World) (hn : ¬ okSize n) :
    Calls Tryd.prog 23 #[.int .i64 op, .int .i64 n, .int .i64 h, .int .i64 l, .int .i64 d] w fun e w' => e = .returned (.tuple #[.int .i64 0, .int .i64 0, .int .i64 4]) ∧ w = w' := by
  have CZ := Lib.hid (fun w => sizeNo n w hn)
  clear hn
  go_enter Tryd.func23, Tryd.ntmps23
  go_wp2_with fail
  refine (CZ.out _).mono ?_
  rintro e w1 ⟨rfl, rfl⟩
  go_wp2
  go_ret3
  exact ⟨rfl, rfl⟩
set_option maxHeartbeats 1000000 in
theorem DivSOp (op n h l d : Int) (w : World) (hn : okSize n) (h5 : op ≠ 15) (h6 : op ≠ 16) :
    Calls Tryd.prog 23 #[.int .i64 op, .int .i64 n, .int .i64 h, .int .i64 l, .int .i64 d] w fun e w' => e = .returned (.tuple #[.int .i64 0, .int .i64 0, .int .i64 11]) ∧ w = w' := by
  have CZ := Lib.hid (fun w => sizeYes n w hn)
  have n1 : (op != 15) = true := bne_iff_ne.mpr h5
  have n2 : (op != 16) = true := bne_iff_ne.mpr h6
  clear hn h5 h6
  go_enter Tryd.func23, Tryd.ntmps23
  go_wp2_with fail
  refine (CZ.out _).mono ?_
  rintro e w1 ⟨rfl, rfl⟩
  go_wp2
  go_ret3
  exact ⟨rfl, rfl⟩
set_option maxHeartbeats 1000000 in
theorem DivS15Y (n h l d q r : Int) (hn : okSize n) (hD : ∀ w, Calls Tryd.prog 49 #[.int .i64 15, .int .i64 n, .int .i64 h, .int .i64 l, .int .i64 d] w fun e w' => e = .returned (.tuple #[.int .i64 q, .int .i64 r, .bool true]) ∧ w = w') (w : World) :
    Calls Tryd.prog 23 #[.int .i64 15, .int .i64 n, .int .i64 h, .int .i64 l, .int .i64 d] w fun e w' => e = .returned (.tuple #[.int .i64 q, .int .i64 r, .int .i64 0]) ∧ w = w' := by
  have CZ := Lib.hid (fun w => sizeYes n w hn)
  have CD := Lib.hid hD
  clear hn hD
  go_enter Tryd.func23, Tryd.ntmps23
  go_wp2_with fail
  refine (CZ.out _).mono ?_
  rintro e w1 ⟨rfl, rfl⟩
  go_wp2_with fail
  refine (CD.out _).mono ?_
  rintro e w1 ⟨rfl, rfl⟩
  go_wp2
  go_ret3
  exact ⟨rfl, rfl⟩
set_option maxHeartbeats 1000000 in
theorem DivS15N (n h l d q r : Int) (hn : okSize n) (hD : ∀ w, Calls Tryd.prog 49 #[.int .i64 15, .int .i64 n, .int .i64 h, .int .i64 l, .int .i64 d] w fun e w' => e = .returned (.tuple #[.int .i64 q, .int .i64 r, .bool false]) ∧ w = w') (w : World) :
    Calls Tryd.prog 23 #[.int .i64 15, .int .i64 n, .int .i64 h, .int .i64 l, .int .i64 d] w fun e w' => e = .returned (.tuple #[.int .i64 0, .int .i64 0, .int .i64 16]) ∧ w = w' := by
  have CZ := Lib.hid (fun w => sizeYes n w hn)
  have CD := Lib.hid hD
  clear hn hD
  go_enter Tryd.func23, Tryd.ntmps23
  go_wp2_with fail
  refine (CZ.out _).mono ?_
  rintro e w1 ⟨rfl, rfl⟩
  go_wp2_with fail
  refine (CD.out _).mono ?_
  rintro e w1 ⟨rfl, rfl⟩
  go_wp2
  go_ret3
  exact ⟨rfl, rfl⟩
set_option maxHeartbeats 1000000 in
theorem DivS16Y (n h l d q r : Int) (hn : okSize n) (hD : ∀ w, Calls Tryd.prog 49 #[.int .i64 16, .int .i64 n, .int .i64 h, .int .i64 l, .int .i64 d] w fun e w' => e = .returned (.tuple #[.int .i64 q, .int .i64 r, .bool true]) ∧ w = w') (w : World) :
    Calls Tryd.prog 23 #[.int .i64 16, .int .i64 n, .int .i64 h, .int .i64 l, .int .i64 d] w fun e w' => e = .returned (.tuple #[.int .i64 q, .int .i64 r, .int .i64 0]) ∧ w = w' := by
  have CZ := Lib.hid (fun w => sizeYes n w hn)
  have CD := Lib.hid hD
  clear hn hD
  go_enter Tryd.func23, Tryd.ntmps23
  go_wp2_with fail
  refine (CZ.out _).mono ?_
  rintro e w1 ⟨rfl, rfl⟩
  go_wp2_with fail
  refine (CD.out _).mono ?_
  rintro e w1 ⟨rfl, rfl⟩
  go_wp2
  go_ret3
  exact ⟨rfl, rfl⟩
set_option maxHeartbeats 1000000 in
theorem DivS16N (n h l d q r : Int) (hn : okSize n) (hD : ∀ w, Calls Tryd.prog 49 #[.int .i64 16, .int .i64 n, .int .i64 h, .int .i64 l, .int .i64 d] w fun e w' => e = .returned (.tuple #[.int .i64 q, .int .i64 r, .bool false]) ∧ w = w') (w : World) :
    Calls Tryd.prog 23 #[.int .i64 16, .int .i64 n, .int .i64 h, .int .i64 l, .int .i64 d] w fun e w' => e = .returned (.tuple #[.int .i64 0, .int .i64 0, .int .i64 16]) ∧ w = w' := by
  have CZ := Lib.hid (fun w => sizeYes n w hn)
  have CD := Lib.hid hD
  clear hn hD
  go_enter Tryd.func23, Tryd.ntmps23
  go_wp2_with fail
  refine (CZ.out _).mono ?_
  rintro e w1 ⟨rfl, rfl⟩
  go_wp2_with fail
  refine (CD.out _).mono ?_
  rintro e w1 ⟨rfl, rfl⟩
  go_wp2
  go_ret3
  exact ⟨rfl, rfl⟩
end Go.Proofs.YtbcbepdfijcbmaaDoor
