/-
  What the methods of impl's reader tell of registers and memory: extended, sized, register, opRegister, sib, memory, place, number, byteNumber: operands as the document says, or a panic at the text's end, changing nothing but the reader; conditions: those in each head.
-/
import Derived.Test.YtinjpobepcenfaaDoorWalkRd
import Derived.Test.YtinjpobepcenfaaDoorWalkOpd3
namespace Go.Proofs.YtinjpobepcenfaaDoor
open Go.RowKit Go.Sort
theorem bit_and : ∀ x, x < 80 → ∀ k, k < 4 → bits .and .i64 ((x : Nat) : Int) ((2 ^ k : Nat) : Int) = if x / 2 ^ k % 2 = 1 then ((2 ^ k : Nat) : Int) else 0 := by decide +kernel
theorem extB_yes {x k : Nat} (h : x / 2 ^ k % 2 = 1) : extB x k = 8 := by unfold extB; rw [if_pos h]
theorem extB_no {x k : Nat} (h : ¬ x / 2 ^ k % 2 = 1) : extB x k = 0 := by unfold extB; rw [if_neg h]
theorem extB_le (x k : Nat) : extB x k ≤ 8 := by unfold extB; split <;> omega
theorem ret_in1 {a b : Int} (h : a = b) : Ending.returned (.int .i64 a) = .returned (.int .i64 b) := by rw [h]
theorem opd_one (x : Opd) : (opdL x).toArray.all (·.oneCell') = true := by kernel_rfl
/-- the result's block, nothing in it yet -/
def Zo (W : World) (b : Nat) : Prop := W.heap[b]? = some (.cells (opdL noOpd).toArray 25 (0, 0))
theorem Zo.new (w : World) : Zo (w.alloc (.cells (opdL noOpd).toArray 25)) w.heap.size := heap_alloc_new w _
theorem Zo.below {W W' : World} {b : Nat} (h : Zo W b) (hb : Below W.heap.size W W') : Zo W' b := (hb.block b (lt_of_blk h)).trans h
theorem Zo.ch {W W' : World} {b g : Nat} (h : Zo W b) (hb : Ch W W' g) (hne : b ≠ g) : Zo W' b := (hb.block b (lt_of_blk h) (fun e => hne (Option.some.inj e))).trans h
theorem bel_alloc (w : World) (o : Obj) : Below w.heap.size w (w.alloc o) := (Below.refl _ _).alloc (Nat.le_refl _) _
theorem ch_alloc (w : World) (o : Obj) (g : Nat) : Ch w (w.alloc o) g := Ch.of_below (bel_alloc w o)
theorem ch_setRow {w W : World} {g : Nat} {cs : Array Value} (h : Ch w W g) : Ch w (W.setRow w.heap.size cs) g :=
  ⟨h.os, h.tape, h.output, by rw [setRow_size]; exact h.size, fun i hi hne => by rw [setRow_other _ _ _ _ (by omega)]; exact h.block i hi hne⟩
theorem At.lt {W0 w : World} {g : Nat} {R : Rd} (h : At W0 w g R) : g < w.heap.size := h.rb.lt
theorem At.setRow {W0 w : World} {b g : Nat} {R : Rd} {cs : Array Value} (h : At W0 w g R) (hb : W0.heap.size ≤ b) (hne : b ≠ g) : At W0 (w.setRow b cs) g R :=
  ⟨(setRow_other _ _ _ _ (by omega)).trans h.rb, h.ge, ⟨h.be.os, h.be.tape, h.be.output, by rw [setRow_size]; exact h.be.size, fun i hi => by rw [setRow_other _ _ _ _ (by omega)]; exact h.be.block i hi⟩, h.sz, h.le⟩
set_option maxHeartbeats 400000 in
theorem extC0 (g low k bit : Nat) (R : Rd) (W0 w : World) (h : At W0 w g R) (hk : k < 4) (hb : bit = 2 ^ k) (hr : R.rex < 80) (hl : low < 4096) :
    Calls Tryd.prog 120 #[.pointer (some ⟨g, 0, none⟩), .int .i64 (low : Int), .int .i64 (bit : Int)] w fun e w' => e = .returned (.int .i64 ((low + extB R.rex k : Nat) : Int)) ∧ w' = w := by
  have hx0 := bit_and R.rex hr k hk
  have c3 := h.rb.cell 3
  simp only [rdA, List.getElem?_toArray, List.getElem?_cons_zero, List.getElem?_cons_succ] at c3
  clear h
  by_cases h1 : R.rex / 2 ^ k % 2 = 1
  · have hx : bits .and .i64 (R.rex : Int) (bit : Int) = (bit : Int) := by rw [if_pos h1] at hx0; rw [hb]; exact hx0
    have h0 : ((bit : Int) != 0) = true := bne_iff_ne.mpr (by rw [hb]; have : 0 < 2 ^ k := Nat.pow_pos (by decide); omega)
    have HE := Lib.hid (extB_yes h1)
    clear h1 hb hr hk hx0
    go_enter Tryd.func120, Tryd.ntmps120
    go_wp2
    go_ret
    exact ⟨ret_in1 (by rw [HE.out]; omega), rfl⟩
  · have hx : bits .and .i64 (R.rex : Int) (bit : Int) = 0 := by rw [if_neg h1] at hx0; rw [hb]; exact hx0
    have HE := Lib.hid (extB_no h1)
    clear h1 hb hr hk hx0
    go_enter Tryd.func120, Tryd.ntmps120
    go_wp2
    go_ret
    exact ⟨ret_in1 (by rw [HE.out]; rfl), rfl⟩
theorem bReg_up {r : Nat} {sz : Int} {rex : Nat} (h : sz = 1 ∧ rex = 0 ∧ 4 ≤ r) : bReg r sz rex = regOpd ((r : Int) + 12) := by unfold bReg; rw [if_pos h]
theorem bReg_no {r : Nat} {sz : Int} {rex : Nat} (h : ¬ (sz = 1 ∧ rex = 0 ∧ 4 ≤ r)) : bReg r sz rex = regOpd r := by unfold bReg; rw [if_neg h]
theorem ret_op {a b : Opd} (h : a = b) : Ending.returned (.agg (opdL a).toArray) = .returned (V7 b) := by rw [h]; rfl
set_option maxHeartbeats 1000000 in
theorem sizedC (g r : Nat) (sz : Int) (R : Rd) (W0 w : World) (h : At W0 w g R) (hl : r < 4096) :
    Calls Tryd.prog 119 #[.pointer (some ⟨g, 0, none⟩), .int .i64 (r : Int), .int .i64 sz] w fun e w' => e = .returned (V7 (bReg r sz R.rex)) ∧ Below w.heap.size w w' := by
  have c3 := h.rb.cell 3
  simp only [rdA, List.getElem?_toArray, List.getElem?_cons_zero, List.getElem?_cons_succ] at c3
  have CR := Lib.hid regOpdC
  have bz := bel_alloc w (.cells (opdL noOpd).toArray 25)
  have hz := Zo.new w
  have hlt := h.lt
  clear h
  by_cases hu : sz = 1 ∧ R.rex = 0 ∧ 4 ≤ r
  · have HE := Lib.hid (bReg_up hu)
    obtain ⟨h1, h2, h3⟩ := hu
    subst h1
    rw [h2] at c3
    have h3' : (4 : Int) ≤ r := by omega
    clear h2 h3
    go_enter Tryd.func119, Tryd.ntmps119
    go_wp2_with fail
    refine Calls.mono (CR.out _ _) ?_
    rintro e w1 ⟨rfl, hb⟩
    have HB := Lib.hid (bthen' bz hb); have HZ := Lib.hid (hz.below hb)
    clear hb bz hz
    go_wp2_with (refine wpList_store_row rfl 25 (.tmp 6) (.tmp 22) rfl w.heap.size (opdL (regOpd ((r : Int) + 12))).toArray rfl rfl 25 _ HZ.out (by kernel_rfl) rfl (opd_one _) ?_)
    refine bodyPost_ret (v := .agg (opdL (regOpd ((r : Int) + 12))).toArray) (by exact results_cell_row Tryd.results119 _ _ w.heap.size 25 (opdL (regOpd ((r : Int) + 12))).toArray (0, 0) _ rfl (setRow_heap _ _ _ _ _ _ HZ.out) Tryd.underlying25 rfl (by kernel_rfl)) (by rfl) ⟨ret_op HE.out.symm, below_setRow HB.out⟩
  · have HE := Lib.hid (bReg_no hu)
    by_cases h1 : sz = 1
    · subst h1
      by_cases h2 : R.rex = 0
      · rw [h2] at c3
        have h3 : ¬ (4 : Int) ≤ r := by omega
        clear hu h2
        go_enter Tryd.func119, Tryd.ntmps119
        go_wp2_with fail
        refine Calls.mono (CR.out _ _) ?_
        rintro e w1 ⟨rfl, hb⟩
        have HB := Lib.hid (bthen' bz hb); have HZ := Lib.hid (hz.below hb)
        clear hb bz hz
        go_wp2_with (refine wpList_store_row rfl 25 (.tmp 6) (.tmp 24) rfl w.heap.size (opdL (regOpd (r : Int))).toArray rfl rfl 25 _ HZ.out (by kernel_rfl) rfl (opd_one _) ?_)
        refine bodyPost_ret (v := .agg (opdL (regOpd (r : Int))).toArray) (by exact results_cell_row Tryd.results119 _ _ w.heap.size 25 (opdL (regOpd (r : Int))).toArray (0, 0) _ rfl (setRow_heap _ _ _ _ _ _ HZ.out) Tryd.underlying25 rfl (by kernel_rfl)) (by rfl) ⟨ret_op HE.out.symm, below_setRow HB.out⟩
      · have h3 : ((R.rex : Int) == 0) = false := beq_eq_false_iff_ne.mpr (by omega)
        clear hu h2
        go_enter Tryd.func119, Tryd.ntmps119
        go_wp2_with fail
        refine Calls.mono (CR.out _ _) ?_
        rintro e w1 ⟨rfl, hb⟩
        have HB := Lib.hid (bthen' bz hb); have HZ := Lib.hid (hz.below hb)
        clear hb bz hz
        go_wp2_with (refine wpList_store_row rfl 25 (.tmp 6) (.tmp 24) rfl w.heap.size (opdL (regOpd (r : Int))).toArray rfl rfl 25 _ HZ.out (by kernel_rfl) rfl (opd_one _) ?_)
        refine bodyPost_ret (v := .agg (opdL (regOpd (r : Int))).toArray) (by exact results_cell_row Tryd.results119 _ _ w.heap.size 25 (opdL (regOpd (r : Int))).toArray (0, 0) _ rfl (setRow_heap _ _ _ _ _ _ HZ.out) Tryd.underlying25 rfl (by kernel_rfl)) (by rfl) ⟨ret_op HE.out.symm, below_setRow HB.out⟩
    · have h3 : (sz == 1) = false := beq_eq_false_iff_ne.mpr h1
      clear hu h1
      go_enter Tryd.func119, Tryd.ntmps119
      go_wp2_with fail
      refine Calls.mono (CR.out _ _) ?_
      rintro e w1 ⟨rfl, hb⟩
      have HB := Lib.hid (bthen' bz hb); have HZ := Lib.hid (hz.below hb)
      clear hb bz hz
      go_wp2_with (refine wpList_store_row rfl 25 (.tmp 6) (.tmp 24) rfl w.heap.size (opdL (regOpd (r : Int))).toArray rfl rfl 25 _ HZ.out (by kernel_rfl) rfl (opd_one _) ?_)
      refine bodyPost_ret (v := .agg (opdL (regOpd (r : Int))).toArray) (by exact results_cell_row Tryd.results119 _ _ w.heap.size 25 (opdL (regOpd (r : Int))).toArray (0, 0) _ rfl (setRow_heap _ _ _ _ _ _ HZ.out) Tryd.underlying25 rfl (by kernel_rfl)) (by rfl) ⟨ret_op HE.out.symm, below_setRow HB.out⟩
set_option maxHeartbeats 1000000 in
theorem regC (g : Nat) (sz : Int) (R : Rd) (W0 w : World) (h : At W0 w g R) (hx : R.rex < 80) (hl : R.rg < 256) :
    Calls Tryd.prog 98 #[.pointer (some ⟨g, 0, none⟩), .int .i64 sz] w fun e w' => e = .returned (V7 (bReg (R.rg + extB R.rex 2) sz R.rex)) ∧ Below w.heap.size w w' := by
  have c11 := h.rb.cell 11
  simp only [rdA, List.getElem?_toArray, List.getElem?_cons_zero, List.getElem?_cons_succ] at c11
  have bz := bel_alloc w (.cells (opdL noOpd).toArray 25)
  have hz := Zo.new w
  have hlt := h.lt
  have A0 := h.below bz
  have CE := Lib.hid (extC0 g (R.rg) 2 4 R W0 _ A0 (by decide) (by decide) hx (by omega))
  have hle := extB_le R.rex 2
  have CS := Lib.hid (sizedC g (R.rg + extB R.rex 2) sz R W0 _ A0 (by omega))
  clear h A0 hx hle hl
  go_enter Tryd.func98, Tryd.ntmps98
  go_wp2_with fail
  refine Calls.mono CE.out ?_
  rintro e w1 ⟨rfl, rfl⟩
  go_wp2_with fail
  refine Calls.mono CS.out ?_
  rintro e w1 ⟨rfl, hb⟩
  have HB := Lib.hid (bthen' bz hb); have HZ := Lib.hid (hz.below hb)
  clear hb bz hz
  obtain ⟨x, hxx⟩ : ∃ x, x = bReg (R.rg + extB R.rex 2) sz R.rex := ⟨_, rfl⟩
  rw [← hxx]
  have HX := Lib.hid hxx
  clear hxx
  go_wp2_with (refine wpList_store_row rfl 25 (.tmp 4) (.tmp 13) rfl w.heap.size (opdL x).toArray rfl rfl 25 _ HZ.out (by kernel_rfl) rfl (opd_one _) ?_)
  refine bodyPost_ret (v := .agg (opdL x).toArray) (by exact results_cell_row Tryd.results98 _ _ w.heap.size 25 (opdL x).toArray (0, 0) _ rfl (setRow_heap _ _ _ _ _ _ HZ.out) Tryd.underlying25 rfl (by kernel_rfl)) (by rfl) ⟨by rw [← HX.out]; rfl, below_setRow HB.out⟩
theorem and7 : ∀ b, b < 256 → bits .and .i64 ((b : Nat) : Int) 7 = ((b % 8 : Nat) : Int) := by decide +kernel
set_option maxHeartbeats 1000000 in
theorem opRegC (g : Nat) (sz : Int) (R : Rd) (W0 w : World) (h : At W0 w g R) (hx : R.rex < 80) (hl : R.ob < 256) :
    Calls Tryd.prog 101 #[.pointer (some ⟨g, 0, none⟩), .int .i64 sz] w fun e w' => e = .returned (V7 (bReg (R.ob % 8 + extB R.rex 0) sz R.rex)) ∧ Below w.heap.size w w' := by
  have c4 := h.rb.cell 4
  simp only [rdA, List.getElem?_toArray, List.getElem?_cons_zero, List.getElem?_cons_succ] at c4
  have bz := bel_alloc w (.cells (opdL noOpd).toArray 25)
  have hz := Zo.new w
  have hlt := h.lt
  have A0 := h.below bz
  have CE := Lib.hid (extC0 g (R.ob % 8) 0 1 R W0 _ A0 (by decide) (by decide) hx (by omega))
  have hle := extB_le R.rex 0
  have CS := Lib.hid (sizedC g (R.ob % 8 + extB R.rex 0) sz R W0 _ A0 (by omega))
  have ha := and7 R.ob hl
  clear h A0 hx hle hl
  go_enter Tryd.func101, Tryd.ntmps101
  go_wp2_with fail
  refine Calls.mono CE.out ?_
  rintro e w1 ⟨rfl, rfl⟩
  go_wp2_with fail
  refine Calls.mono CS.out ?_
  rintro e w1 ⟨rfl, hb⟩
  have HB := Lib.hid (bthen' bz hb); have HZ := Lib.hid (hz.below hb)
  clear hb bz hz
  obtain ⟨x, hxx⟩ : ∃ x, x = bReg (R.ob % 8 + extB R.rex 0) sz R.rex := ⟨_, rfl⟩
  rw [← hxx]
  have HX := Lib.hid hxx
  clear hxx
  go_wp2_with (refine wpList_store_row rfl 25 (.tmp 4) (.tmp 14) rfl w.heap.size (opdL x).toArray rfl rfl 25 _ HZ.out (by kernel_rfl) rfl (opd_one _) ?_)
  refine bodyPost_ret (v := .agg (opdL x).toArray) (by exact results_cell_row Tryd.results101 _ _ w.heap.size 25 (opdL x).toArray (0, 0) _ rfl (setRow_heap _ _ _ _ _ _ HZ.out) Tryd.underlying25 rfl (by kernel_rfl)) (by rfl) ⟨by rw [← HX.out]; rfl, below_setRow HB.out⟩
theorem minK_of {sz : Int} (h : okSize sz) : ∃ k : Nat, min sz 4 = (k : Int) ∧ minK sz = k ∧ okSize (k : Int) := by
  rcases h with rfl | rfl | rfl | rfl
  · exact ⟨1, by decide, by decide, .inl rfl⟩
  · exact ⟨2, by decide, by decide, .inr (.inl rfl)⟩
  · exact ⟨4, by decide, by decide, .inr (.inr (.inl rfl))⟩
  · exact ⟨4, by decide, by decide, .inr (.inr (.inl rfl))⟩
theorem At.alloc {W0 w : World} {g : Nat} {R : Rd} (h : At W0 w g R) (o : Obj) : At W0 (w.alloc o) g R := h.below (bel_alloc w o)
theorem zne {W0 w : World} {g : Nat} {R : Rd} (h : At W0 w g R) : w.heap.size ≠ g := by have := h.lt; omega
theorem Wr.trans {W0 w w1 w2 : World} {g : Nat} {R R2 : Rd} (h1 : Wr W0 w w1 g R) (h2 : Wr W0 w1 w2 g R2) : Wr W0 w w2 g R2 := ⟨h2.1, h1.2.trans h2.2⟩
theorem Wr.below {W0 w w1 w2 : World} {g : Nat} {R : Rd} (h1 : Wr W0 w w1 g R) (h2 : Below w1.heap.size w1 w2) : Wr W0 w w2 g R := ⟨h1.1.below h2, h1.2.trans (Ch.of_below h2)⟩
theorem Wr.pre {W0 w w1 w2 : World} {g : Nat} {R : Rd} (h1 : Below w.heap.size w w1) (h2 : Wr W0 w1 w2 g R) : Wr W0 w w2 g R := ⟨h2.1, (Ch.of_below h1).trans h2.2⟩
/-- the result is stored, too -/
theorem Wr.row {W0 w w1 : World} {g : Nat} {R R0 : Rd} {cs : Array Value} (h0 : At W0 w g R0) (h : Wr W0 w w1 g R) : Wr W0 w (w1.setRow w.heap.size cs) g R :=
  ⟨h.1.setRow h0.be.size (zne h0), ch_setRow h.2⟩
set_option maxHeartbeats 1000000 in
theorem numYes (g k : Nat) (R : Rd) (W0 w : World) (h : At W0 w g R) (hs : min R.sz 4 = (k : Int)) (hk : okSize (k : Int)) (hn : R.n + k ≤ R.t.size) :
    Calls Tryd.prog 99 #[.pointer (some ⟨g, 0, none⟩)] w fun e w' => e = .returned (V7 (immOpd (sgV R.t R.n k))) ∧ Wr W0 w w' g { R with n := R.n + k } := by
  have c14 := h.rb.cell 14
  simp only [rdA, List.getElem?_toArray, List.getElem?_cons_zero, List.getElem?_cons_succ] at c14
  have hlt := h.lt
  have A0 := h.alloc (.cells (opdL noOpd).toArray 25)
  have bz := bel_alloc w (.cells (opdL noOpd).toArray 25)
  have hz := Zo.new w
  have CT := Lib.hid (takeSYes g k R W0 _ A0 hk hn)
  have CI := Lib.hid immOpdC
  have H := Lib.hid h
  clear h A0 hk hn
  go_enter Tryd.func99, Tryd.ntmps99
  go_wp2_with fail
  refine Calls.mono CT.out ?_
  rintro e w1 ⟨rfl, h1⟩
  go_wp2_with fail
  refine Calls.mono (CI.out _ _) ?_
  rintro e w2 ⟨rfl, hb⟩
  have HW := Lib.hid (Wr.below (Wr.pre bz h1) hb)
  have HZ := Lib.hid ((hz.ch h1.2 (zne H.out)).below hb)
  clear hb bz hz h1
  obtain ⟨v, hv⟩ : ∃ v, v = sgV R.t R.n k := ⟨_, rfl⟩
  rw [← hv]
  have HV := Lib.hid hv
  clear hv
  go_wp2_with (refine wpList_store_row rfl 25 (.tmp 2) (.tmp 11) rfl w.heap.size (opdL (immOpd v)).toArray rfl rfl 25 _ HZ.out (by kernel_rfl) rfl (opd_one _) ?_)
  refine bodyPost_ret (v := .agg (opdL (immOpd v)).toArray) (by exact results_cell_row Tryd.results99 _ _ w.heap.size 25 (opdL (immOpd v)).toArray (0, 0) _ rfl (setRow_heap _ _ _ _ _ _ HZ.out) Tryd.underlying25 rfl (by kernel_rfl)) (by rfl) ⟨by rw [← HV.out]; rfl, HW.out.row H.out⟩
set_option maxHeartbeats 1000000 in
theorem numNo (g k : Nat) (R : Rd) (W0 w : World) (aE aR : Addr) (hsn : Sent W0 aE aR) (h : At W0 w g R) (hs : min R.sz 4 = (k : Int)) (hk : okSize (k : Int)) (hn : R.t.size < R.n + k) :
    Calls Tryd.prog 99 #[.pointer (some ⟨g, 0, none⟩)] w fun e w' => e = endP ∧ Ch w w' g := by
  have c14 := h.rb.cell 14
  simp only [rdA, List.getElem?_toArray, List.getElem?_cons_zero, List.getElem?_cons_succ] at c14
  have hlt := h.lt
  have CT := Lib.hid (takeSNo g k R W0 _ aE aR hsn (h.alloc (.cells (opdL noOpd).toArray 25)) hk hn)
  clear h hk hn hsn
  unfold endP at *
  go_enter Tryd.func99, Tryd.ntmps99
  go_wp2_with fail
  refine Calls.mono CT.out ?_
  rintro e w1 ⟨rfl, h1⟩
  go_wp2
  exact ⟨rfl, rfl, (ch_alloc _ _ _).trans h1⟩
set_option maxHeartbeats 1000000 in
theorem byteN_f (g : Nat) (R : Rd) (W0 w : World) (h : At W0 w g R) (hc : R.z.f = 11) (hn : R.n + 1 ≤ R.t.size) :
    Calls Tryd.prog 100 #[.pointer (some ⟨g, 0, none⟩)] w fun e w' => e = .returned (V7 (immOpd (nb R.t R.n : Int))) ∧ Wr W0 w w' g { R with n := R.n + 1 } := by
  have c6 := h.rb.cell 6
  have c13 := h.rb.cell 13
  simp only [rdA, List.getElem?_toArray, List.getElem?_cons_zero, List.getElem?_cons_succ] at c6 c13
  have hlt := h.lt
  have A0 := h.alloc (.cells (opdL noOpd).toArray 25)
  have CT0 := takeYes g 1 R W0 _ A0 ok1 hn
  rw [take1] at CT0
  have CT := Lib.hid CT0
  rw [hc] at c6
  clear hc
  have bz := bel_alloc w (.cells (opdL noOpd).toArray 25)
  have hz := Zo.new w
  have CI := Lib.hid immOpdC
  have H := Lib.hid h
  clear h A0 hn CT0
  go_enter Tryd.func100, Tryd.ntmps100
  go_wp2_with fail
  refine Calls.mono CT.out ?_
  rintro e w1 ⟨rfl, h1⟩
  go_wp2_with fail
  refine Calls.mono (CI.out _ _) ?_
  rintro e w2 ⟨rfl, hb⟩
  have HW := Lib.hid (Wr.below (Wr.pre bz h1) hb)
  have HZ := Lib.hid ((hz.ch h1.2 (zne H.out)).below hb)
  clear hb bz hz h1
  obtain ⟨v, hv⟩ : ∃ v : Int, v = (nb R.t R.n : Int) := ⟨_, rfl⟩
  rw [← hv]
  have HV := Lib.hid hv
  clear hv
  go_wp2_with (refine wpList_store_row rfl 25 (.tmp 2) (.tmp 19) rfl w.heap.size (opdL (immOpd v)).toArray rfl rfl 25 _ HZ.out (by kernel_rfl) rfl (opd_one _) ?_)
  refine bodyPost_ret (v := .agg (opdL (immOpd v)).toArray) (by exact results_cell_row Tryd.results100 _ _ w.heap.size 25 (opdL (immOpd v)).toArray (0, 0) _ rfl (setRow_heap _ _ _ _ _ _ HZ.out) Tryd.underlying25 rfl (by kernel_rfl)) (by rfl) ⟨by rw [← HV.out]; rfl, HW.out.row H.out⟩
set_option maxHeartbeats 1000000 in
theorem byteNo_f (g : Nat) (R : Rd) (W0 w : World) (aE aR : Addr) (hsn : Sent W0 aE aR) (h : At W0 w g R) (hc : R.z.f = 11) (hn : R.t.size < R.n + 1) :
    Calls Tryd.prog 100 #[.pointer (some ⟨g, 0, none⟩)] w fun e w' => e = endP ∧ Ch w w' g := by
  have c6 := h.rb.cell 6
  have c13 := h.rb.cell 13
  simp only [rdA, List.getElem?_toArray, List.getElem?_cons_zero, List.getElem?_cons_succ] at c6 c13
  have hlt := h.lt
  have A0 := h.alloc (.cells (opdL noOpd).toArray 25)
  have CT0 := takeNo g 1 R W0 _ aE aR hsn A0 ok1 hn
  have CT := Lib.hid CT0
  rw [hc] at c6
  clear hc
  clear h A0 hn hsn CT0
  unfold endP at *
  go_enter Tryd.func100, Tryd.ntmps100
  go_wp2_with fail
  refine Calls.mono CT.out ?_
  rintro e w1 ⟨rfl, h1⟩
  go_wp2
  exact ⟨rfl, rfl, (ch_alloc _ _ _).trans h1⟩
set_option maxHeartbeats 1000000 in
theorem byteN_o (g : Nat) (R : Rd) (W0 w : World) (h : At W0 w g R) (hc : R.op = 44) (hc2 : R.z.f ≠ 11) (hn : R.n + 1 ≤ R.t.size) :
    Calls Tryd.prog 100 #[.pointer (some ⟨g, 0, none⟩)] w fun e w' => e = .returned (V7 (immOpd (nb R.t R.n : Int))) ∧ Wr W0 w w' g { R with n := R.n + 1 } := by
  have c6 := h.rb.cell 6
  have c13 := h.rb.cell 13
  simp only [rdA, List.getElem?_toArray, List.getElem?_cons_zero, List.getElem?_cons_succ] at c6 c13
  have hlt := h.lt
  have A0 := h.alloc (.cells (opdL noOpd).toArray 25)
  have CT0 := takeYes g 1 R W0 _ A0 ok1 hn
  rw [take1] at CT0
  have CT := Lib.hid CT0
  rw [hc] at c13
  have d1 : (R.z.f == 11) = false := beq_eq_false_iff_ne.mpr hc2
  clear hc hc2
  have bz := bel_alloc w (.cells (opdL noOpd).toArray 25)
  have hz := Zo.new w
  have CI := Lib.hid immOpdC
  have H := Lib.hid h
  clear h A0 hn CT0
  go_enter Tryd.func100, Tryd.ntmps100
  go_wp2_with fail
  refine Calls.mono CT.out ?_
  rintro e w1 ⟨rfl, h1⟩
  go_wp2_with fail
  refine Calls.mono (CI.out _ _) ?_
  rintro e w2 ⟨rfl, hb⟩
  have HW := Lib.hid (Wr.below (Wr.pre bz h1) hb)
  have HZ := Lib.hid ((hz.ch h1.2 (zne H.out)).below hb)
  clear hb bz hz h1
  obtain ⟨v, hv⟩ : ∃ v : Int, v = (nb R.t R.n : Int) := ⟨_, rfl⟩
  rw [← hv]
  have HV := Lib.hid hv
  clear hv
  go_wp2_with (refine wpList_store_row rfl 25 (.tmp 2) (.tmp 19) rfl w.heap.size (opdL (immOpd v)).toArray rfl rfl 25 _ HZ.out (by kernel_rfl) rfl (opd_one _) ?_)
  refine bodyPost_ret (v := .agg (opdL (immOpd v)).toArray) (by exact results_cell_row Tryd.results100 _ _ w.heap.size 25 (opdL (immOpd v)).toArray (0, 0) _ rfl (setRow_heap _ _ _ _ _ _ HZ.out) Tryd.underlying25 rfl (by kernel_rfl)) (by rfl) ⟨by rw [← HV.out]; rfl, HW.out.row H.out⟩
set_option maxHeartbeats 1000000 in
theorem byteNo_o (g : Nat) (R : Rd) (W0 w : World) (aE aR : Addr) (hsn : Sent W0 aE aR) (h : At W0 w g R) (hc : R.op = 44) (hc2 : R.z.f ≠ 11) (hn : R.t.size < R.n + 1) :
    Calls Tryd.prog 100 #[.pointer (some ⟨g, 0, none⟩)] w fun e w' => e = endP ∧ Ch w w' g := by
  have c6 := h.rb.cell 6
  have c13 := h.rb.cell 13
  simp only [rdA, List.getElem?_toArray, List.getElem?_cons_zero, List.getElem?_cons_succ] at c6 c13
  have hlt := h.lt
  have A0 := h.alloc (.cells (opdL noOpd).toArray 25)
  have CT0 := takeNo g 1 R W0 _ aE aR hsn A0 ok1 hn
  have CT := Lib.hid CT0
  rw [hc] at c13
  have d1 : (R.z.f == 11) = false := beq_eq_false_iff_ne.mpr hc2
  clear hc hc2
  clear h A0 hn hsn CT0
  unfold endP at *
  go_enter Tryd.func100, Tryd.ntmps100
  go_wp2_with fail
  refine Calls.mono CT.out ?_
  rintro e w1 ⟨rfl, h1⟩
  go_wp2
  exact ⟨rfl, rfl, (ch_alloc _ _ _).trans h1⟩
set_option maxHeartbeats 1000000 in
theorem byteN_n (g : Nat) (R : Rd) (W0 w : World) (h : At W0 w g R) (hc : R.op ≠ 44) (hc2 : R.z.f ≠ 11) (hn : R.n + 1 ≤ R.t.size) :
    Calls Tryd.prog 100 #[.pointer (some ⟨g, 0, none⟩)] w fun e w' => e = .returned (V7 (immOpd (sgV R.t R.n 1))) ∧ Wr W0 w w' g { R with n := R.n + 1 } := by
  have c6 := h.rb.cell 6
  have c13 := h.rb.cell 13
  simp only [rdA, List.getElem?_toArray, List.getElem?_cons_zero, List.getElem?_cons_succ] at c6 c13
  have hlt := h.lt
  have A0 := h.alloc (.cells (opdL noOpd).toArray 25)
  have CT0 := takeSYes g 1 R W0 _ A0 ok1 hn
  have CT := Lib.hid CT0
  have d1 : (R.z.f == 11) = false := beq_eq_false_iff_ne.mpr hc2
  have d2 : (R.op == 44) = false := beq_eq_false_iff_ne.mpr hc
  clear hc hc2
  have bz := bel_alloc w (.cells (opdL noOpd).toArray 25)
  have hz := Zo.new w
  have CI := Lib.hid immOpdC
  have H := Lib.hid h
  clear h A0 hn CT0
  go_enter Tryd.func100, Tryd.ntmps100
  go_wp2_with fail
  refine Calls.mono CT.out ?_
  rintro e w1 ⟨rfl, h1⟩
  go_wp2_with fail
  refine Calls.mono (CI.out _ _) ?_
  rintro e w2 ⟨rfl, hb⟩
  have HW := Lib.hid (Wr.below (Wr.pre bz h1) hb)
  have HZ := Lib.hid ((hz.ch h1.2 (zne H.out)).below hb)
  clear hb bz hz h1
  obtain ⟨v, hv⟩ : ∃ v : Int, v = (sgV R.t R.n 1) := ⟨_, rfl⟩
  rw [← hv]
  have HV := Lib.hid hv
  clear hv
  go_wp2_with (refine wpList_store_row rfl 25 (.tmp 2) (.tmp 22) rfl w.heap.size (opdL (immOpd v)).toArray rfl rfl 25 _ HZ.out (by kernel_rfl) rfl (opd_one _) ?_)
  refine bodyPost_ret (v := .agg (opdL (immOpd v)).toArray) (by exact results_cell_row Tryd.results100 _ _ w.heap.size 25 (opdL (immOpd v)).toArray (0, 0) _ rfl (setRow_heap _ _ _ _ _ _ HZ.out) Tryd.underlying25 rfl (by kernel_rfl)) (by rfl) ⟨by rw [← HV.out]; rfl, HW.out.row H.out⟩
set_option maxHeartbeats 1000000 in
theorem byteNo_n (g : Nat) (R : Rd) (W0 w : World) (aE aR : Addr) (hsn : Sent W0 aE aR) (h : At W0 w g R) (hc : R.op ≠ 44) (hc2 : R.z.f ≠ 11) (hn : R.t.size < R.n + 1) :
    Calls Tryd.prog 100 #[.pointer (some ⟨g, 0, none⟩)] w fun e w' => e = endP ∧ Ch w w' g := by
  have c6 := h.rb.cell 6
  have c13 := h.rb.cell 13
  simp only [rdA, List.getElem?_toArray, List.getElem?_cons_zero, List.getElem?_cons_succ] at c6 c13
  have hlt := h.lt
  have A0 := h.alloc (.cells (opdL noOpd).toArray 25)
  have CT0 := takeSNo g 1 R W0 _ aE aR hsn A0 ok1 hn
  have CT := Lib.hid CT0
  have d1 : (R.z.f == 11) = false := beq_eq_false_iff_ne.mpr hc2
  have d2 : (R.op == 44) = false := beq_eq_false_iff_ne.mpr hc
  clear hc hc2
  clear h A0 hn hsn CT0
  unfold endP at *
  go_enter Tryd.func100, Tryd.ntmps100
  go_wp2_with fail
  refine Calls.mono CT.out ?_
  rintro e w1 ⟨rfl, h1⟩
  go_wp2
  exact ⟨rfl, rfl, (ch_alloc _ _ _).trans h1⟩
end Go.Proofs.YtinjpobepcenfaaDoor
