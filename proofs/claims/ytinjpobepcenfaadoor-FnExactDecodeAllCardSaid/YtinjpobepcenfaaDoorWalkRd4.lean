/-
  What memory and place of impl's reader do: memory, or a register, that the bytes tell, or a panic at the text's end, changing nothing but the reader; conditions: those in each head.
-/
import Derived.Test.YtinjpobepcenfaaDoorWalkRd3
namespace Go.Proofs.YtinjpobepcenfaaDoor
open Go.RowKit Go.Sort
set_option linter.unusedVariables false
theorem base_eq : ∀ rex, extB rex 0 = 0 ∨ extB rex 0 = 8 := fun rex => by unfold extB; split <;> simp
theorem MS.fin {W0 w W : World} {g gx : Nat} {R R' : Rd} {x : Opd} {o : Obj} {cs : Array Value} (h : At W0 w g R) (M : MS W0 (w.alloc o) W g gx R' x) : Wr W0 w (W.setRow w.heap.size cs) g R' :=
  Wr.row h ⟨M.at', (ch_alloc w o g).trans M.ch⟩
theorem MS.zo {W0 w W : World} {g gx : Nat} {R R' : Rd} {x : Opd} (h : At W0 w g R) (M : MS W0 (w.alloc (.cells #[.int .i64 0, .int .i64 0, .int .i64 0, .int .i64 0, .int .i64 0, .int .i64 0, .int .i64 0] 25)) W g gx R' x) : Zo W w.heap.size := (Zo.new w).ch M.ch (zne h)
theorem MS.newX {W0 w : World} {g : Nat} {R : Rd} (h : At W0 w g R) (b i s d : Int) : MS W0 (w.alloc (.cells #[.int .i64 0, .int .i64 0, .int .i64 0, .int .i64 0, .int .i64 0, .int .i64 0, .int .i64 0] 25)) ((w.alloc (.cells #[.int .i64 0, .int .i64 0, .int .i64 0, .int .i64 0, .int .i64 0, .int .i64 0, .int .i64 0] 25)).alloc (.cells #[.int .i64 2, .int .i64 0, .int .i64 b, .int .i64 i, .int .i64 s, .int .i64 d, .int .i64 0] 25)) g (w.heap.size + 1) R (memOpd b i s d) := by
  have e : (w.alloc (.cells #[.int .i64 0, .int .i64 0, .int .i64 0, .int .i64 0, .int .i64 0, .int .i64 0, .int .i64 0] 25)).heap.size = w.heap.size + 1 := by simp
  rw [← e]
  exact MS.new (h.alloc _) (memOpd b i s d)
set_option maxRecDepth 100000 in
set_option maxHeartbeats 2000000 in
theorem mem_1ip4 (g : Nat) (R : Rd) (W0 w : World) (I S : Int) (B : Nat) (v : Int) (h : At W0 w g R) (hx : R.rex < 80) (hmd : R.md = 0) (hrm8 : R.rm < 8) (hrm : R.rm = 4) (hn : R.n < R.t.size) (hI : sibI (nb R.t R.n) R.rex = I) (hS : sibS (nb R.t R.n) R.rex = S) (h5 : nb R.t R.n % 8 = 5) (hB : nb R.t R.n % 8 + extB R.rex 0 = B) (hv : sgV R.t (R.n + 1) 4 = v) (hk : R.n + 1 + 4 ≤ R.t.size) :
    Calls Tryd.prog 121 #[.pointer (some ⟨g, 0, none⟩)] w fun e w' => e = .returned (V7 (memOpd (-1) I S v)) ∧ Wr W0 w w' g { R with n := R.n + 1 + 4 } := by
  have M0 := Lib.hid (MS.newX h 0 (-1) 1 0)
  have c12 := h.rb.cell 12
  have c10 := h.rb.cell 10
  simp only [rdA, List.getElem?_toArray, List.getElem?_cons_zero, List.getElem?_cons_succ] at c12 c10
  rw [hmd] at c10
  rw [hrm] at c12
  have hlt := h.lt
  have MDH := Lib.hid hmd
  have H := Lib.hid h
  have CS0 := sibC g (w.heap.size + 1) R W0 _ _ M0.out hn hx
  rw [hI, hS] at CS0
  have hb2 := nb_lt R.t R.n
  obtain ⟨b, hb⟩ : ∃ b, b = nb R.t R.n := ⟨_, rfl⟩
  rw [← hb] at CS0 hb2 hB h5
  obtain ⟨m, hm⟩ : ∃ m, m = b % 8 := ⟨_, rfl⟩
  have hm8 : m < 8 := by omega
  rw [← hm] at CS0 hB h5
  have CS := Lib.hid CS0
  subst h5
  have CE0 := fun (W : World) (hA : At W0 W g ({ R with n := R.n + 1 })) => extC0 g 5 0 1 _ W0 W hA (by decide) (by decide) hx (by omega)
  try simp only at CE0
  rw [hB] at CE0
  have CE := Lib.hid CE0
  have CT0 := fun (W : World) (hA : At W0 W g ({ R with n := R.n + 1 })) => takeSYes g 4 _ W0 W hA (show okSize (4 : Nat) by unfold okSize; omega) (by simpa using hk)
  try simp only at CT0
  rw [hv] at CT0
  have CT := Lib.hid CT0
  clear h hx hmd hrm8 hrm hB CE0 hn hI hS CS0 hb hm hb2 hk CT0 hv
  go_enter Tryd.func121, Tryd.ntmps121
  go_wp2_with fail
  refine Calls.mono CS.out ?_
  rintro e w1 ⟨rfl, m1⟩
  have M1 := Lib.hid m1
  clear m1
  go_wp2_with fail
  refine Calls.mono (CE.out _ M1.out.at') ?_
  rintro e w2 ⟨rfl, rfl⟩
  have M2 := Lib.hid (M1.out.set (y := memOpd (B : Int) I S 0) 2 (.int .i64 (B : Int)) rfl)
  have x2 := M1.out.xb.cell 2
  simp only [opdL, memOpd, List.getElem?_toArray, List.getElem?_cons_zero, List.getElem?_cons_succ] at x2
  have f2 := M1.out.xb.free 2
  have hl1 := M1.out.at'.lt
  have c10' : w2.cell? ⟨g, 10, none⟩ = some (.int .i64 0) := by have := M1.out.at'.rb.cell 10; simp only [rdA, List.getElem?_toArray, List.getElem?_cons_zero, List.getElem?_cons_succ] at this; rw [MDH.out] at this; exact this
  have hne1 : w.heap.size + 1 ≠ g := by omega
  go_wp2_with fail
  have m2 := M2.out
  refine Calls.mono (CT.out _ m2.at') ?_
  rintro e w3 ⟨rfl, h3⟩
  have M3 := Lib.hid (m2.wr h3)
  clear h3 m2
  clear x2 f2
  have x0 := M3.out.xb.cell 0
  have x1 := M3.out.xb.cell 1
  have x2 := M3.out.xb.cell 2
  have x3 := M3.out.xb.cell 3
  have x4 := M3.out.xb.cell 4
  have x5 := M3.out.xb.cell 5
  have x6 := M3.out.xb.cell 6
  simp only [opdL, memOpd, List.getElem?_toArray, List.getElem?_cons_zero, List.getElem?_cons_succ] at x0 x1 x2 x3 x4 x5 x6
  have f2 := M3.out.xb.free 2; have f5 := M3.out.xb.free 5
  have M4 := Lib.hid ((M3.out.set (y := memOpd (-1) I S 0) 2 (.int .i64 (-1)) rfl).set (y := memOpd (-1) I S v) 5 (.int .i64 v) rfl)
  have HZ := Lib.hid (M4.out.zo H.out)
  go_wp2_with (refine wpList_store_row rfl 25 (.tmp 2) (.tmp 55) rfl w.heap.size (opdL (memOpd (-1) I S v)).toArray rfl rfl 25 _ HZ.out (by kernel_rfl) rfl (opd_one _) ?_)
  refine bodyPost_ret (v := .agg (opdL (memOpd (-1) I S v)).toArray) (by exact results_cell_row Tryd.results121 _ _ w.heap.size 25 (opdL (memOpd (-1) I S v)).toArray (0, 0) _ rfl (setRow_heap _ _ _ _ _ _ HZ.out) Tryd.underlying25 rfl (by kernel_rfl)) (by rfl) ⟨rfl, M4.out.fin H.out⟩
set_option maxRecDepth 100000 in
set_option maxHeartbeats 2000000 in
theorem mem_1ip4n (g : Nat) (R : Rd) (W0 w : World) (aE aR : Addr) (hsn : Sent W0 aE aR) (I S : Int) (B : Nat) (h : At W0 w g R) (hx : R.rex < 80) (hmd : R.md = 0) (hrm8 : R.rm < 8) (hrm : R.rm = 4) (hn : R.n < R.t.size) (hI : sibI (nb R.t R.n) R.rex = I) (hS : sibS (nb R.t R.n) R.rex = S) (h5 : nb R.t R.n % 8 = 5) (hB : nb R.t R.n % 8 + extB R.rex 0 = B) (hk : R.t.size < R.n + 1 + 4) :
    Calls Tryd.prog 121 #[.pointer (some ⟨g, 0, none⟩)] w fun e w' => e = endP ∧ Ch w w' g := by
  have M0 := Lib.hid (MS.newX h 0 (-1) 1 0)
  have c12 := h.rb.cell 12
  have c10 := h.rb.cell 10
  simp only [rdA, List.getElem?_toArray, List.getElem?_cons_zero, List.getElem?_cons_succ] at c12 c10
  rw [hmd] at c10
  rw [hrm] at c12
  have hlt := h.lt
  have MDH := Lib.hid hmd
  have H := Lib.hid h
  have CS0 := sibC g (w.heap.size + 1) R W0 _ _ M0.out hn hx
  rw [hI, hS] at CS0
  have hb2 := nb_lt R.t R.n
  obtain ⟨b, hb⟩ : ∃ b, b = nb R.t R.n := ⟨_, rfl⟩
  rw [← hb] at CS0 hb2 hB h5
  obtain ⟨m, hm⟩ : ∃ m, m = b % 8 := ⟨_, rfl⟩
  have hm8 : m < 8 := by omega
  rw [← hm] at CS0 hB h5
  have CS := Lib.hid CS0
  subst h5
  have CE0 := fun (W : World) (hA : At W0 W g ({ R with n := R.n + 1 })) => extC0 g 5 0 1 _ W0 W hA (by decide) (by decide) hx (by omega)
  try simp only at CE0
  rw [hB] at CE0
  have CE := Lib.hid CE0
  have CT := Lib.hid (fun (W : World) (hA : At W0 W g ({ R with n := R.n + 1 })) => takeSNo g 4 _ W0 W aE aR hsn hA (show okSize (4 : Nat) by unfold okSize; omega) (by simpa using hk))
  unfold endP at *
  clear h hx hmd hrm8 hrm hB CE0 hn hI hS CS0 hb hm hb2 hk hsn
  go_enter Tryd.func121, Tryd.ntmps121
  go_wp2_with fail
  refine Calls.mono CS.out ?_
  rintro e w1 ⟨rfl, m1⟩
  have M1 := Lib.hid m1
  clear m1
  go_wp2_with fail
  refine Calls.mono (CE.out _ M1.out.at') ?_
  rintro e w2 ⟨rfl, rfl⟩
  have M2 := Lib.hid (M1.out.set (y := memOpd (B : Int) I S 0) 2 (.int .i64 (B : Int)) rfl)
  have x2 := M1.out.xb.cell 2
  simp only [opdL, memOpd, List.getElem?_toArray, List.getElem?_cons_zero, List.getElem?_cons_succ] at x2
  have f2 := M1.out.xb.free 2
  have hl1 := M1.out.at'.lt
  have c10' : w2.cell? ⟨g, 10, none⟩ = some (.int .i64 0) := by have := M1.out.at'.rb.cell 10; simp only [rdA, List.getElem?_toArray, List.getElem?_cons_zero, List.getElem?_cons_succ] at this; rw [MDH.out] at this; exact this
  have hne1 : w.heap.size + 1 ≠ g := by omega
  go_wp2_with fail
  have m2 := M2.out
  refine Calls.mono (CT.out _ m2.at') ?_
  rintro e w3 ⟨rfl, h3⟩
  go_wp2
  exact ⟨rfl, rfl, (ch_alloc w _ g).trans (m2.ch.trans h3)⟩
set_option maxRecDepth 100000 in
set_option maxHeartbeats 2000000 in
theorem mem_1b0 (g : Nat) (R : Rd) (W0 w : World) (I S : Int) (B : Nat) (h : At W0 w g R) (hx : R.rex < 80) (hmd : R.md = 0) (hrm8 : R.rm < 8) (hrm : R.rm = 4) (hn : R.n < R.t.size) (hI : sibI (nb R.t R.n) R.rex = I) (hS : sibS (nb R.t R.n) R.rex = S) (h5 : nb R.t R.n % 8 ≠ 5) (hB : nb R.t R.n % 8 + extB R.rex 0 = B) :
    Calls Tryd.prog 121 #[.pointer (some ⟨g, 0, none⟩)] w fun e w' => e = .returned (V7 (memOpd (B : Int) I S 0)) ∧ Wr W0 w w' g { R with n := R.n + 1 } := by
  have M0 := Lib.hid (MS.newX h 0 (-1) 1 0)
  have c12 := h.rb.cell 12
  have c10 := h.rb.cell 10
  simp only [rdA, List.getElem?_toArray, List.getElem?_cons_zero, List.getElem?_cons_succ] at c12 c10
  rw [hmd] at c10
  rw [hrm] at c12
  have hlt := h.lt
  have MDH := Lib.hid hmd
  have H := Lib.hid h
  have CS0 := sibC g (w.heap.size + 1) R W0 _ _ M0.out hn hx
  rw [hI, hS] at CS0
  have hb2 := nb_lt R.t R.n
  obtain ⟨b, hb⟩ : ∃ b, b = nb R.t R.n := ⟨_, rfl⟩
  rw [← hb] at CS0 hb2 hB h5
  obtain ⟨m, hm⟩ : ∃ m, m = b % 8 := ⟨_, rfl⟩
  have hm8 : m < 8 := by omega
  rw [← hm] at CS0 hB h5
  have CS := Lib.hid CS0
  have CE0 := fun (W : World) (hA : At W0 W g ({ R with n := R.n + 1 })) => extC0 g m 0 1 _ W0 W hA (by decide) (by decide) hx (by omega)
  try simp only at CE0
  rw [hB] at CE0
  have CE := Lib.hid CE0
  have d5 : ((m : Int) == 5) = false := beq_eq_false_iff_ne.mpr (by omega)
  clear h hx hmd hrm8 hrm hB CE0 hn hI hS CS0 hb hm hb2 hm8 h5
  go_enter Tryd.func121, Tryd.ntmps121
  go_wp2_with fail
  refine Calls.mono CS.out ?_
  rintro e w1 ⟨rfl, m1⟩
  have M1 := Lib.hid m1
  clear m1
  go_wp2_with fail
  refine Calls.mono (CE.out _ M1.out.at') ?_
  rintro e w2 ⟨rfl, rfl⟩
  have x0 := M1.out.xb.cell 0
  have x1 := M1.out.xb.cell 1
  have x2 := M1.out.xb.cell 2
  have x3 := M1.out.xb.cell 3
  have x4 := M1.out.xb.cell 4
  have x5 := M1.out.xb.cell 5
  have x6 := M1.out.xb.cell 6
  simp only [opdL, memOpd, List.getElem?_toArray, List.getElem?_cons_zero, List.getElem?_cons_succ] at x0 x1 x2 x3 x4 x5 x6
  have f2 := M1.out.xb.free 2; have f5 := M1.out.xb.free 5
  have hl1 := M1.out.at'.lt
  have c10' : w2.cell? ⟨g, 10, none⟩ = some (.int .i64 0) := by have := M1.out.at'.rb.cell 10; simp only [rdA, List.getElem?_toArray, List.getElem?_cons_zero, List.getElem?_cons_succ] at this; rw [MDH.out] at this; exact this
  have hne1 : w.heap.size + 1 ≠ g := by omega
  have M4 := Lib.hid (M1.out.set (y := memOpd (B : Int) I S 0) 2 (.int .i64 (B : Int)) rfl)
  have hz := M4.out.zo H.out
  have HZ := Lib.hid hz
  clear hz
  go_wp2_with (refine wpList_store_row rfl 25 (.tmp 2) (.tmp 55) rfl w.heap.size (opdL (memOpd (B : Int) I S 0)).toArray rfl rfl 25 _ HZ.out (by kernel_rfl) rfl (opd_one _) ?_)
  have m4 := M4.out
  refine bodyPost_ret (v := .agg (opdL (memOpd (B : Int) I S 0)).toArray) (by exact results_cell_row Tryd.results121 _ _ w.heap.size 25 (opdL (memOpd (B : Int) I S 0)).toArray (0, 0) _ rfl (setRow_heap _ _ _ _ _ _ HZ.out) Tryd.underlying25 rfl (by kernel_rfl)) (by rfl) ⟨rfl, m4.fin H.out⟩
set_option maxRecDepth 100000 in
set_option maxHeartbeats 2000000 in
theorem mem_1b1 (g : Nat) (R : Rd) (W0 w : World) (I S : Int) (B : Nat) (v : Int) (h : At W0 w g R) (hx : R.rex < 80) (hmd : R.md = 1) (hrm8 : R.rm < 8) (hrm : R.rm = 4) (hn : R.n < R.t.size) (hI : sibI (nb R.t R.n) R.rex = I) (hS : sibS (nb R.t R.n) R.rex = S) (hB : nb R.t R.n % 8 + extB R.rex 0 = B) (hv : sgV R.t (R.n + 1) 1 = v) (hk : R.n + 1 + 1 ≤ R.t.size) :
    Calls Tryd.prog 121 #[.pointer (some ⟨g, 0, none⟩)] w fun e w' => e = .returned (V7 (memOpd (B : Int) I S v)) ∧ Wr W0 w w' g { R with n := R.n + 1 + 1 } := by
  have M0 := Lib.hid (MS.newX h 0 (-1) 1 0)
  have c12 := h.rb.cell 12
  have c10 := h.rb.cell 10
  simp only [rdA, List.getElem?_toArray, List.getElem?_cons_zero, List.getElem?_cons_succ] at c12 c10
  rw [hmd] at c10
  rw [hrm] at c12
  have hlt := h.lt
  have MDH := Lib.hid hmd
  have H := Lib.hid h
  have CS0 := sibC g (w.heap.size + 1) R W0 _ _ M0.out hn hx
  rw [hI, hS] at CS0
  have hb2 := nb_lt R.t R.n
  obtain ⟨b, hb⟩ : ∃ b, b = nb R.t R.n := ⟨_, rfl⟩
  rw [← hb] at CS0 hb2 hB
  obtain ⟨m, hm⟩ : ∃ m, m = b % 8 := ⟨_, rfl⟩
  have hm8 : m < 8 := by omega
  rw [← hm] at CS0 hB
  have CS := Lib.hid CS0
  have CE0 := fun (W : World) (hA : At W0 W g ({ R with n := R.n + 1 })) => extC0 g m 0 1 _ W0 W hA (by decide) (by decide) hx (by omega)
  try simp only at CE0
  rw [hB] at CE0
  have CE := Lib.hid CE0
  have CT0 := fun (W : World) (hA : At W0 W g ({ R with n := R.n + 1 })) => takeSYes g 1 _ W0 W hA (show okSize (1 : Nat) by unfold okSize; omega) (by simpa using hk)
  try simp only at CT0
  rw [hv] at CT0
  have CT := Lib.hid CT0
  clear h hx hmd hrm8 hrm hB CE0 hn hI hS CS0 hb hm hb2 hm8 hk CT0 hv
  go_enter Tryd.func121, Tryd.ntmps121
  go_wp2_with fail
  refine Calls.mono CS.out ?_
  rintro e w1 ⟨rfl, m1⟩
  have M1 := Lib.hid m1
  clear m1
  go_wp2_with fail
  refine Calls.mono (CE.out _ M1.out.at') ?_
  rintro e w2 ⟨rfl, rfl⟩
  have M2 := Lib.hid (M1.out.set (y := memOpd (B : Int) I S 0) 2 (.int .i64 (B : Int)) rfl)
  have x2 := M1.out.xb.cell 2
  simp only [opdL, memOpd, List.getElem?_toArray, List.getElem?_cons_zero, List.getElem?_cons_succ] at x2
  have f2 := M1.out.xb.free 2
  have hl1 := M1.out.at'.lt
  have c10' : w2.cell? ⟨g, 10, none⟩ = some (.int .i64 1) := by have := M1.out.at'.rb.cell 10; simp only [rdA, List.getElem?_toArray, List.getElem?_cons_zero, List.getElem?_cons_succ] at this; rw [MDH.out] at this; exact this
  have hne1 : w.heap.size + 1 ≠ g := by omega
  go_wp2_with fail
  have m2 := M2.out
  refine Calls.mono (CT.out _ m2.at') ?_
  rintro e w3 ⟨rfl, h3⟩
  have M3 := Lib.hid (m2.wr h3)
  clear h3 m2
  clear x2 f2
  have x0 := M3.out.xb.cell 0
  have x1 := M3.out.xb.cell 1
  have x2 := M3.out.xb.cell 2
  have x3 := M3.out.xb.cell 3
  have x4 := M3.out.xb.cell 4
  have x5 := M3.out.xb.cell 5
  have x6 := M3.out.xb.cell 6
  simp only [opdL, memOpd, List.getElem?_toArray, List.getElem?_cons_zero, List.getElem?_cons_succ] at x0 x1 x2 x3 x4 x5 x6
  have f2 := M3.out.xb.free 2; have f5 := M3.out.xb.free 5
  have M4 := Lib.hid (M3.out.set (y := memOpd (B : Int) I S v) 5 (.int .i64 v) rfl)
  have HZ := Lib.hid (M4.out.zo H.out)
  go_wp2_with (refine wpList_store_row rfl 25 (.tmp 2) (.tmp 55) rfl w.heap.size (opdL (memOpd (B : Int) I S v)).toArray rfl rfl 25 _ HZ.out (by kernel_rfl) rfl (opd_one _) ?_)
  refine bodyPost_ret (v := .agg (opdL (memOpd (B : Int) I S v)).toArray) (by exact results_cell_row Tryd.results121 _ _ w.heap.size 25 (opdL (memOpd (B : Int) I S v)).toArray (0, 0) _ rfl (setRow_heap _ _ _ _ _ _ HZ.out) Tryd.underlying25 rfl (by kernel_rfl)) (by rfl) ⟨rfl, M4.out.fin H.out⟩
set_option maxRecDepth 100000 in
set_option maxHeartbeats 2000000 in
theorem mem_1b1n (g : Nat) (R : Rd) (W0 w : World) (aE aR : Addr) (hsn : Sent W0 aE aR) (I S : Int) (B : Nat) (h : At W0 w g R) (hx : R.rex < 80) (hmd : R.md = 1) (hrm8 : R.rm < 8) (hrm : R.rm = 4) (hn : R.n < R.t.size) (hI : sibI (nb R.t R.n) R.rex = I) (hS : sibS (nb R.t R.n) R.rex = S) (hB : nb R.t R.n % 8 + extB R.rex 0 = B) (hk : R.t.size < R.n + 1 + 1) :
    Calls Tryd.prog 121 #[.pointer (some ⟨g, 0, none⟩)] w fun e w' => e = endP ∧ Ch w w' g := by
  have M0 := Lib.hid (MS.newX h 0 (-1) 1 0)
  have c12 := h.rb.cell 12
  have c10 := h.rb.cell 10
  simp only [rdA, List.getElem?_toArray, List.getElem?_cons_zero, List.getElem?_cons_succ] at c12 c10
  rw [hmd] at c10
  rw [hrm] at c12
  have hlt := h.lt
  have MDH := Lib.hid hmd
  have H := Lib.hid h
  have CS0 := sibC g (w.heap.size + 1) R W0 _ _ M0.out hn hx
  rw [hI, hS] at CS0
  have hb2 := nb_lt R.t R.n
  obtain ⟨b, hb⟩ : ∃ b, b = nb R.t R.n := ⟨_, rfl⟩
  rw [← hb] at CS0 hb2 hB
  obtain ⟨m, hm⟩ : ∃ m, m = b % 8 := ⟨_, rfl⟩
  have hm8 : m < 8 := by omega
  rw [← hm] at CS0 hB
  have CS := Lib.hid CS0
  have CE0 := fun (W : World) (hA : At W0 W g ({ R with n := R.n + 1 })) => extC0 g m 0 1 _ W0 W hA (by decide) (by decide) hx (by omega)
  try simp only at CE0
  rw [hB] at CE0
  have CE := Lib.hid CE0
  have CT := Lib.hid (fun (W : World) (hA : At W0 W g ({ R with n := R.n + 1 })) => takeSNo g 1 _ W0 W aE aR hsn hA (show okSize (1 : Nat) by unfold okSize; omega) (by simpa using hk))
  unfold endP at *
  clear h hx hmd hrm8 hrm hB CE0 hn hI hS CS0 hb hm hb2 hm8 hk hsn
  go_enter Tryd.func121, Tryd.ntmps121
  go_wp2_with fail
  refine Calls.mono CS.out ?_
  rintro e w1 ⟨rfl, m1⟩
  have M1 := Lib.hid m1
  clear m1
  go_wp2_with fail
  refine Calls.mono (CE.out _ M1.out.at') ?_
  rintro e w2 ⟨rfl, rfl⟩
  have M2 := Lib.hid (M1.out.set (y := memOpd (B : Int) I S 0) 2 (.int .i64 (B : Int)) rfl)
  have x2 := M1.out.xb.cell 2
  simp only [opdL, memOpd, List.getElem?_toArray, List.getElem?_cons_zero, List.getElem?_cons_succ] at x2
  have f2 := M1.out.xb.free 2
  have hl1 := M1.out.at'.lt
  have c10' : w2.cell? ⟨g, 10, none⟩ = some (.int .i64 1) := by have := M1.out.at'.rb.cell 10; simp only [rdA, List.getElem?_toArray, List.getElem?_cons_zero, List.getElem?_cons_succ] at this; rw [MDH.out] at this; exact this
  have hne1 : w.heap.size + 1 ≠ g := by omega
  go_wp2_with fail
  have m2 := M2.out
  refine Calls.mono (CT.out _ m2.at') ?_
  rintro e w3 ⟨rfl, h3⟩
  go_wp2
  exact ⟨rfl, rfl, (ch_alloc w _ g).trans (m2.ch.trans h3)⟩
set_option maxRecDepth 100000 in
set_option maxHeartbeats 2000000 in
theorem mem_1b4 (g : Nat) (R : Rd) (W0 w : World) (I S : Int) (B : Nat) (v : Int) (h : At W0 w g R) (hx : R.rex < 80) (hmd : R.md = 2) (hrm8 : R.rm < 8) (hrm : R.rm = 4) (hn : R.n < R.t.size) (hI : sibI (nb R.t R.n) R.rex = I) (hS : sibS (nb R.t R.n) R.rex = S) (hB : nb R.t R.n % 8 + extB R.rex 0 = B) (hv : sgV R.t (R.n + 1) 4 = v) (hk : R.n + 1 + 4 ≤ R.t.size) :
    Calls Tryd.prog 121 #[.pointer (some ⟨g, 0, none⟩)] w fun e w' => e = .returned (V7 (memOpd (B : Int) I S v)) ∧ Wr W0 w w' g { R with n := R.n + 1 + 4 } := by
  have M0 := Lib.hid (MS.newX h 0 (-1) 1 0)
  have c12 := h.rb.cell 12
  have c10 := h.rb.cell 10
  simp only [rdA, List.getElem?_toArray, List.getElem?_cons_zero, List.getElem?_cons_succ] at c12 c10
  rw [hmd] at c10
  rw [hrm] at c12
  have hlt := h.lt
  have MDH := Lib.hid hmd
  have H := Lib.hid h
  have CS0 := sibC g (w.heap.size + 1) R W0 _ _ M0.out hn hx
  rw [hI, hS] at CS0
  have hb2 := nb_lt R.t R.n
  obtain ⟨b, hb⟩ : ∃ b, b = nb R.t R.n := ⟨_, rfl⟩
  rw [← hb] at CS0 hb2 hB
  obtain ⟨m, hm⟩ : ∃ m, m = b % 8 := ⟨_, rfl⟩
  have hm8 : m < 8 := by omega
  rw [← hm] at CS0 hB
  have CS := Lib.hid CS0
  have CE0 := fun (W : World) (hA : At W0 W g ({ R with n := R.n + 1 })) => extC0 g m 0 1 _ W0 W hA (by decide) (by decide) hx (by omega)
  try simp only at CE0
  rw [hB] at CE0
  have CE := Lib.hid CE0
  have CT0 := fun (W : World) (hA : At W0 W g ({ R with n := R.n + 1 })) => takeSYes g 4 _ W0 W hA (show okSize (4 : Nat) by unfold okSize; omega) (by simpa using hk)
  try simp only at CT0
  rw [hv] at CT0
  have CT := Lib.hid CT0
  clear h hx hmd hrm8 hrm hB CE0 hn hI hS CS0 hb hm hb2 hm8 hk CT0 hv
  go_enter Tryd.func121, Tryd.ntmps121
  go_wp2_with fail
  refine Calls.mono CS.out ?_
  rintro e w1 ⟨rfl, m1⟩
  have M1 := Lib.hid m1
  clear m1
  go_wp2_with fail
  refine Calls.mono (CE.out _ M1.out.at') ?_
  rintro e w2 ⟨rfl, rfl⟩
  have M2 := Lib.hid (M1.out.set (y := memOpd (B : Int) I S 0) 2 (.int .i64 (B : Int)) rfl)
  have x2 := M1.out.xb.cell 2
  simp only [opdL, memOpd, List.getElem?_toArray, List.getElem?_cons_zero, List.getElem?_cons_succ] at x2
  have f2 := M1.out.xb.free 2
  have hl1 := M1.out.at'.lt
  have c10' : w2.cell? ⟨g, 10, none⟩ = some (.int .i64 2) := by have := M1.out.at'.rb.cell 10; simp only [rdA, List.getElem?_toArray, List.getElem?_cons_zero, List.getElem?_cons_succ] at this; rw [MDH.out] at this; exact this
  have hne1 : w.heap.size + 1 ≠ g := by omega
  go_wp2_with fail
  have m2 := M2.out
  refine Calls.mono (CT.out _ m2.at') ?_
  rintro e w3 ⟨rfl, h3⟩
  have M3 := Lib.hid (m2.wr h3)
  clear h3 m2
  clear x2 f2
  have x0 := M3.out.xb.cell 0
  have x1 := M3.out.xb.cell 1
  have x2 := M3.out.xb.cell 2
  have x3 := M3.out.xb.cell 3
  have x4 := M3.out.xb.cell 4
  have x5 := M3.out.xb.cell 5
  have x6 := M3.out.xb.cell 6
  simp only [opdL, memOpd, List.getElem?_toArray, List.getElem?_cons_zero, List.getElem?_cons_succ] at x0 x1 x2 x3 x4 x5 x6
  have f2 := M3.out.xb.free 2; have f5 := M3.out.xb.free 5
  have M4 := Lib.hid (M3.out.set (y := memOpd (B : Int) I S v) 5 (.int .i64 v) rfl)
  have HZ := Lib.hid (M4.out.zo H.out)
  go_wp2_with (refine wpList_store_row rfl 25 (.tmp 2) (.tmp 55) rfl w.heap.size (opdL (memOpd (B : Int) I S v)).toArray rfl rfl 25 _ HZ.out (by kernel_rfl) rfl (opd_one _) ?_)
  refine bodyPost_ret (v := .agg (opdL (memOpd (B : Int) I S v)).toArray) (by exact results_cell_row Tryd.results121 _ _ w.heap.size 25 (opdL (memOpd (B : Int) I S v)).toArray (0, 0) _ rfl (setRow_heap _ _ _ _ _ _ HZ.out) Tryd.underlying25 rfl (by kernel_rfl)) (by rfl) ⟨rfl, M4.out.fin H.out⟩
set_option maxRecDepth 100000 in
set_option maxHeartbeats 2000000 in
theorem mem_1b4n (g : Nat) (R : Rd) (W0 w : World) (aE aR : Addr) (hsn : Sent W0 aE aR) (I S : Int) (B : Nat) (h : At W0 w g R) (hx : R.rex < 80) (hmd : R.md = 2) (hrm8 : R.rm < 8) (hrm : R.rm = 4) (hn : R.n < R.t.size) (hI : sibI (nb R.t R.n) R.rex = I) (hS : sibS (nb R.t R.n) R.rex = S) (hB : nb R.t R.n % 8 + extB R.rex 0 = B) (hk : R.t.size < R.n + 1 + 4) :
    Calls Tryd.prog 121 #[.pointer (some ⟨g, 0, none⟩)] w fun e w' => e = endP ∧ Ch w w' g := by
  have M0 := Lib.hid (MS.newX h 0 (-1) 1 0)
  have c12 := h.rb.cell 12
  have c10 := h.rb.cell 10
  simp only [rdA, List.getElem?_toArray, List.getElem?_cons_zero, List.getElem?_cons_succ] at c12 c10
  rw [hmd] at c10
  rw [hrm] at c12
  have hlt := h.lt
  have MDH := Lib.hid hmd
  have H := Lib.hid h
  have CS0 := sibC g (w.heap.size + 1) R W0 _ _ M0.out hn hx
  rw [hI, hS] at CS0
  have hb2 := nb_lt R.t R.n
  obtain ⟨b, hb⟩ : ∃ b, b = nb R.t R.n := ⟨_, rfl⟩
  rw [← hb] at CS0 hb2 hB
  obtain ⟨m, hm⟩ : ∃ m, m = b % 8 := ⟨_, rfl⟩
  have hm8 : m < 8 := by omega
  rw [← hm] at CS0 hB
  have CS := Lib.hid CS0
  have CE0 := fun (W : World) (hA : At W0 W g ({ R with n := R.n + 1 })) => extC0 g m 0 1 _ W0 W hA (by decide) (by decide) hx (by omega)
  try simp only at CE0
  rw [hB] at CE0
  have CE := Lib.hid CE0
  have CT := Lib.hid (fun (W : World) (hA : At W0 W g ({ R with n := R.n + 1 })) => takeSNo g 4 _ W0 W aE aR hsn hA (show okSize (4 : Nat) by unfold okSize; omega) (by simpa using hk))
  unfold endP at *
  clear h hx hmd hrm8 hrm hB CE0 hn hI hS CS0 hb hm hb2 hm8 hk hsn
  go_enter Tryd.func121, Tryd.ntmps121
  go_wp2_with fail
  refine Calls.mono CS.out ?_
  rintro e w1 ⟨rfl, m1⟩
  have M1 := Lib.hid m1
  clear m1
  go_wp2_with fail
  refine Calls.mono (CE.out _ M1.out.at') ?_
  rintro e w2 ⟨rfl, rfl⟩
  have M2 := Lib.hid (M1.out.set (y := memOpd (B : Int) I S 0) 2 (.int .i64 (B : Int)) rfl)
  have x2 := M1.out.xb.cell 2
  simp only [opdL, memOpd, List.getElem?_toArray, List.getElem?_cons_zero, List.getElem?_cons_succ] at x2
  have f2 := M1.out.xb.free 2
  have hl1 := M1.out.at'.lt
  have c10' : w2.cell? ⟨g, 10, none⟩ = some (.int .i64 2) := by have := M1.out.at'.rb.cell 10; simp only [rdA, List.getElem?_toArray, List.getElem?_cons_zero, List.getElem?_cons_succ] at this; rw [MDH.out] at this; exact this
  have hne1 : w.heap.size + 1 ≠ g := by omega
  go_wp2_with fail
  have m2 := M2.out
  refine Calls.mono (CT.out _ m2.at') ?_
  rintro e w3 ⟨rfl, h3⟩
  go_wp2
  exact ⟨rfl, rfl, (ch_alloc w _ g).trans (m2.ch.trans h3)⟩
set_option maxRecDepth 100000 in
set_option maxHeartbeats 2000000 in
theorem mem_0ip4 (g : Nat) (R : Rd) (W0 w : World) (B : Nat) (v : Int) (h : At W0 w g R) (hx : R.rex < 80) (hmd : R.md = 0) (hrm8 : R.rm < 8) (hrm : R.rm = 5) (hB : R.rm + extB R.rex 0 = B) (hv : sgV R.t (R.n) 4 = v) (hk : R.n + 4 ≤ R.t.size) :
    Calls Tryd.prog 121 #[.pointer (some ⟨g, 0, none⟩)] w fun e w' => e = .returned (V7 (memOpd 16 (-1) 1 v)) ∧ Wr W0 w w' g { R with n := R.n + 4 } := by
  have M0 := Lib.hid (MS.newX h 0 (-1) 1 0)
  have c12 := h.rb.cell 12
  have c10 := h.rb.cell 10
  simp only [rdA, List.getElem?_toArray, List.getElem?_cons_zero, List.getElem?_cons_succ] at c12 c10
  rw [hmd] at c10
  rw [hrm] at c12
  have hlt := h.lt
  have H := Lib.hid h
  rw [hrm] at hB
  have CE0 := fun (W : World) (hA : At W0 W g (R)) => extC0 g 5 0 1 _ W0 W hA (by decide) (by decide) hx (by omega)
  try simp only at CE0
  rw [hB] at CE0
  have CE := Lib.hid CE0
  have CT0 := fun (W : World) (hA : At W0 W g (R)) => takeSYes g 4 _ W0 W hA (show okSize (4 : Nat) by unfold okSize; omega) (by simpa using hk)
  try simp only at CT0
  rw [hv] at CT0
  have CT := Lib.hid CT0
  clear h hx hmd hrm8 hrm hB CE0 hk CT0 hv
  go_enter Tryd.func121, Tryd.ntmps121
  go_wp2_with fail
  refine Calls.mono (CE.out _ M0.out.at') ?_
  rintro e w2 ⟨rfl, rfl⟩
  have M2 := Lib.hid (MS.newX H.out (B : Int) (-1) 1 0)
  go_wp2_with fail
  have m2 := M2.out
  refine Calls.mono (CT.out _ m2.at') ?_
  rintro e w3 ⟨rfl, h3⟩
  have M3 := Lib.hid (m2.wr h3)
  clear h3 m2
  have x0 := M3.out.xb.cell 0
  have x1 := M3.out.xb.cell 1
  have x2 := M3.out.xb.cell 2
  have x3 := M3.out.xb.cell 3
  have x4 := M3.out.xb.cell 4
  have x5 := M3.out.xb.cell 5
  have x6 := M3.out.xb.cell 6
  simp only [opdL, memOpd, List.getElem?_toArray, List.getElem?_cons_zero, List.getElem?_cons_succ] at x0 x1 x2 x3 x4 x5 x6
  have f2 := M3.out.xb.free 2; have f5 := M3.out.xb.free 5
  have M4 := Lib.hid ((M3.out.set (y := memOpd 16 (-1) 1 0) 2 (.int .i64 16) rfl).set (y := memOpd 16 (-1) 1 v) 5 (.int .i64 v) rfl)
  have HZ := Lib.hid (M4.out.zo H.out)
  go_wp2_with (refine wpList_store_row rfl 25 (.tmp 2) (.tmp 55) rfl w.heap.size (opdL (memOpd 16 (-1) 1 v)).toArray rfl rfl 25 _ HZ.out (by kernel_rfl) rfl (opd_one _) ?_)
  refine bodyPost_ret (v := .agg (opdL (memOpd 16 (-1) 1 v)).toArray) (by exact results_cell_row Tryd.results121 _ _ w.heap.size 25 (opdL (memOpd 16 (-1) 1 v)).toArray (0, 0) _ rfl (setRow_heap _ _ _ _ _ _ HZ.out) Tryd.underlying25 rfl (by kernel_rfl)) (by rfl) ⟨rfl, M4.out.fin H.out⟩
set_option maxRecDepth 100000 in
set_option maxHeartbeats 2000000 in
theorem mem_0ip4n (g : Nat) (R : Rd) (W0 w : World) (aE aR : Addr) (hsn : Sent W0 aE aR) (B : Nat) (h : At W0 w g R) (hx : R.rex < 80) (hmd : R.md = 0) (hrm8 : R.rm < 8) (hrm : R.rm = 5) (hB : R.rm + extB R.rex 0 = B) (hk : R.t.size < R.n + 4) :
    Calls Tryd.prog 121 #[.pointer (some ⟨g, 0, none⟩)] w fun e w' => e = endP ∧ Ch w w' g := by
  have M0 := Lib.hid (MS.newX h 0 (-1) 1 0)
  have c12 := h.rb.cell 12
  have c10 := h.rb.cell 10
  simp only [rdA, List.getElem?_toArray, List.getElem?_cons_zero, List.getElem?_cons_succ] at c12 c10
  rw [hmd] at c10
  rw [hrm] at c12
  have hlt := h.lt
  have H := Lib.hid h
  rw [hrm] at hB
  have CE0 := fun (W : World) (hA : At W0 W g (R)) => extC0 g 5 0 1 _ W0 W hA (by decide) (by decide) hx (by omega)
  try simp only at CE0
  rw [hB] at CE0
  have CE := Lib.hid CE0
  have CT := Lib.hid (fun (W : World) (hA : At W0 W g (R)) => takeSNo g 4 _ W0 W aE aR hsn hA (show okSize (4 : Nat) by unfold okSize; omega) (by simpa using hk))
  unfold endP at *
  clear h hx hmd hrm8 hrm hB CE0 hk hsn
  go_enter Tryd.func121, Tryd.ntmps121
  go_wp2_with fail
  refine Calls.mono (CE.out _ M0.out.at') ?_
  rintro e w2 ⟨rfl, rfl⟩
  have M2 := Lib.hid (MS.newX H.out (B : Int) (-1) 1 0)
  go_wp2_with fail
  have m2 := M2.out
  refine Calls.mono (CT.out _ m2.at') ?_
  rintro e w3 ⟨rfl, h3⟩
  go_wp2
  exact ⟨rfl, rfl, (ch_alloc w _ g).trans (m2.ch.trans h3)⟩
set_option maxRecDepth 100000 in
set_option maxHeartbeats 2000000 in
theorem mem_0b0 (g : Nat) (R : Rd) (W0 w : World) (B : Nat) (h : At W0 w g R) (hx : R.rex < 80) (hmd : R.md = 0) (hrm8 : R.rm < 8) (hrm : R.rm ≠ 4) (hr5 : R.rm ≠ 5) (hB : R.rm + extB R.rex 0 = B) :
    Calls Tryd.prog 121 #[.pointer (some ⟨g, 0, none⟩)] w fun e w' => e = .returned (V7 (memOpd (B : Int) (-1) 1 0)) ∧ Wr W0 w w' g { R with n := R.n } := by
  have M0 := Lib.hid (MS.newX h 0 (-1) 1 0)
  have c12 := h.rb.cell 12
  have c10 := h.rb.cell 10
  simp only [rdA, List.getElem?_toArray, List.getElem?_cons_zero, List.getElem?_cons_succ] at c12 c10
  rw [hmd] at c10
  have hlt := h.lt
  have H := Lib.hid h
  have CE0 := fun (W : World) (hA : At W0 W g (R)) => extC0 g R.rm 0 1 _ W0 W hA (by decide) (by decide) hx (by omega)
  try simp only at CE0
  rw [hB] at CE0
  have CE := Lib.hid CE0
  have d5 : ((R.rm : Int) == 5) = false := beq_eq_false_iff_ne.mpr (by omega)
  have d4 : ((R.rm : Int) == 4) = false := beq_eq_false_iff_ne.mpr (by omega)
  clear h hx hmd hrm8 hrm hB CE0 hr5
  go_enter Tryd.func121, Tryd.ntmps121
  go_wp2_with fail
  refine Calls.mono (CE.out _ M0.out.at') ?_
  rintro e w2 ⟨rfl, rfl⟩
  have M4 := Lib.hid (MS.newX H.out (B : Int) (-1) 1 0)
  have hz := M4.out.zo H.out
  have HZ := Lib.hid hz
  clear hz
  go_wp2_with (refine wpList_store_row rfl 25 (.tmp 2) (.tmp 55) rfl w.heap.size (opdL (memOpd (B : Int) (-1) 1 0)).toArray rfl rfl 25 _ HZ.out (by kernel_rfl) rfl (opd_one _) ?_)
  have m4 := M4.out
  refine bodyPost_ret (v := .agg (opdL (memOpd (B : Int) (-1) 1 0)).toArray) (by exact results_cell_row Tryd.results121 _ _ w.heap.size 25 (opdL (memOpd (B : Int) (-1) 1 0)).toArray (0, 0) _ rfl (setRow_heap _ _ _ _ _ _ HZ.out) Tryd.underlying25 rfl (by kernel_rfl)) (by rfl) ⟨rfl, m4.fin H.out⟩
set_option maxRecDepth 100000 in
set_option maxHeartbeats 2000000 in
theorem mem_0b1 (g : Nat) (R : Rd) (W0 w : World) (B : Nat) (v : Int) (h : At W0 w g R) (hx : R.rex < 80) (hmd : R.md = 1) (hrm8 : R.rm < 8) (hrm : R.rm ≠ 4) (hB : R.rm + extB R.rex 0 = B) (hv : sgV R.t (R.n) 1 = v) (hk : R.n + 1 ≤ R.t.size) :
    Calls Tryd.prog 121 #[.pointer (some ⟨g, 0, none⟩)] w fun e w' => e = .returned (V7 (memOpd (B : Int) (-1) 1 v)) ∧ Wr W0 w w' g { R with n := R.n + 1 } := by
  have M0 := Lib.hid (MS.newX h 0 (-1) 1 0)
  have c12 := h.rb.cell 12
  have c10 := h.rb.cell 10
  simp only [rdA, List.getElem?_toArray, List.getElem?_cons_zero, List.getElem?_cons_succ] at c12 c10
  rw [hmd] at c10
  have hlt := h.lt
  have H := Lib.hid h
  have CE0 := fun (W : World) (hA : At W0 W g (R)) => extC0 g R.rm 0 1 _ W0 W hA (by decide) (by decide) hx (by omega)
  try simp only at CE0
  rw [hB] at CE0
  have CE := Lib.hid CE0
  have CT0 := fun (W : World) (hA : At W0 W g (R)) => takeSYes g 1 _ W0 W hA (show okSize (1 : Nat) by unfold okSize; omega) (by simpa using hk)
  try simp only at CT0
  rw [hv] at CT0
  have CT := Lib.hid CT0
  have d4 : ((R.rm : Int) == 4) = false := beq_eq_false_iff_ne.mpr (by omega)
  clear h hx hmd hrm8 hrm hB CE0 hk CT0 hv
  go_enter Tryd.func121, Tryd.ntmps121
  go_wp2_with fail
  refine Calls.mono (CE.out _ M0.out.at') ?_
  rintro e w2 ⟨rfl, rfl⟩
  have M2 := Lib.hid (MS.newX H.out (B : Int) (-1) 1 0)
  go_wp2_with fail
  have m2 := M2.out
  refine Calls.mono (CT.out _ m2.at') ?_
  rintro e w3 ⟨rfl, h3⟩
  have M3 := Lib.hid (m2.wr h3)
  clear h3 m2
  have x0 := M3.out.xb.cell 0
  have x1 := M3.out.xb.cell 1
  have x2 := M3.out.xb.cell 2
  have x3 := M3.out.xb.cell 3
  have x4 := M3.out.xb.cell 4
  have x5 := M3.out.xb.cell 5
  have x6 := M3.out.xb.cell 6
  simp only [opdL, memOpd, List.getElem?_toArray, List.getElem?_cons_zero, List.getElem?_cons_succ] at x0 x1 x2 x3 x4 x5 x6
  have f2 := M3.out.xb.free 2; have f5 := M3.out.xb.free 5
  have M4 := Lib.hid (M3.out.set (y := memOpd (B : Int) (-1) 1 v) 5 (.int .i64 v) rfl)
  have HZ := Lib.hid (M4.out.zo H.out)
  go_wp2_with (refine wpList_store_row rfl 25 (.tmp 2) (.tmp 55) rfl w.heap.size (opdL (memOpd (B : Int) (-1) 1 v)).toArray rfl rfl 25 _ HZ.out (by kernel_rfl) rfl (opd_one _) ?_)
  refine bodyPost_ret (v := .agg (opdL (memOpd (B : Int) (-1) 1 v)).toArray) (by exact results_cell_row Tryd.results121 _ _ w.heap.size 25 (opdL (memOpd (B : Int) (-1) 1 v)).toArray (0, 0) _ rfl (setRow_heap _ _ _ _ _ _ HZ.out) Tryd.underlying25 rfl (by kernel_rfl)) (by rfl) ⟨rfl, M4.out.fin H.out⟩
set_option maxRecDepth 100000 in
set_option maxHeartbeats 2000000 in
theorem mem_0b1n (g : Nat) (R : Rd) (W0 w : World) (aE aR : Addr) (hsn : Sent W0 aE aR) (B : Nat) (h : At W0 w g R) (hx : R.rex < 80) (hmd : R.md = 1) (hrm8 : R.rm < 8) (hrm : R.rm ≠ 4) (hB : R.rm + extB R.rex 0 = B) (hk : R.t.size < R.n + 1) :
    Calls Tryd.prog 121 #[.pointer (some ⟨g, 0, none⟩)] w fun e w' => e = endP ∧ Ch w w' g := by
  have M0 := Lib.hid (MS.newX h 0 (-1) 1 0)
  have c12 := h.rb.cell 12
  have c10 := h.rb.cell 10
  simp only [rdA, List.getElem?_toArray, List.getElem?_cons_zero, List.getElem?_cons_succ] at c12 c10
  rw [hmd] at c10
  have hlt := h.lt
  have H := Lib.hid h
  have CE0 := fun (W : World) (hA : At W0 W g (R)) => extC0 g R.rm 0 1 _ W0 W hA (by decide) (by decide) hx (by omega)
  try simp only at CE0
  rw [hB] at CE0
  have CE := Lib.hid CE0
  have CT := Lib.hid (fun (W : World) (hA : At W0 W g (R)) => takeSNo g 1 _ W0 W aE aR hsn hA (show okSize (1 : Nat) by unfold okSize; omega) (by simpa using hk))
  unfold endP at *
  have d4 : ((R.rm : Int) == 4) = false := beq_eq_false_iff_ne.mpr (by omega)
  clear h hx hmd hrm8 hrm hB CE0 hk hsn
  go_enter Tryd.func121, Tryd.ntmps121
  go_wp2_with fail
  refine Calls.mono (CE.out _ M0.out.at') ?_
  rintro e w2 ⟨rfl, rfl⟩
  have M2 := Lib.hid (MS.newX H.out (B : Int) (-1) 1 0)
  go_wp2_with fail
  have m2 := M2.out
  refine Calls.mono (CT.out _ m2.at') ?_
  rintro e w3 ⟨rfl, h3⟩
  go_wp2
  exact ⟨rfl, rfl, (ch_alloc w _ g).trans (m2.ch.trans h3)⟩
set_option maxRecDepth 100000 in
set_option maxHeartbeats 2000000 in
theorem mem_0b4 (g : Nat) (R : Rd) (W0 w : World) (B : Nat) (v : Int) (h : At W0 w g R) (hx : R.rex < 80) (hmd : R.md = 2) (hrm8 : R.rm < 8) (hrm : R.rm ≠ 4) (hB : R.rm + extB R.rex 0 = B) (hv : sgV R.t (R.n) 4 = v) (hk : R.n + 4 ≤ R.t.size) :
    Calls Tryd.prog 121 #[.pointer (some ⟨g, 0, none⟩)] w fun e w' => e = .returned (V7 (memOpd (B : Int) (-1) 1 v)) ∧ Wr W0 w w' g { R with n := R.n + 4 } := by
  have M0 := Lib.hid (MS.newX h 0 (-1) 1 0)
  have c12 := h.rb.cell 12
  have c10 := h.rb.cell 10
  simp only [rdA, List.getElem?_toArray, List.getElem?_cons_zero, List.getElem?_cons_succ] at c12 c10
  rw [hmd] at c10
  have hlt := h.lt
  have H := Lib.hid h
  have CE0 := fun (W : World) (hA : At W0 W g (R)) => extC0 g R.rm 0 1 _ W0 W hA (by decide) (by decide) hx (by omega)
  try simp only at CE0
  rw [hB] at CE0
  have CE := Lib.hid CE0
  have CT0 := fun (W : World) (hA : At W0 W g (R)) => takeSYes g 4 _ W0 W hA (show okSize (4 : Nat) by unfold okSize; omega) (by simpa using hk)
  try simp only at CT0
  rw [hv] at CT0
  have CT := Lib.hid CT0
  have d4 : ((R.rm : Int) == 4) = false := beq_eq_false_iff_ne.mpr (by omega)
  clear h hx hmd hrm8 hrm hB CE0 hk CT0 hv
  go_enter Tryd.func121, Tryd.ntmps121
  go_wp2_with fail
  refine Calls.mono (CE.out _ M0.out.at') ?_
  rintro e w2 ⟨rfl, rfl⟩
  have M2 := Lib.hid (MS.newX H.out (B : Int) (-1) 1 0)
  go_wp2_with fail
  have m2 := M2.out
  refine Calls.mono (CT.out _ m2.at') ?_
  rintro e w3 ⟨rfl, h3⟩
  have M3 := Lib.hid (m2.wr h3)
  clear h3 m2
  have x0 := M3.out.xb.cell 0
  have x1 := M3.out.xb.cell 1
  have x2 := M3.out.xb.cell 2
  have x3 := M3.out.xb.cell 3
  have x4 := M3.out.xb.cell 4
  have x5 := M3.out.xb.cell 5
  have x6 := M3.out.xb.cell 6
  simp only [opdL, memOpd, List.getElem?_toArray, List.getElem?_cons_zero, List.getElem?_cons_succ] at x0 x1 x2 x3 x4 x5 x6
  have f2 := M3.out.xb.free 2; have f5 := M3.out.xb.free 5
  have M4 := Lib.hid (M3.out.set (y := memOpd (B : Int) (-1) 1 v) 5 (.int .i64 v) rfl)
  have HZ := Lib.hid (M4.out.zo H.out)
  go_wp2_with (refine wpList_store_row rfl 25 (.tmp 2) (.tmp 55) rfl w.heap.size (opdL (memOpd (B : Int) (-1) 1 v)).toArray rfl rfl 25 _ HZ.out (by kernel_rfl) rfl (opd_one _) ?_)
  refine bodyPost_ret (v := .agg (opdL (memOpd (B : Int) (-1) 1 v)).toArray) (by exact results_cell_row Tryd.results121 _ _ w.heap.size 25 (opdL (memOpd (B : Int) (-1) 1 v)).toArray (0, 0) _ rfl (setRow_heap _ _ _ _ _ _ HZ.out) Tryd.underlying25 rfl (by kernel_rfl)) (by rfl) ⟨rfl, M4.out.fin H.out⟩
set_option maxRecDepth 100000 in
set_option maxHeartbeats 2000000 in
theorem mem_0b4n (g : Nat) (R : Rd) (W0 w : World) (aE aR : Addr) (hsn : Sent W0 aE aR) (B : Nat) (h : At W0 w g R) (hx : R.rex < 80) (hmd : R.md = 2) (hrm8 : R.rm < 8) (hrm : R.rm ≠ 4) (hB : R.rm + extB R.rex 0 = B) (hk : R.t.size < R.n + 4) :
    Calls Tryd.prog 121 #[.pointer (some ⟨g, 0, none⟩)] w fun e w' => e = endP ∧ Ch w w' g := by
  have M0 := Lib.hid (MS.newX h 0 (-1) 1 0)
  have c12 := h.rb.cell 12
  have c10 := h.rb.cell 10
  simp only [rdA, List.getElem?_toArray, List.getElem?_cons_zero, List.getElem?_cons_succ] at c12 c10
  rw [hmd] at c10
  have hlt := h.lt
  have H := Lib.hid h
  have CE0 := fun (W : World) (hA : At W0 W g (R)) => extC0 g R.rm 0 1 _ W0 W hA (by decide) (by decide) hx (by omega)
  try simp only at CE0
  rw [hB] at CE0
  have CE := Lib.hid CE0
  have CT := Lib.hid (fun (W : World) (hA : At W0 W g (R)) => takeSNo g 4 _ W0 W aE aR hsn hA (show okSize (4 : Nat) by unfold okSize; omega) (by simpa using hk))
  unfold endP at *
  have d4 : ((R.rm : Int) == 4) = false := beq_eq_false_iff_ne.mpr (by omega)
  clear h hx hmd hrm8 hrm hB CE0 hk hsn
  go_enter Tryd.func121, Tryd.ntmps121
  go_wp2_with fail
  refine Calls.mono (CE.out _ M0.out.at') ?_
  rintro e w2 ⟨rfl, rfl⟩
  have M2 := Lib.hid (MS.newX H.out (B : Int) (-1) 1 0)
  go_wp2_with fail
  have m2 := M2.out
  refine Calls.mono (CT.out _ m2.at') ?_
  rintro e w3 ⟨rfl, h3⟩
  go_wp2
  exact ⟨rfl, rfl, (ch_alloc w _ g).trans (m2.ch.trans h3)⟩
end Go.Proofs.YtinjpobepcenfaaDoor
