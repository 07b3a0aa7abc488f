/-
  What sib, memory and place of impl's reader do: memory that the bytes tell, or a panic at the text's end, changing nothing but the reader; conditions: those in each head.
-/
import Derived.Test.YtinjpobepcenfaaDoorWalkRd2
import Derived.BigRegion
namespace Go.Proofs.YtinjpobepcenfaaDoor
open Go.RowKit Go.Sort
/-- block g holds an operand -/
def XB (W : World) (b : Nat) (x : Opd) : Prop := W.heap[b]? = some (.cells (opdL x).toArray 25 (0, 0))
theorem XB.cell {W : World} {b : Nat} {x : Opd} (h : XB W b x) (i : Nat) : W.cell? ⟨b, i, none⟩ = (opdL x).toArray[i]? := cell_of_row W b i _ _ (0, 0) h
theorem XB.free {W : World} {b : Nat} {x : Opd} (h : XB W b x) (i : Nat) : W.frozen? ⟨b, i, none⟩ = false := by unfold XB at h; simp [World.frozen?, h]
theorem XB.set {W : World} {b : Nat} {x y : Opd} (h : XB W b x) (i : Nat) (v : Value) (e : (opdL x).toArray.setIfInBounds i v = (opdL y).toArray) : XB (W.setCell ⟨b, i, none⟩ v) b y := by
  unfold XB at *
  simp [World.setCell, Array.getElem?_modify, h, e]
/-- within memory: the reader, the operand that is made, all else as it was -/
structure MS (W0 w00 W : World) (g gx : Nat) (R : Rd) (x : Opd) : Prop where
  at' : At W0 W g R
  eq : gx = w00.heap.size
  xb : XB W gx x
  ch : Ch w00 W g
  ge : W0.heap.size ≤ w00.heap.size
  ne : g < w00.heap.size
theorem MS.set {W0 w00 W : World} {g gx : Nat} {R : Rd} {x y : Opd} (h : MS W0 w00 W g gx R x) (i : Nat) (v : Value) (e : (opdL x).toArray.setIfInBounds i v = (opdL y).toArray) : MS W0 w00 (W.setCell ⟨gx, i, none⟩ v) g gx R y := by
  have hne := h.ne
  have hge := h.ge
  have heq := h.eq
  have hb (k : Nat) (hk : k ≠ gx) : (W.setCell ⟨gx, i, none⟩ v).heap[k]? = W.heap[k]? := Below.heap_setCell _ _ _ _ (by simpa using hk)
  refine ⟨⟨(hb g (by omega)).trans h.at'.rb, h.at'.ge, h.at'.be.setCell (by show _ ≤ gx; omega) _, h.at'.sz, h.at'.le⟩, heq, h.xb.set i v e, ⟨h.ch.os, h.ch.tape, h.ch.output, by simp; exact h.ch.size, fun k hk hn => (hb k (by omega)).trans (h.ch.block k hk hn)⟩, h.ge, h.ne⟩
theorem MS.wr {W0 w00 W W' : World} {g gx : Nat} {R R' : Rd} {x : Opd} (h : MS W0 w00 W g gx R x) (hw : Wr W0 W W' g R') : MS W0 w00 W' g gx R' x :=
  ⟨hw.1, h.eq, (hw.2.block _ (lt_of_blk h.xb) (fun e => by have := h.ne; have := h.eq; have := Option.some.inj e; omega)).trans h.xb, h.ch.trans hw.2, h.ge, h.ne⟩
theorem MS.drewN {W0 w00 W : World} {g gx : Nat} {R : Rd} {x : Opd} (h : MS W0 w00 W g gx R x) (q : Nat) : MS W0 w00 (W.drewN q) g gx R x :=
  ⟨h.at'.below (belQ W q), h.eq, h.xb, h.ch.trans ((Ch.refl _ _).drewN q), h.ge, h.ne⟩
theorem MS.drew {W0 w00 W : World} {g gx : Nat} {R : Rd} {x : Opd} (h : MS W0 w00 W g gx R x) : MS W0 w00 W.drew g gx R x := h.drewN 1
theorem MS.new {W0 w : World} {g : Nat} {R : Rd} (h : At W0 w g R) (x : Opd) : MS W0 w (w.alloc (.cells (opdL x).toArray 25)) g w.heap.size R x :=
  ⟨h.alloc _, rfl, heap_alloc_new w _, ch_alloc _ _ _, h.be.size, h.lt⟩
theorem sh3 : ∀ b, b < 256 → bits .and .i64 (((b : Nat) : Int) / 8) 7 = ((b / 8 % 8 : Nat) : Int) := by decide +kernel
theorem pw64 : ∀ b, b < 256 → wrap64 (2 ^ (b / 64)) = 2 ^ (b / 64) := by decide +kernel
theorem sib_other {b rex : Nat} (h : ¬ b / 8 % 8 + extB rex 1 = 4) : sibI b rex = ((b / 8 % 8 + extB rex 1 : Nat) : Int) ∧ sibS b rex = 2 ^ (b / 64) := by unfold sibI sibS; rw [if_neg h, if_neg h]; exact ⟨rfl, rfl⟩
theorem sib_four {b rex : Nat} (h : b / 8 % 8 + extB rex 1 = 4) : sibI b rex = -1 ∧ sibS b rex = 1 := by unfold sibI sibS; rw [if_pos h, if_pos h]; exact ⟨rfl, rfl⟩
set_option maxHeartbeats 1000000 in
theorem sibOther (g gx : Nat) (R : Rd) (W0 w00 w : World) (b0 i0 s0 d0 : Int) (h : MS W0 w00 w g gx R (memOpd b0 i0 s0 d0)) (hn : R.n < R.t.size) (hx : R.rex < 80) (hi : ¬ nb R.t R.n / 8 % 8 + extB R.rex 1 = 4) :
    Calls Tryd.prog 129 #[.pointer (some ⟨g, 0, none⟩), .pointer (some ⟨gx, 0, none⟩)] w fun e w' => e = .returned (.int .i64 ((nb R.t R.n % 8 : Nat) : Int)) ∧ MS W0 w00 w' g gx { R with n := R.n + 1 } (memOpd b0 (sibI (nb R.t R.n) R.rex) (sibS (nb R.t R.n) R.rex) d0) := by
  have CT0 := takeYes g 1 R W0 w h.at' ok1 hn
  rw [take1] at CT0
  have CT := Lib.hid CT0
  obtain ⟨b, hb⟩ : ∃ b, b = nb R.t R.n := ⟨_, rfl⟩
  have hb2 := nb_lt R.t R.n
  rw [← hb] at CT hi hb2 ⊢
  have a3 := sh3 b hb2
  have a7 := and7 b hb2
  have CE := Lib.hid (fun (w' : World) (h1 : At W0 w' g { R with n := R.n + 1 }) => extC0 g (b / 8 % 8) 1 2 _ W0 w' h1 (by decide) (by decide) hx (by omega))
  obtain ⟨y, hy⟩ : ∃ y, y = b / 8 % 8 + extB R.rex 1 := ⟨_, rfl⟩
  simp only at CE
  have HP := Lib.hid (pw64 b hb2)
  have HS := Lib.hid (sib_other hi)
  rw [← hy] at CE hi
  have hi2 : ((y : Int) != 4) = true := bne_iff_ne.mpr (by omega)
  have H := Lib.hid h; have HY := Lib.hid hy
  clear h hn hx CT0 hb hi hy
  go_enter Tryd.func129, Tryd.ntmps129
  go_wp2_with fail
  refine Calls.mono CT.out ?_
  rintro e w1 ⟨rfl, h1⟩
  have M1 := Lib.hid (H.out.wr h1)
  clear h1
  go_wp2_with fail
  refine Calls.mono (CE.out _ M1.out.at') ?_
  rintro e w2 ⟨rfl, rfl⟩
  have x3 := M1.out.xb.cell 3; have x4 := M1.out.xb.cell 4
  simp only [opdL, memOpd, List.getElem?_toArray, List.getElem?_cons_zero, List.getElem?_cons_succ] at x3 x4
  have f3 := M1.out.xb.free 3; have f4 := M1.out.xb.free 4
  have hd : (0 : Int) ≤ (b : Int) / 64 := Int.ediv_nonneg (by omega) (by omega)
  go_wp2_with fail
  go_region
  all_goals
    go_wp2
    go_ret
    exact ⟨rfl, ((M1.out.set (y := memOpd b0 (y : Int) s0 d0) 3 _ rfl).set (y := memOpd b0 (sibI b R.rex) (sibS b R.rex) d0) 4 _ (by rw [HP.out, HS.out.1, HS.out.2, HY.out]; rfl)).drew⟩
set_option maxHeartbeats 1000000 in
theorem sibFour (g gx : Nat) (R : Rd) (W0 w00 w : World) (b0 i0 s0 d0 : Int) (h : MS W0 w00 w g gx R (memOpd b0 i0 s0 d0)) (hn : R.n < R.t.size) (hx : R.rex < 80) (hi : nb R.t R.n / 8 % 8 + extB R.rex 1 = 4) :
    Calls Tryd.prog 129 #[.pointer (some ⟨g, 0, none⟩), .pointer (some ⟨gx, 0, none⟩)] w fun e w' => e = .returned (.int .i64 ((nb R.t R.n % 8 : Nat) : Int)) ∧ MS W0 w00 w' g gx { R with n := R.n + 1 } (memOpd b0 i0 s0 d0) := by
  have CT0 := takeYes g 1 R W0 w h.at' ok1 hn
  rw [take1] at CT0
  have CT := Lib.hid CT0
  obtain ⟨b, hb⟩ : ∃ b, b = nb R.t R.n := ⟨_, rfl⟩
  have hb2 := nb_lt R.t R.n
  rw [← hb] at CT hi hb2 ⊢
  have a3 := sh3 b hb2
  have a7 := and7 b hb2
  have CE := Lib.hid (fun (w' : World) (h1 : At W0 w' g { R with n := R.n + 1 }) => extC0 g (b / 8 % 8) 1 2 _ W0 w' h1 (by decide) (by decide) hx (by omega))
  obtain ⟨y, hy⟩ : ∃ y, y = b / 8 % 8 + extB R.rex 1 := ⟨_, rfl⟩
  simp only at CE
  rw [← hy] at CE hi
  subst hi
  have H := Lib.hid h
  clear h hn hx CT0 hb hy
  go_enter Tryd.func129, Tryd.ntmps129
  go_wp2_with fail
  refine Calls.mono CT.out ?_
  rintro e w1 ⟨rfl, h1⟩
  have M1 := Lib.hid (H.out.wr h1)
  clear h1
  go_wp2_with fail
  refine Calls.mono (CE.out _ M1.out.at') ?_
  rintro e w2 ⟨rfl, rfl⟩
  go_wp2
  go_ret
  exact ⟨rfl, M1.out⟩
theorem sibC (g gx : Nat) (R : Rd) (W0 w00 w : World) (h : MS W0 w00 w g gx R (memOpd 0 (-1) 1 0)) (hn : R.n < R.t.size) (hx : R.rex < 80) :
    Calls Tryd.prog 129 #[.pointer (some ⟨g, 0, none⟩), .pointer (some ⟨gx, 0, none⟩)] w fun e w' => e = .returned (.int .i64 ((nb R.t R.n % 8 : Nat) : Int)) ∧ MS W0 w00 w' g gx { R with n := R.n + 1 } (memOpd 0 (sibI (nb R.t R.n) R.rex) (sibS (nb R.t R.n) R.rex) 0) := by
  by_cases hi : nb R.t R.n / 8 % 8 + extB R.rex 1 = 4
  · have := sibFour g gx R W0 w00 w 0 (-1) 1 0 h hn hx hi
    rw [(sib_four hi).1, (sib_four hi).2]; exact this
  · exact sibOther g gx R W0 w00 w 0 (-1) 1 0 h hn hx hi
set_option maxHeartbeats 400000 in
theorem sibNo (g : Nat) (R : Rd) (W0 w : World) (q : Value) (aE aR : Addr) (hs : Sent W0 aE aR) (h : At W0 w g R) (hn : R.t.size ≤ R.n) :
    Calls Tryd.prog 129 #[.pointer (some ⟨g, 0, none⟩), q] w fun e w' => e = endP ∧ Ch w w' g := by
  have C := Lib.hid (takeNo g 1 R W0 w aE aR hs h ok1 (by omega))
  clear h hn hs
  unfold endP at *
  go_enter Tryd.func129, Tryd.ntmps129
  go_wp2_with fail
  refine Calls.mono C.out ?_
  rintro e w1 ⟨rfl, h1⟩
  go_wp2
  exact ⟨rfl, rfl, h1⟩
end Go.Proofs.YtinjpobepcenfaaDoor
