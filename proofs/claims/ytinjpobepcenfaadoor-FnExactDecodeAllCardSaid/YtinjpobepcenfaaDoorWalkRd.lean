/-
  What a reader of impl holds, and what its methods take, takeSigned and peek do: they read bytes that are there, and panic at those that are not, changing nothing but the reader; conditions: those in each head.
-/
import Derived.Test.YtinjpobepcenfaaDoorMathDec
import Derived.Test.YtinjpobepcenfaaDoorWalkTake
import Derived.Test.YtinjpobepcenfaaDoorWalkMetA
import Derived.Deep.QuietTactic
import Derived.BigQuiet
namespace Go.Proofs.YtinjpobepcenfaaDoor
open Go.RowKit
/-- what a reader holds -/
structure Rd where
  t : ByteArray
  n : Nat
  w : Bool
  rex : Nat
  ob : Nat
  z : Shp
  md : Nat
  rg : Nat
  rm : Nat
  op : Int
  sz : Int
  cd : Int
  fr : Int
  d : Opd
  s : Opd
  ln : Int
def rdA (R : Rd) : Array Value := #[.string R.t, .int .i64 R.n, .bool R.w, .int .i64 R.rex, .int .i64 R.ob, .int .i64 R.z.o, .int .i64 R.z.f, .int .i64 R.z.g, .bool R.z.y, .int .i64 R.z.r, .int .i64 R.md, .int .i64 R.rg, .int .i64 R.rm, .int .i64 R.op, .int .i64 R.sz, .int .i64 R.cd, .int .i64 R.fr,
  .int .i64 R.d.k, .int .i64 R.d.r, .int .i64 R.d.b, .int .i64 R.d.i, .int .i64 R.d.s, .int .i64 R.d.d, .int .i64 R.d.m, .int .i64 R.s.k, .int .i64 R.s.r, .int .i64 R.s.b, .int .i64 R.s.i, .int .i64 R.s.s, .int .i64 R.s.d, .int .i64 R.s.m, .int .i64 R.ln]
/-- block g holds the reader -/
def RB (w : World) (g : Nat) (R : Rd) : Prop := w.heap[g]? = some (.cells (rdA R) 57 (0, 0))
theorem RB.cell {w : World} {g : Nat} {R : Rd} (h : RB w g R) (i : Nat) : w.cell? ⟨g, i, none⟩ = (rdA R)[i]? := cell_of_row w g i _ _ (0, 0) h
theorem RB.free {w : World} {g : Nat} {R : Rd} (h : RB w g R) (i : Nat) : w.frozen? ⟨g, i, none⟩ = false := by
  unfold RB at h; simp [World.frozen?, h]
theorem RB.lt {w : World} {g : Nat} {R : Rd} (h : RB w g R) : g < w.heap.size := lt_of_blk h
theorem RB.set {w : World} {g : Nat} {R R' : Rd} (h : RB w g R) (i : Nat) (v : Value) (e : (rdA R).setIfInBounds i v = rdA R') : RB (w.setCell ⟨g, i, none⟩ v) g R' := by
  unfold RB at *
  simp [World.setCell, Array.getElem?_modify, h, e]
/-- all blocks but g are as they were -/
def Ch (w w' : World) (g : Nat) : Prop := w.grownBy w' (some g)
theorem Ch.refl (w : World) (g : Nat) : Ch w w g := ⟨rfl, rfl, rfl, Nat.le_refl _, fun _ _ _ => rfl⟩
theorem Ch.trans {w w1 w2 : World} {g : Nat} (h1 : Ch w w1 g) (h2 : Ch w1 w2 g) : Ch w w2 g :=
  ⟨h2.os.trans h1.os, h2.tape.trans h1.tape, h2.output.trans h1.output, Nat.le_trans h1.size h2.size, fun k hk hne => (h2.block k (Nat.lt_of_lt_of_le hk h1.size) hne).trans (h1.block k hk hne)⟩
theorem Ch.of_below {w w' : World} {g : Nat} (h : Below w.heap.size w w') : Ch w w' g := ⟨h.os, h.tape, h.output, h.size, fun k hk _ => h.block k hk⟩
theorem Ch.set {w w' : World} {g : Nat} (h : Ch w w' g) (i : Nat) (v : Value) : Ch w (w'.setCell ⟨g, i, none⟩ v) g :=
  ⟨h.os, h.tape, h.output, by simp; exact h.size, fun k hk hne => by
    have hne' : k ≠ g := fun e => hne (by rw [e])
    rw [Below.heap_setCell _ _ _ _ (by simpa using hne')]; exact h.block k hk hne⟩
theorem Ch.drewN {w w' : World} {g : Nat} (h : Ch w w' g) (n : Nat) : Ch w (w'.drewN n) g := ⟨h.os, h.tape, h.output, h.size, h.block⟩
theorem RB.below {w w' : World} {g : Nat} {R : Rd} (h : RB w g R) (hb : Below w.heap.size w w') : RB w' g R := (hb.block g h.lt).trans h
theorem RB.drewN {w : World} {g : Nat} {R : Rd} (h : RB w g R) (n : Nat) : RB (w.drewN n) g R := h
/-- the reader at block g, within a call that began in world W0 -/
structure At (W0 w : World) (g : Nat) (R : Rd) : Prop where
  rb : RB w g R
  ge : W0.heap.size ≤ g
  be : Below W0.heap.size W0 w
  sz : R.t.size ≤ 65536
  le : R.n ≤ R.t.size
theorem below_ch {W0 w w' : World} {g : Nat} (h : Below W0.heap.size W0 w) (hg : W0.heap.size ≤ g) (hc : Ch w w' g) : Below W0.heap.size W0 w' :=
  h.grown hc h.size (fun k hk => by cases hk; exact hg)
theorem At.next {W0 w w' : World} {g : Nat} {R R' : Rd} (h : At W0 w g R) (hc : Ch w w' g) (hr : RB w' g R') (ht : R'.t = R.t) (hn : R'.n ≤ R.t.size) : At W0 w' g R' :=
  ⟨hr, h.ge, below_ch h.be h.ge hc, by rw [ht]; exact h.sz, by rw [ht]; exact hn⟩
theorem At.below {W0 w w' : World} {g : Nat} {R : Rd} (h : At W0 w g R) (hb : Below w.heap.size w w') : At W0 w' g R := h.next (Ch.of_below hb) (h.rb.below hb) rfl h.le
theorem belQ (w : World) (q : Nat) : Below w.heap.size w (w.drewN q) := ⟨rfl, rfl, rfl, Nat.le_refl _, fun _ _ => rfl⟩
/-- a call that leaves the reader as R' -/
def Wr (W0 w w' : World) (g : Nat) (R' : Rd) : Prop := At W0 w' g R' ∧ Ch w w' g
def endP : Ending := .panicked [{ v := .iface 111 (.agg #[]), recovered := false }]
theorem mixedR : Tryd.prog.follows .mixedOrders = true := by kernel_rfl
set_option maxHeartbeats 400000 in
theorem takeYes (g k : Nat) (R : Rd) (W0 w : World) (h : At W0 w g R) (hk : okSize (k : Int)) (hn : R.n + k ≤ R.t.size) :
    Calls Tryd.prog 92 #[.pointer (some ⟨g, 0, none⟩), .int .i64 (k : Int)] w fun e w' => e = .returned (.int .i64 (wrap64 (takeN R.t R.n k : Int))) ∧ Wr W0 w w' g { R with n := R.n + k } := by
  have hm := h.sz
  have C := Lib.hid (fun w => implTakeYes R.t R.n k w hm hn hk)
  have c0 := h.rb.cell 0; have c1 := h.rb.cell 1
  simp only [rdA, List.getElem?_toArray, List.getElem?_cons_zero, List.getElem?_cons_succ] at c0 c1
  have f1 := h.rb.free 1
  have H := Lib.hid h
  have hb : (R.n : Int) + (k : Int) ≤ 65536 := by omega
  have HN := Lib.hid hn
  clear h hk hn
  have hm' := mixedR
  go_enter Tryd.func92, Tryd.ntmps92
  go_wp2_with fail
  go_quiet ((go_at_call 116; exact Calls.quiet_of_same ((C.out _).mono fun _ _ h => ⟨h.1, h.2.symm⟩)))
  go_wp2
  go_ret
  have hc : Ch w ((w.drewN nq).setCell ⟨g, 1, none⟩ (.int .i64 ((R.n : Int) + (k : Int)))) g := ((Ch.refl _ _).drewN nq).set 1 _
  exact ⟨rfl, H.out.next hc ((H.out.rb.drewN nq).set 1 _ rfl) rfl HN.out, hc⟩
set_option maxHeartbeats 400000 in
theorem takeNo (g k : Nat) (R : Rd) (W0 w : World) (aE aR : Addr) (hs : Sent W0 aE aR) (h : At W0 w g R) (hk : okSize (k : Int)) (hn : R.t.size < R.n + k) :
    Calls Tryd.prog 92 #[.pointer (some ⟨g, 0, none⟩), .int .i64 (k : Int)] w fun e w' => e = endP ∧ Ch w w' g := by
  have hm := h.sz
  have hn2 := h.le
  have hw : (Lit.int .i64 (R.n : Int)).wf = true := WalkArith.wf_i64 ⟨by omega, by omega⟩
  have C : Hid (∀ q, Calls Tryd.prog 116 #[.string R.t, .int .i64 R.n, .int .i64 (k : Int)] (w.drewN q) fun e w' => e = .returned (.tuple #[.int .i64 0, bErr placeT R.n aE]) ∧ w.drewN q = w') :=
    Lib.hid (fun q => implTakeNo2 R.t R.n k (w.drewN q) aE aR ((hs.below h.be).below (belQ w q)) hm hk (.inr (by omega)) hw)
  unfold bErr at C
  have c0 := h.rb.cell 0; have c1 := h.rb.cell 1
  simp only [rdA, List.getElem?_toArray, List.getElem?_cons_zero, List.getElem?_cons_succ] at c0 c1
  clear h hk hs hw hn hn2
  have hm' := mixedR
  go_enter Tryd.func92, Tryd.ntmps92
  go_wp2_with fail
  go_quiet ((go_at_call 116; exact Calls.quiet_of_same ((C.out _).mono fun _ _ h => ⟨h.1, h.2.symm⟩)))
  go_wp2
  exact ⟨rfl, rfl, (Ch.refl _ _).drewN nq⟩
/-- what the program's own number with a sign is -/
theorem sgV_eq (s : ByteArray) (n k : Nat) (hk : okSize (k : Int)) (w : World) :
    Calls Tryd.prog 122 #[.int .i64 (wrap64 (takeN s n k : Int)), .int .i64 (k : Int)] w fun e w' => e = .returned (.tuple #[.int .i64 (sgV s n k), .nilIface]) ∧ w = w' := by
  have h8 : k ≤ 8 := by rcases hk with h | h | h | h <;> omega
  have hX : IntKind.u64.wrap (wrap64 (takeN s n k : Int)) = (takeN s n k : Int) := by
    have := lt64 (takeN_lt s n k) h8
    rw [wrapU]; unfold wrap64; omega
  obtain ⟨j, rfl⟩ : ∃ j, k = j := ⟨k, rfl⟩
  rcases hk with h | h | h | h
  · obtain rfl : k = 1 := by omega
    rw [sgV, eqS1 hX]; exact signed1 _ w
  · obtain rfl : k = 2 := by omega
    rw [sgV, eqS2 hX]; exact signed2 _ w
  · obtain rfl : k = 4 := by omega
    rw [sgV, eqS4 hX]; exact signed4 _ w
  · obtain rfl : k = 8 := by omega
    rw [sgV, eqS8 (wrap64_wf _) hX]; exact signed8 _ w
set_option maxHeartbeats 400000 in
theorem takeSYes (g k : Nat) (R : Rd) (W0 w : World) (h : At W0 w g R) (hk : okSize (k : Int)) (hn : R.n + k ≤ R.t.size) :
    Calls Tryd.prog 102 #[.pointer (some ⟨g, 0, none⟩), .int .i64 (k : Int)] w fun e w' => e = .returned (.int .i64 (sgV R.t R.n k)) ∧ Wr W0 w w' g { R with n := R.n + k } := by
  have C := Lib.hid (takeYes g k R W0 w h hk hn)
  have C2 := Lib.hid (sgV_eq R.t R.n k hk)
  clear h hk hn
  go_enter Tryd.func102, Tryd.ntmps102
  go_wp2_with fail
  refine Calls.mono C.out ?_
  rintro e w1 ⟨rfl, h1⟩
  go_wp2_with fail
  refine Calls.mono (C2.out _) ?_
  rintro e w2 ⟨rfl, rfl⟩
  go_wp2
  go_ret
  exact ⟨rfl, h1⟩
set_option maxHeartbeats 400000 in
theorem takeSNo (g k : Nat) (R : Rd) (W0 w : World) (aE aR : Addr) (hs : Sent W0 aE aR) (h : At W0 w g R) (hk : okSize (k : Int)) (hn : R.t.size < R.n + k) :
    Calls Tryd.prog 102 #[.pointer (some ⟨g, 0, none⟩), .int .i64 (k : Int)] w fun e w' => e = endP ∧ Ch w w' g := by
  have C := Lib.hid (takeNo g k R W0 w aE aR hs h hk hn)
  clear h hk hn hs
  unfold endP at *
  go_enter Tryd.func102, Tryd.ntmps102
  go_wp2_with fail
  refine Calls.mono C.out ?_
  rintro e w1 ⟨rfl, h1⟩
  go_wp2
  exact ⟨rfl, rfl, h1⟩
theorem take1 (s : ByteArray) (n : Nat) : wrap64 (takeN s n 1 : Int) = (nb s n : Int) := by
  have := nb_lt s n
  simp only [takeN, wrap64]; simp; omega
theorem ok1 : okSize ((1 : Nat) : Int) := .inl rfl
theorem At.same {W0 w w' : World} {g : Nat} {R : Rd} (h : At W0 w g R) (hc : Ch w w' g) (hr : RB w' g R) : At W0 w' g R := h.next hc hr rfl h.le
set_option maxHeartbeats 400000 in
theorem peekYes (g : Nat) (R : Rd) (W0 w : World) (h : At W0 w g R) (hn : R.n < R.t.size) :
    Calls Tryd.prog 91 #[.pointer (some ⟨g, 0, none⟩)] w fun e w' => e = .returned (.int .i64 (nb R.t R.n : Int)) ∧ Wr W0 w w' g R := by
  have C := takeYes g 1 R W0 w h ok1 hn
  rw [take1] at C
  have HC := Lib.hid C
  have hm := h.sz
  have H := Lib.hid h
  have hb : (R.n : Int) + 1 ≤ 65536 := by omega
  clear h hn C hm
  go_enter Tryd.func91, Tryd.ntmps91
  go_wp2_with fail
  refine Calls.mono HC.out ?_
  rintro e w1 ⟨rfl, h1, hc1⟩
  have c1 := h1.rb.cell 1
  simp only [rdA, List.getElem?_toArray, List.getElem?_cons_zero, List.getElem?_cons_succ] at c1
  have f1 := h1.rb.free 1
  have H1 := Lib.hid h1; have HC1 := Lib.hid hc1
  clear h1 hc1
  have e1 : ((R.n + 1 : Nat) : Int) = (R.n : Int) + 1 := by omega
  rw [e1] at c1
  clear e1
  go_wp2
  go_ret
  have hc : Ch w (w1.setCell ⟨g, 1, none⟩ (.int .i64 (R.n : Int))) g := HC1.out.set 1 _
  exact ⟨rfl, H.out.same hc (H1.out.rb.set 1 _ rfl), hc⟩
set_option maxHeartbeats 400000 in
theorem peekNo (g : Nat) (R : Rd) (W0 w : World) (aE aR : Addr) (hs : Sent W0 aE aR) (h : At W0 w g R) (hn : R.t.size ≤ R.n) :
    Calls Tryd.prog 91 #[.pointer (some ⟨g, 0, none⟩)] w fun e w' => e = endP ∧ Ch w w' g := by
  have C := Lib.hid (takeNo g 1 R W0 w aE aR hs h ok1 (by omega))
  clear h hn hs
  unfold endP at *
  go_enter Tryd.func91, Tryd.ntmps91
  go_wp2_with fail
  refine Calls.mono C.out ?_
  rintro e w1 ⟨rfl, h1⟩
  go_wp2
  exact ⟨rfl, rfl, h1⟩
end Go.Proofs.YtinjpobepcenfaaDoor
