/-
  What spec.l11Map answers of a right image: all its pages, and where its code stands; conditions: those in each head.
-/
import Derived.Test.YtcchcinnjahghaaDoorMathLf
import Derived.Test.YtcchcinnjahghaaDoorWalkKw
import Derived.Test.YtcchcinnjahghaaDoorWalkHd
import Derived.Test.YtcchcinnjahghaaDoorWalkImT
import Derived.Deep.RegionHeld3
namespace Go.Proofs.YtcchcinnjahghaaDoor
open Go.RowKit Go.Sort
set_option linter.unusedVariables false
set_option linter.unusedSimpArgs false
theorem callK {a : Act} {w : World} {o : Oper} {f : FuncId} {args : Array Operand} {tys : Array TypeId} {vals : Array Value} {V : World → Value → Prop} (ho : o.op = Op.call { callee := Callee.value (Operand.func f), args := args, argTypes := tys }) (hev : args.map a.eval = vals) (hcf : (callFunc f vals).run Tryd.prog w = .ok (.enter f vals) w)
    (hC : Calls Tryd.prog f vals w fun e w'' => ∃ v, e = .returned v ∧ (Ext w w'' ∧ V w'' v)) : upK Tryd.prog (fun w' v => Ext w w' ∧ V w' v) ((execOp a.eval o).run Tryd.prog w) := by
  obtain ⟨od, op, oty, ops, oaf, ogd⟩ := o
  simp only at ho
  subst ho
  have e : (execOp a.eval { dst := od, op := Op.call { callee := Callee.value (Operand.func f), args := args, argTypes := tys }, type := oty, pos := ops, after := oaf, guard := ogd }).run Tryd.prog w = .ok (.enter f vals) w := by
    subst hev
    go_simp
  rw [e]
  exact hC
/-- a one-cell struct is loaded -/
theorem loadM {a : Act} {w : World} {o : Oper} {k b : Nat} {v : Value} (ho : o.op = Op.load 36 (.tmp k)) (hx : a.tmps.getD k undef = .pointer (some ⟨b, 0, none⟩)) (hc : w.cell? ⟨b, 0, none⟩ = some v) : (execOp a.eval o).run Tryd.prog w = .ok (.value (.agg #[v])) w := by
  have hx' : a.tmps[k]?.getD undef = .pointer (some ⟨b, 0, none⟩) := by rw [← Array.getD_eq_getD_getElem?]; exact hx
  obtain ⟨od, op, oty, ops, oaf, ogd⟩ := o
  simp only at ho
  subst ho
  go_simp
theorem fieldK {a : Act} {w : World} {o : Oper} {k b f : Nat} (hf : f = 0 ∨ f = 1 ∨ f = 2 ∨ f = 3) (ho : o.op = Op.fieldAddr 61 (.tmp k) f) (hx : a.tmps.getD k undef = .pointer (some ⟨b, 0, none⟩)) : (execOp a.eval o).run Tryd.prog w = .ok (.value (.pointer (some ⟨b, f, none⟩))) w := by
  have hx' : a.tmps[k]?.getD undef = .pointer (some ⟨b, 0, none⟩) := by rw [← Array.getD_eq_getD_getElem?]; exact hx
  obtain ⟨od, op, oty, ops, oaf, ogd⟩ := o
  simp only at ho
  subst ho
  rcases hf with rfl | rfl | rfl | rfl
  all_goals go_simp
theorem loadIK {a : Act} {w : World} {o : Oper} {k b f : Nat} {v : Int} (ho : o.op = Op.load 3 (.tmp k)) (hx : a.tmps.getD k undef = .pointer (some ⟨b, f, none⟩)) (hc : w.cell? ⟨b, f, none⟩ = some (.int .i64 v)) : (execOp a.eval o).run Tryd.prog w = .ok (.value (.int .i64 v)) w := by
  have hx' : a.tmps[k]?.getD undef = .pointer (some ⟨b, f, none⟩) := by rw [← Array.getD_eq_getD_getElem?]; exact hx
  obtain ⟨od, op, oty, ops, oaf, ogd⟩ := o
  simp only at ho
  subst ho
  go_simp
theorem addIK {a : Act} {w : World} {o : Oper} {k : Nat} {u v : Int} (ho : o.op = Op.binOp BinOp.add 3 (.const (.int .i64 u)) (.tmp k) 3) (hx : a.tmps.getD k undef = .int .i64 v) (hw : IntKind.i64.wrap (u + v) = u + v) : (execOp a.eval o).run Tryd.prog w = .ok (.value (.int .i64 (u + v))) w := by
  have hx' : a.tmps[k]?.getD undef = .int .i64 v := by rw [← Array.getD_eq_getD_getElem?]; exact hx
  obtain ⟨od, op, oty, ops, oaf, ogd⟩ := o
  simp only at ho
  subst ho
  go_simp
/-- a memory of one's own with the pages L -/
def OwnK (B : Nat) (L : List Pg) (w : World) (v : Value) : Prop := ∃ g c, v = .agg #[.slice (some ⟨g, 0, none⟩) L.length c] ∧ Owns w B (some ⟨g, 0, none⟩) c L
theorem OwnK.mono {B : Nat} {L : List Pg} {w w' : World} {v : Value} (he : Ext w w') (h : OwnK B L w v) : OwnK B L w' v := by
  obtain ⟨g, c, e, ho⟩ := h
  exact ⟨g, c, e, own_below ho he⟩
def zLd : Array Value := #[.slice none 0 0, .int .i64 0, .int .i64 0, .int .i64 0, .int .i64 0, .slice none 0 0, .slice none 0 0, .slice none 0 0, .int .i64 0]
theorem pagesL {L L' : List Pg} (A B : List Pg) (p : Option Addr) (cap : Nat) (b perm size : Int) (n : Nat) (w : World) (hL : L = cat3 A [] B) (hL' : L' = cat3 A (zPgs b perm n) B) (hn : 0 < n) (hs : ∀ j : Nat, (256 * (j : Int) < size ↔ j < n)) (hA : ∀ x ∈ A, x.b < b) (hB : ∀ x ∈ B, b + 256 * n ≤ x.b) (hl : A.length + n + B.length ≤ 32) (h0 : 0 ≤ b) (h1 : b ≤ 65535) (hr : Rd w p L) :
    Calls Tryd.prog 51 #[.agg #[.slice p L.length cap], .int .i64 b, .int .i64 size, .int .i64 perm] w fun e w' => ∃ g cap', e = .returned (.agg #[.slice (some ⟨g, 0, none⟩) L'.length cap']) ∧ Owns w' w.heap.size (some ⟨g, 0, none⟩) cap' L' ∧ Below w.heap.size w w' := by
  subst hL hL'
  refine (pagesS A B p cap b perm size n w hn hs hA hB hl h0 h1 hr).mono ?_
  rintro e w' ⟨p', cap', rfl, ho, hb⟩
  obtain ⟨g, c', e⟩ := Joins.ownsRow_form ho (by simp [cat3, zPgs_len]; omega)
  cases e
  exact ⟨g, cap', rfl, ho, hb⟩
theorem putL {L L' : List Pg} (A B : List Pg) (b0 off cap : Nat) (b p : Int) (t : ByteArray) (n : Nat) (w : World) (hL : L = cat3 A (zPgs b p n) B) (hL' : L' = cat3 A (fPgs b p (padTo t.data.toList (256 * n) 0) n) B) (hn : 0 < n) (hm : MemOk L) (ht : t.size ≤ 256 * n) (hr : Rd w (some ⟨b0, off, none⟩) L) :
    Calls Tryd.prog 52 #[.agg #[.slice (some ⟨b0, off, none⟩) L.length cap], .int .i64 b, .string t] w fun e w' => ∃ g cap', e = .returned (.agg #[.slice (some ⟨g, 0, none⟩) L'.length cap']) ∧ Owns w' w.heap.size (some ⟨g, 0, none⟩) cap' L' ∧ Below w.heap.size w w' := by
  subst hL hL'
  refine (putF A B b0 off cap b p t n w hm ht hr).mono ?_
  rintro e w' ⟨p', cap', rfl, ho, hb⟩
  obtain ⟨g, c', e⟩ := Joins.ownsRow_form ho (by simp [cat3, fPgs_len]; omega)
  cases e
  exact ⟨g, cap', rfl, ho, hb⟩
/-- the state: the argument, the result's box, the memory's box and its pages -/
structure MS (w W : World) (n : Int) (p : Option Addr) (cap : Nat) (l : List Sg) (mb g c : Nat) (L : List Pg) : Prop where
  im : ImAt W w.heap.size n p l.length cap
  rd : RdS W p l
  res : W.heap[w.heap.size + 1]? = some (.cells zLd 41 (0, 0))
  mbx : W.heap[mb]? = some (.cells #[.slice (some ⟨g, 0, none⟩) L.length c] 36 (0, 0))
  own : Owns W (w.heap.size + 1 + 1) (some ⟨g, 0, none⟩) c L
  ne : g ≠ mb
  lt : w.heap.size + 1 < mb
  bel : Below w.heap.size w W
theorem MS.next {w W W' : World} {n : Int} {p : Option Addr} {cap : Nat} {l : List Sg} {mb g c : Nat} {L : List Pg} (h : MS w W n p cap l mb g c L) (hb : Below W.heap.size W W') : MS w W' n p cap l mb g c L :=
  ⟨h.im.next hb, h.rd.below hb, (hb.block _ (lt_of_block h.res)).trans h.res, (hb.block _ (lt_of_block h.mbx)).trans h.mbx, own_below h.own hb, h.ne, h.lt, bthen h.bel hb⟩
theorem MS.put {w W W1 : World} {n : Int} {p : Option Addr} {cap : Nat} {l : List Sg} {mb g c g' c' : Nat} {L L' : List Pg} (h : MS w W n p cap l mb g c L) (hb : Below W.heap.size W W1) (ho : Owns W1 W.heap.size (some ⟨g', 0, none⟩) c' L') (hp : ∀ b o, p = some ⟨b, o, none⟩ → l ≠ [] → b < w.heap.size) : MS w (W1.setCell ⟨mb, 0, none⟩ (.slice (some ⟨g', 0, none⟩) L'.length c')) n p cap l mb g' c' L' := by
  have h1 := h.next hb
  have lm := lt_of_block h.mbx
  have lr := lt_of_block h1.res
  have hlt := h.lt
  refine ⟨⟨by simpa using h1.im.1, (cellOther (by first | (simp; done) | (simp; omega)) _).trans h1.im.2.1, (cellOther (by first | (simp; done) | (simp; omega)) _).trans h1.im.2.2⟩, ?_, ?_, one_setCell h1.mbx, Joins.ownsRow_le (ho.other (by omega) 0 _) (by omega), by have := (ho.lt g' rfl).1; omega, h.lt, h1.bel.setCell (by simp; omega) _⟩
  · intro k x hk
    obtain ⟨b, off, e, q0, q1, q2, q3, q4⟩ := h1.rd k x hk
    have hne : mb ≠ b := by
      have := hp b off e (by intro h; subst h; simp at hk)
      omega
    exact ⟨b, off, e, by simpa using q0, (cellOther (by simp [hne]) _).trans q1, (cellOther (by simp [hne]) _).trans q2, (cellOther (by simp [hne]) _).trans q3, (cellOther (by simp [hne]) _).trans q4⟩
  · rw [Below.heap_setCell _ _ _ _ (by simp; omega)]; exact h1.res
def s1L : List Pg := [⟨4096, 3, zeros256⟩]
def s2L : List Pg := [⟨4096, 3, zeros256⟩, ⟨32768, 3, zeros256⟩]
def s3L : List Pg := [⟨4096, 3, prvT⟩, ⟨32768, 3, zeros256⟩]
def s4L : List Pg := [⟨4096, 3, prvT⟩, ⟨32768, 3, prvT⟩]
def s5L : List Pg := [⟨4096, 3, prvT⟩, ⟨16640, 4, zeros256⟩, ⟨32768, 3, prvT⟩]
def s6L : List Pg := [⟨4096, 3, prvT⟩, ⟨16640, 4, haltT 256⟩, ⟨32768, 3, prvT⟩]
def s7L : List Pg := cat3 headPgs [] tailPgs
theorem chunk_self {t : ByteArray} (h : t.size = 256) : chunkAt (padTo t.data.toList (256 * 1) 0) 0 = t := by
  have hl : t.data.toList.length = 256 := h
  apply ByteArray.ext
  apply Array.ext'
  unfold chunkAt padTo
  simp [hl]
  rw [List.take_of_length_le (by omega)]
theorem fP1 (b p : Int) {t : ByteArray} (h : t.size = 256) : fPgs b p (padTo t.data.toList (256 * 1) 0) 1 = [⟨b, p, t⟩] := by
  unfold fPgs
  simp only [List.range_one, List.map_cons, List.map_nil, chunk_self h]
  simp
theorem zP1 (b p : Int) : zPgs b p 1 = [⟨b, p, zeros256⟩] := by simp [zPgs]
theorem ok_z {b p : Int} (h : 0 ≤ b ∧ b ≤ 65535 ∧ b % 256 = 0 ∧ 0 ≤ p ∧ p ≤ 7) : PgOk ⟨b, p, zeros256⟩ := ⟨h.1, h.2.1, h.2.2.1, h.2.2.2.1, h.2.2.2.2, zeros_size⟩
theorem ok_p {b p : Int} (h : 0 ≤ b ∧ b ≤ 65535 ∧ b % 256 = 0 ∧ 0 ≤ p ∧ p ≤ 7) : PgOk ⟨b, p, prvT⟩ := ⟨h.1, h.2.1, h.2.2.1, h.2.2.2.1, h.2.2.2.2, prvT_size⟩
theorem ok_h {b p : Int} (h : 0 ≤ b ∧ b ≤ 65535 ∧ b % 256 = 0 ∧ 0 ≤ p ∧ p ≤ 7) : PgOk ⟨b, p, haltT 256⟩ := ⟨h.1, h.2.1, h.2.2.1, h.2.2.2.1, h.2.2.2.2, haltT_size _⟩
theorem s2ok : MemOk s2L := memOk_of (by decide) (by intro x hx; simp only [s2L, List.mem_cons, List.not_mem_nil, or_false] at hx; rcases hx with rfl | rfl <;> exact ok_z (by decide)) (by simp [Rise, s2L])
theorem s3ok : MemOk s3L := memOk_of (by decide) (by intro x hx; simp only [s3L, List.mem_cons, List.not_mem_nil, or_false] at hx; rcases hx with rfl | rfl; exact ok_p (by decide); exact ok_z (by decide)) (by simp [Rise, s3L])
theorem s5ok : MemOk s5L := memOk_of (by decide) (by intro x hx; simp only [s5L, List.mem_cons, List.not_mem_nil, or_false] at hx; rcases hx with rfl | rfl | rfl; exact ok_p (by decide); exact ok_z (by decide); exact ok_p (by decide)) (by simp [Rise, s5L])
theorem s1e : s1L = cat3 [] (zPgs 4096 3 1) [] := by rw [zP1]; rfl
theorem s2e : s2L = cat3 s1L (zPgs 32768 3 1) [] := by rw [zP1]; rfl
theorem s2e' : s2L = cat3 [] (zPgs 4096 3 1) [⟨32768, 3, zeros256⟩] := by rw [zP1]; rfl
theorem s3e : s3L = cat3 [] (fPgs 4096 3 (padTo prvT.data.toList (256 * 1) 0) 1) [⟨32768, 3, zeros256⟩] := by rw [fP1 _ _ prvT_size]; rfl
theorem s3e' : s3L = cat3 [⟨4096, 3, prvT⟩] (zPgs 32768 3 1) [] := by rw [zP1]; rfl
theorem s4e : s4L = cat3 [⟨4096, 3, prvT⟩] (fPgs 32768 3 (padTo prvT.data.toList (256 * 1) 0) 1) [] := by rw [fP1 _ _ prvT_size]; rfl
theorem s5e : s5L = cat3 [⟨4096, 3, prvT⟩] (zPgs 16640 4 1) [⟨32768, 3, prvT⟩] := by rw [zP1]; rfl
theorem s6e : s6L = cat3 [⟨4096, 3, prvT⟩] (fPgs 16640 4 (padTo (haltT 256).data.toList (256 * 1) 0) 1) [⟨32768, 3, prvT⟩] := by rw [fP1 _ _ (haltT_size _)]; rfl
theorem s7e : s7L = cat3 headPgs (zPgs 19968 3 2) [⟨32768, 3, prvT⟩] := by simp [s7L, cat3, headPgs, tailPgs, zPgs, List.range_succ]
theorem one_pg (size : Int) (n : Nat) (h : 256 * (n : Int) - 256 < size ∧ size ≤ 256 * n) : ∀ j : Nat, (256 * (j : Int) < size ↔ j < n) := fun j => by omega
theorem MS.other {w W : World} {n : Int} {p : Option Addr} {cap : Nat} {l : List Sg} {mb g c lb k : Nat} {L : List Pg} {v : Value} (h : MS w W n p cap l mb g c L) (hp : ∀ b o, p = some ⟨b, o, none⟩ → l ≠ [] → b < w.heap.size) (hlb : mb < lb) (hg : g ≠ lb) : MS w (W.setCell ⟨lb, k, none⟩ v) n p cap l mb g c L := by
  have hlt := h.lt
  refine ⟨⟨by simpa using h.im.1, (cellOther (by first | (simp; done) | (simp; omega)) _).trans h.im.2.1, (cellOther (by first | (simp; done) | (simp; omega)) _).trans h.im.2.2⟩, ?_, ?_, ?_, ?_, h.ne, h.lt, h.bel.setCell (by simp; omega) _⟩
  · intro k' x hk
    obtain ⟨b, off, e, q0, q1, q2, q3, q4⟩ := h.rd k' x hk
    have hne : lb ≠ b := by
      have := hp b off e (by intro h; subst h; simp at hk)
      omega
    exact ⟨b, off, e, by simpa using q0, (cellOther (by simp [hne]) _).trans q1, (cellOther (by simp [hne]) _).trans q2, (cellOther (by simp [hne]) _).trans q3, (cellOther (by simp [hne]) _).trans q4⟩
  · rw [Below.heap_setCell _ _ _ _ (by simp; omega)]; exact h.res
  · rw [Below.heap_setCell _ _ _ _ (by simp; omega)]; exact h.mbx
  · exact ownsRow_setCell_other h.own (fun e => hg (by simpa [Value.ownBlock] using e)) _
/-- the answer's variable -/
def ldV (n : Int) (l : List Sg) (ra rb rc : Value) : List Value := [.slice none 0 0, .int .i64 (16384 + n), .int .i64 (hpOf l), .int .i64 (taOf l), .int .i64 (szOf l), ra, rb, rc, .int .i64 0]
/-- the state in the loop -/
structure LS (w W : World) (n : Int) (p : Option Addr) (cap : Nat) (l : List Sg) (mb lb i g c : Nat) (ra rb rc : Value) : Prop where
  ms : MS w W n p cap l mb g c (imgTo l i)
  lt : mb < lb
  ne : g ≠ lb
  ld : CellsAt W lb (ldV n (l.take i) ra rb rc)
theorem LS.next {w W W' : World} {n : Int} {p : Option Addr} {cap : Nat} {l : List Sg} {mb lb i g c : Nat} {ra rb rc : Value} (h : LS w W n p cap l mb lb i g c ra rb rc) (hb : Below W.heap.size W W') : LS w W' n p cap l mb lb i g c ra rb rc := ⟨h.ms.next hb, h.lt, h.ne, h.ld.next hb⟩
theorem SgAt.nextL {W W' : World} {g : Nat} {x : Sg} (h : SgAt W g x) (hb : Below W.heap.size W W') : SgAt W' g x :=
  ⟨by have := hb.size; have := h.1; omega, (hb.cell (p := ⟨g, 0, none⟩) h.1).trans h.2.1, (hb.cell (p := ⟨g, 1, none⟩) h.1).trans h.2.2.1, (hb.cell (p := ⟨g, 2, none⟩) h.1).trans h.2.2.2.1, (hb.cell (p := ⟨g, 3, none⟩) h.1).trans h.2.2.2.2⟩
theorem SgAt.otherL {W : World} {g c k : Nat} {x : Sg} {v : Value} (h : SgAt W g x) (hne : c ≠ g) : SgAt (W.setCell ⟨c, k, none⟩ v) g x :=
  ⟨by simpa using h.1, (cellOther (by simp [hne]) _).trans h.2.1, (cellOther (by simp [hne]) _).trans h.2.2.1, (cellOther (by simp [hne]) _).trans h.2.2.2.1, (cellOther (by simp [hne]) _).trans h.2.2.2.2⟩
theorem seg_pg {l : List Sg} {i : Nat} {x : Sg} {q m : Nat} (h : SegI l i x q m) : 256 * ((nPg x.m : Nat) : Int) - 256 < x.m ∧ x.m ≤ 256 * (nPg x.m : Int) := by
  have hn : ((nPg x.m : Nat) : Int) = (x.m + 255) / 256 := by have := h.me; unfold nPg; omega
  omega
/-- an image in memory, its report zero -/
def LdOut (w w' : World) (n : Int) (l : List Sg) (e : Ending) : Prop := ∃ g c ra rb rc, e = .returned (.agg #[.slice (some ⟨g, 0, none⟩) (imgPgs l).length c, .int .i64 (16384 + n), .int .i64 (hpOf l), .int .i64 (taOf l), .int .i64 (szOf l), .slice ra 0 0, .slice rb 0 0, .slice rc 0 0, .int .i64 0]) ∧ Owns w' w.heap.size (some ⟨g, 0, none⟩) c (imgPgs l)
set_option maxRecDepth 20000 in
set_option maxHeartbeats 20000000 in
theorem mapS (n : Int) (p : Option Addr) (cap : Nat) (l : List Sg) (w : World) (hr : RdS w p l) (hp : ∀ b o, p = some ⟨b, o, none⟩ → l ≠ [] → b < w.heap.size) (ho : OkTo l l.length) (hl : l.length ≤ 4) (hn : 0 ≤ n ∧ n ≤ 4096) :
    Calls Tryd.prog 25 #[.agg #[.int .i64 n, .slice p l.length cap]] w fun e w' => LdOut w w' n l e ∧ Below w.heap.size w w' := by
  obtain ⟨W0, hW0⟩ : ∃ W0, W0 = (w.alloc (.cells #[.int .i64 n, .slice p l.length cap] 24)).alloc (.cells #[.slice none 0 0, .int .i64 0, .int .i64 0, .int .i64 0, .int .i64 0, .slice none 0 0, .slice none 0 0, .slice none 0 0, .int .i64 0] 41) := ⟨_, rfl⟩
  have I0 : Hid (ImAt W0 w.heap.size n p l.length cap) := Lib.hid (by rw [hW0]; exact (ImAt.new _ _ _ _ _ _).next (belowA _ _))
  have R0 : Hid (RdS W0 p l) := Lib.hid (by rw [hW0]; exact (hr.below (belowA _ _)).below (belowA _ _))
  have Z0 : Hid (W0.heap[w.heap.size + 1]? = some (.cells zLd 41 (0, 0))) := Lib.hid (by rw [hW0]; have := heap_alloc_new (w.alloc (.cells #[.int .i64 n, .slice p l.length cap] 24)) (.cells zLd 41); simpa [zLd] using this)
  have L0 : Hid (Below w.heap.size w W0) := Lib.hid (by rw [hW0]; exact bthen (belowA _ _) (belowA _ _))
  have S0 : Hid (W0.heap.size = w.heap.size + 1 + 1) := Lib.hid (by rw [hW0]; simp)
  have HW0 := Lib.hid hW0
  have HP := Lib.hid hp
  have hm := mixed
  clear hr hp hW0
  go_enter Tryd.func25, Tryd.ntmps25
  go_wp2_with fail
  rw [← HW0.out]
  refine (pagesL [] [] none 0 4096 3 256 1 W0 (L := []) rfl s1e (by decide) (one_pg _ _ (by decide)) (by simp) (by simp) (by decide) (by decide) (by decide) (fun k x h => by simp at h)).mono ?_
  rintro e w1 ⟨g1, c1, rfl, ho1, b1⟩
  obtain ⟨W1, hW1⟩ : ∃ W1, W1 = w1.alloc (.cells #[.slice (some ⟨g1, 0, none⟩) s1L.length c1] 36) := ⟨_, rfl⟩
  have M1 : Hid (MS w W1 n p cap l w1.heap.size g1 c1 s1L) := Lib.hid (by
    have hb := bthen b1 (belowA w1 (.cells #[.slice (some ⟨g1, 0, none⟩) s1L.length c1] 36))
    rw [← hW1] at hb
    have hs := b1.size
    have h2 := S0.out
    refine ⟨I0.out.next hb, R0.out.below hb, (hb.block _ (lt_of_block Z0.out)).trans Z0.out, by rw [hW1]; exact heap_alloc_new w1 _, Joins.ownsRow_le (own_below ho1 (by rw [hW1]; exact belowA _ _)) (by omega), by have := (ho1.lt g1 rfl).2; omega, by omega, bthen L0.out hb⟩)
  have HW1 := Lib.hid hW1
  clear ho1 b1 hW1 I0 R0 Z0 L0 S0
  go_wp2_with fail
  rw [← HW1.out]
  refine (pagesL s1L [] (some ⟨g1, 0, none⟩) c1 32768 3 256 1 W1 (L := s1L) (by simp [cat3]) s2e (by decide) (one_pg _ _ (by decide)) (by simp [s1L]) (by simp) (by decide) (by decide) (by decide) (Rd.of_own M1.out.own)).mono ?_
  rintro e w2 ⟨g2, c2, rfl, ho2, b2⟩
  have M2 := Lib.hid (M1.out.put b2 ho2 HP.out)
  obtain ⟨W2, hW2⟩ : ∃ W2, W2 = w2.setCell ⟨w1.heap.size, 0, none⟩ (.slice (some ⟨g2, 0, none⟩) s2L.length c2) := ⟨_, rfl⟩
  rw [← hW2] at M2
  have m2 := M1.out.next b2
  have k2 := cell_of_one m2.mbx
  have f2 := free_of_one m2.mbx
  have HW2 := Lib.hid hW2
  clear ho2 b2 hW2 M1 HW1 m2
  go_wp2_with fail
  rw [← HW2.out]
  refine wp_region_krs 5 [fun _ v => v = .agg #[.slice (some ⟨g2, 0, none⟩) s2L.length c2], fun _ v => v = .string prvT, OwnK W2.heap.size s3L, fun _ v => v = .string prvT, OwnK W2.heap.size s4L] hm (by rfl) (by kernel_rfl) (by kernel_rfl) (by kernel_rfl) (by kernel_rfl) (by kernel_rfl) ?_ ?_ ?_
  · intro j V hV w1 w2 v he h
    have hm := List.mem_of_getElem? hV
    simp only [List.mem_cons, List.not_mem_nil, or_false] at hm
    rcases hm with rfl | rfl | rfl | rfl | rfl
    all_goals first | exact h | exact OwnK.mono he h
  · intro i hi o V ho hV a wx he hs hd
    have hi' : i = 0 ∨ i = 1 ∨ i = 2 ∨ i = 3 ∨ i = 4 := by simp at hi; omega
    clear hi
    rcases hi' with rfl | rfl | rfl | rfl | rfl
    · obtain rfl := Option.some.inj ho
      obtain rfl := Option.some.inj hV
      have mx := M2.out.next he
      rw [loadM rfl (by show a.tmps.getD 4 undef = _; rw [Array.getD_eq_getD_getElem?, hs.2.2 4 (noDst (by kernel_rfl))]; rfl) (cell_of_one mx.mbx)]
      exact ⟨extSelf _, rfl⟩
    · obtain rfl := Option.some.inj ho
      obtain rfl := Option.some.inj hV
      exact callK (vals := #[]) rfl (by simp) (by go_simp) ((prvS wx).mono fun e w' ⟨h1, h2⟩ => ⟨_, h1, h2, rfl⟩)
    · obtain rfl := Option.some.inj ho
      obtain rfl := Option.some.inj hV
      have mx := M2.out.next he
      have e15 : a.eval (.tmp 15) = .agg #[.slice (some ⟨g2, 0, none⟩) s2L.length c2] := hd ⟨0, .data⟩ (by simp) rfl _ _ _ rfl rfl rfl
      have e16 : a.eval (.tmp 16) = .string prvT := hd ⟨1, .data⟩ (by simp) rfl _ _ _ rfl rfl rfl
      refine callK rfl (vals := #[.agg #[.slice (some ⟨g2, 0, none⟩) s2L.length c2], .int .i64 4096, .string prvT]) (by simp only [List.map_toArray, List.map_cons, List.map_nil, e15, e16]; try rfl) (by go_simp) ?_
      refine (putL [] [⟨32768, 3, zeros256⟩] g2 0 c2 4096 3 prvT 1 wx s2e' s3e (by decide) s2ok (by rw [prvT_size]; decide) (Rd.of_own mx.own)).mono ?_
      rintro e w' ⟨g, c, rfl, ho, hb⟩
      exact ⟨_, rfl, hb, g, c, rfl, Joins.ownsRow_le ho he.size⟩
    · obtain rfl := Option.some.inj ho
      obtain rfl := Option.some.inj hV
      exact callK (vals := #[]) rfl (by simp) (by go_simp) ((prvS wx).mono fun e w' ⟨h1, h2⟩ => ⟨_, h1, h2, rfl⟩)
    · obtain rfl := Option.some.inj ho
      obtain rfl := Option.some.inj hV
      obtain ⟨g, c, e17, own⟩ : OwnK W2.heap.size s3L wx (a.eval (.tmp 17)) := hd ⟨2, .data⟩ (by simp) rfl _ _ _ rfl rfl rfl
      have e18 : a.eval (.tmp 18) = .string prvT := hd ⟨3, .data⟩ (by simp) rfl _ _ _ rfl rfl rfl
      refine callK rfl (vals := #[.agg #[.slice (some ⟨g, 0, none⟩) s3L.length c], .int .i64 32768, .string prvT]) (by simp only [List.map_toArray, List.map_cons, List.map_nil, e17, e18]; try rfl) (by go_simp) ?_
      refine (putL [⟨4096, 3, prvT⟩] [] g 0 c 32768 3 prvT 1 wx s3e' s4e (by decide) s3ok (by rw [prvT_size]; decide) (Rd.of_own own)).mono ?_
      rintro e w' ⟨g', c', rfl, ho, hb⟩
      exact ⟨_, rfl, hb, g', c', rfl, Joins.ownsRow_le ho he.size⟩
  intro a w3 he hs hh
  obtain ⟨g4, c4, e19, own4⟩ : OwnK W2.heap.size s4L w3 (a.tmps.getD 19 undef) := hh 4 (by simp) _ _ _ rfl rfl rfl
  have M4 := Lib.hid (M2.out.put he own4 HP.out)
  have m3 := M2.out.next he
  have k3 := cell_of_one m3.mbx
  have f3 := free_of_one m3.mbx
  have ea := same_litL hs [15, 16, 17, 18, 19] (by kernel_rfl) _ rfl
  simp only [List.foldl_cons, List.foldl_nil, List.set_cons_succ, List.set_cons_zero] at ea
  rw [e19] at ea
  generalize a.tmps.getD 15 undef = x15 at ea
  generalize a.tmps.getD 16 undef = x16 at ea
  generalize a.tmps.getD 17 undef = x17 at ea
  generalize a.tmps.getD 18 undef = x18 at ea
  clear hh hs e19
  subst ea
  simp only [List.drop_succ_cons, List.drop_zero, wpTail]
  go_step
  obtain ⟨W4, hW4⟩ : ∃ W4, W4 = w3.setCell ⟨w1.heap.size, 0, none⟩ (.slice (some ⟨g4, 0, none⟩) s4L.length c4) := ⟨_, rfl⟩
  rw [← hW4] at M4 ⊢
  have k4 := cell_of_one M4.out.mbx
  have f4 := free_of_one M4.out.mbx
  clear hW4 k3 f3 m3 own4 he M2 k2 f2 HW2
  refine ‹∀ (a : Act) (w : World), Code.wp _ _ _ a w → _› _ _ ?_
  go_wp2_with fail
  refine (pagesL [⟨4096, 3, prvT⟩] [⟨32768, 3, prvT⟩] (some ⟨g4, 0, none⟩) c4 16640 4 256 1 W4 (L := s4L) rfl s5e (by decide) (one_pg _ _ (by decide)) (by simp) (by simp) (by decide) (by decide) (by decide) (Rd.of_own M4.out.own)).mono ?_
  rintro e w5 ⟨g5, c5, rfl, ho5, b5⟩
  have M5 := Lib.hid (M4.out.put b5 ho5 HP.out)
  obtain ⟨W5, hW5⟩ : ∃ W5, W5 = w5.setCell ⟨w1.heap.size, 0, none⟩ (.slice (some ⟨g5, 0, none⟩) s5L.length c5) := ⟨_, rfl⟩
  rw [← hW5] at M5
  have m5 := M4.out.next b5
  have k5 := cell_of_one m5.mbx
  have f5 := free_of_one m5.mbx
  have HW5 := Lib.hid hW5
  clear ho5 b5 hW5 M4 m5 k4 f4
  go_wp2_with fail
  rw [← HW5.out]
  clear k5 f5
  refine wp_region_krs 3 [fun _ v => v = .agg #[.slice (some ⟨g5, 0, none⟩) s5L.length c5], fun _ v => v = .string (haltT 256), OwnK W5.heap.size s6L] hm (by rfl) (by kernel_rfl) (by kernel_rfl) (by kernel_rfl) (by kernel_rfl) (by kernel_rfl) ?_ ?_ ?_
  · intro j V hV w1 w2 v he h
    have hm := List.mem_of_getElem? hV
    simp only [List.mem_cons, List.not_mem_nil, or_false] at hm
    rcases hm with rfl | rfl | rfl
    all_goals first | exact h | exact OwnK.mono he h
  · intro i hi o V ho hV a wx he hs hd
    have hi' : i = 0 ∨ i = 1 ∨ i = 2 := by simp at hi; omega
    clear hi
    rcases hi' with rfl | rfl | rfl
    · obtain rfl := Option.some.inj ho
      obtain rfl := Option.some.inj hV
      have mx := M5.out.next he
      rw [loadM rfl (by show a.tmps.getD 4 undef = _; rw [Array.getD_eq_getD_getElem?, hs.2.2 4 (noDst (by kernel_rfl))]; rfl) (cell_of_one mx.mbx)]
      exact ⟨extSelf _, rfl⟩
    · obtain rfl := Option.some.inj ho
      obtain rfl := Option.some.inj hV
      exact callK (vals := #[.int .i64 ((256 : Nat) : Int)]) rfl (by simp only [List.map_toArray, List.map_cons, List.map_nil]; try rfl) (by go_simp) ((haltsS 256 wx (by decide)).mono fun e w' ⟨h1, h2⟩ => ⟨_, h1, h2, rfl⟩)
    · obtain rfl := Option.some.inj ho
      obtain rfl := Option.some.inj hV
      have mx := M5.out.next he
      have e22 : a.eval (.tmp 22) = .agg #[.slice (some ⟨g5, 0, none⟩) s5L.length c5] := hd ⟨0, .data⟩ (by simp) rfl _ _ _ rfl rfl rfl
      have e23 : a.eval (.tmp 23) = .string (haltT 256) := hd ⟨1, .data⟩ (by simp) rfl _ _ _ rfl rfl rfl
      refine callK rfl (vals := #[.agg #[.slice (some ⟨g5, 0, none⟩) s5L.length c5], .int .i64 16640, .string (haltT 256)]) (by simp only [List.map_toArray, List.map_cons, List.map_nil, e22, e23]; try rfl) (by go_simp) ?_
      refine (putL [⟨4096, 3, prvT⟩] [⟨32768, 3, prvT⟩] g5 0 c5 16640 4 (haltT 256) 1 wx s5e s6e (by decide) s5ok (by rw [haltT_size]; decide) (Rd.of_own mx.own)).mono ?_
      rintro e w' ⟨g, c, rfl, ho, hb⟩
      exact ⟨_, rfl, hb, g, c, rfl, Joins.ownsRow_le ho he.size⟩
  intro a w3 he hs hh
  obtain ⟨g6, c6, e24, own6⟩ : OwnK W5.heap.size s6L w3 (a.tmps.getD 24 undef) := hh 2 (by simp) _ _ _ rfl rfl rfl
  have M6 := Lib.hid (M5.out.put he own6 HP.out)
  have m3 := M5.out.next he
  have k3 := cell_of_one m3.mbx
  have f3 := free_of_one m3.mbx
  have ea := same_litL hs [22, 23, 24] (by kernel_rfl) _ rfl
  simp only [List.foldl_cons, List.foldl_nil, List.set_cons_succ, List.set_cons_zero] at ea
  rw [e24] at ea
  generalize a.tmps.getD 22 undef = x22 at ea
  generalize a.tmps.getD 23 undef = x23 at ea
  clear hh hs e24
  subst ea
  simp only [List.drop_succ_cons, List.drop_zero, wpTail]
  go_step
  obtain ⟨W6, hW6⟩ : ∃ W6, W6 = w3.setCell ⟨w1.heap.size, 0, none⟩ (.slice (some ⟨g6, 0, none⟩) s6L.length c6) := ⟨_, rfl⟩
  rw [← hW6] at M6 ⊢
  have k6 := cell_of_one M6.out.mbx
  have f6 := free_of_one M6.out.mbx
  clear hW6 k3 f3 m3 own6 he M5 HW5
  refine ‹∀ (a : Act) (w : World), Code.wp _ _ _ a w → _› _ _ ?_
  go_wp2_with fail
  refine (pagesL headPgs [⟨32768, 3, prvT⟩] (some ⟨g6, 0, none⟩) c6 19968 3 512 2 W6 (L := s6L) rfl s7e (by decide) (one_pg _ _ (by decide)) (by simp [headPgs]) (by simp) (by decide) (by decide) (by decide) (Rd.of_own M6.out.own)).mono ?_
  rintro e w7 ⟨g7, c7, rfl, ho7, b7⟩
  have M7 := Lib.hid (M6.out.put b7 ho7 HP.out)
  obtain ⟨W7, hW7⟩ : ∃ W7, W7 = w7.setCell ⟨w1.heap.size, 0, none⟩ (.slice (some ⟨g7, 0, none⟩) s7L.length c7) := ⟨_, rfl⟩
  have sz7 : w7.heap.size = W7.heap.size := by rw [hW7]; simp
  rw [← hW7] at M7
  have m7 := M6.out.next b7
  have k7 := cell_of_one m7.mbx
  have f7 := free_of_one m7.mbx
  obtain ⟨i0, i1, i2⟩ := M7.out.im
  have HW7 := Lib.hid hW7
  clear ho7 b7 hW7 M6 m7 k6 f6
  go_upto_region 8 with fail
  rw [← HW7.out]
  clear k7 f7
  have ewr : IntKind.i64.wrap (16384 + n) = 16384 + n := IntWalk.i64_in _ (by omega)
  go_wp2_with fail
  obtain ⟨pa, hpa⟩ : ∃ v : Option Addr, v = some ⟨W7.heap.size, 0, none⟩ := ⟨_, rfl⟩
  obtain ⟨pb, hpb⟩ : ∃ v : Option Addr, v = some ⟨W7.heap.size + 1, 0, none⟩ := ⟨_, rfl⟩
  obtain ⟨pc, hpc⟩ : ∃ v : Option Addr, v = some ⟨W7.heap.size + 1 + 1, 0, none⟩ := ⟨_, rfl⟩
  rw [← hpa, ← hpb, ← hpc]
  obtain ⟨W8, hW8⟩ : ∃ W8, W8 = (((W7.alloc (.cells #[] 3)).alloc (.cells #[] 3)).alloc (.cells #[] 3)).alloc (.cells #[.slice none 0 0, .int .i64 (16384 + n), .int .i64 0, .int .i64 0, .int .i64 0, (.slice pa 0 0), (.slice pb 0 0), (.slice pc 0 0), .int .i64 0] 41) := ⟨_, rfl⟩
  rw [← hW8]
  have b8 : Below W7.heap.size W7 W8 := by rw [hW8]; go_grown
  obtain ⟨lb, hlb⟩ : ∃ lb, lb = W7.heap.size + 1 + 1 + 1 := ⟨_, rfl⟩
  rw [← hlb]
  have S8 : Hid (LS w W8 n p cap l w1.heap.size lb 0 g7 c7 (.slice pa 0 0) (.slice pb 0 0) (.slice pc 0 0)) := Lib.hid (by
    have hm := M7.out.next b8
    have h1 := lt_of_block M7.out.mbx
    have h2 := (M7.out.own.lt g7 rfl).2
    have e7 : s7L = imgTo l 0 := (imgTo_zero l).symm
    rw [e7] at hm
    refine ⟨hm, by omega, by omega, ?_⟩
    have := CellsAt.of_block (heap_alloc_new (((W7.alloc (.cells #[] 3)).alloc (.cells #[] 3)).alloc (.cells #[] 3)) (.cells #[.slice none 0 0, .int .i64 (16384 + n), .int .i64 0, .int .i64 0, .int .i64 0, (.slice pa 0 0), (.slice pb 0 0), (.slice pc 0 0), .int .i64 0] 41))
    rw [← hW8] at this
    rw [hlb]
    have e0 : ldV n (l.take 0) (.slice pa 0 0) (.slice pb 0 0) (.slice pc 0 0) = [.slice none 0 0, .int .i64 (16384 + n), .int .i64 0, .int .i64 0, .int .i64 0, (.slice pa 0 0), (.slice pb 0 0), (.slice pc 0 0), .int .i64 0] := rfl
    rw [e0]
    simpa using this)
  have HLB := Lib.hid hlb
  clear hpa hpb hpc hlb hW8 b8 M7 HW7 i0 i1 i2
  generalize hmb : w1.heap.size = mb at S8 ⊢
  have OK := Lib.hid ho
  clear ho hmb
  go_loopw [6] (fun i wr => ∃ k : Nat, k ≤ l.length ∧ i = .int .i64 k ∧ ∃ g c, Hid (LS w wr n p cap l mb lb k g c (.slice pa 0 0) (.slice pb 0 0) (.slice pc 0 0))) (fun i _ => l.length - (intOf i).toNat)
  case atStart => exact ⟨0, Nat.zero_le _, rfl, g7, c7, S8⟩
  case round =>
    obtain ⟨k, hk, rfl, g, c, HI⟩ := hrel
    obtain ⟨i0, i1, i2⟩ := HI.out.ms.im
    by_cases hlt : k < l.length
    · have hlt2 : (k : Int) < (l.length : Int) := by omega
      obtain ⟨x, hx⟩ : ∃ x, l[k]? = some x := ⟨_, List.getElem?_eq_getElem hlt⟩
      obtain ⟨q, m, hs⟩ := seg_i OK.out hx
      obtain ⟨b, off, rfl, q0, a0, a1, a2, a3⟩ := HI.out.ms.rd k x hx
      have HX := Lib.hid hx; have HS := Lib.hid hs
      clear hx hs
      obtain ⟨LZ, hLZ⟩ : ∃ L, L = cat3 (headPgs ++ allSegs (l.take k)) (zPgs (16384 + x.v) (permOf x.f) (nPg x.m)) tailPgs := ⟨_, rfl⟩
      have HLZ := Lib.hid hLZ
      obtain ⟨Wg, hWg⟩ : ∃ W, W = wr.alloc (.cells #[.int .i64 x.f, .int .i64 x.v, .int .i64 x.m, .string x.d] 61) := ⟨_, rfl⟩
      have bg : Below wr.heap.size wr Wg := by rw [hWg]; exact belowA _ _
      have HG := Lib.hid (HI.out.next bg)
      have GX : Hid (SgAt Wg wr.heap.size x) := Lib.hid (by rw [hWg]; exact ⟨by simp, by go_cell, by go_cell, by go_cell, by go_cell⟩)
      have HWg := Lib.hid hWg
      have ewv : IntKind.i64.wrap (16384 + x.v) = 16384 + x.v := IntWalk.i64_in _ (by have := HS.out.hi; have := HS.out.lo; omega)
      clear hLZ hWg bg
      go_wp2_with fail
      rw [← HWg.out]
      clear a0 a1 a2 a3 q0 i0 i1 i2
      refine wp_region_krs 10 [fun _ v => v = .agg #[.slice (some ⟨g, 0, none⟩) (imgTo l k).length c], fun _ v => v = .pointer (some ⟨wr.heap.size, 1, none⟩), fun _ v => v = .int .i64 x.v, fun _ v => v = .int .i64 (16384 + x.v), fun _ v => v = .pointer (some ⟨wr.heap.size, 2, none⟩), fun _ v => v = .int .i64 x.m, fun _ v => v = .pointer (some ⟨wr.heap.size, 0, none⟩), fun _ v => v = .int .i64 x.f, fun _ v => v = .int .i64 (permOf x.f), OwnK Wg.heap.size LZ] hm (by rfl) (by kernel_rfl) (by kernel_rfl) (by kernel_rfl) (by kernel_rfl) (by kernel_rfl) ?_ ?_ ?_
      · intro j V hV w1 w2 v he h
        have hm := List.mem_of_getElem? hV
        simp only [List.mem_cons, List.not_mem_nil, or_false] at hm
        rcases hm with rfl | rfl | rfl | rfl | rfl | rfl | rfl | rfl | rfl | rfl
        all_goals first | exact h | exact OwnK.mono he h
      · intro i hi o V ho hV a wx he hs hd
        have hi' : i = 0 ∨ i = 1 ∨ i = 2 ∨ i = 3 ∨ i = 4 ∨ i = 5 ∨ i = 6 ∨ i = 7 ∨ i = 8 ∨ i = 9 := by simp at hi; omega
        clear hi
        rcases hi' with rfl | rfl | rfl | rfl | rfl | rfl | rfl | rfl | rfl | rfl
        · obtain rfl := Option.some.inj ho
          obtain rfl := Option.some.inj hV
          have mx := HG.out.ms.next he
          rw [loadM rfl (by show a.tmps.getD 4 undef = _; rw [Array.getD_eq_getD_getElem?, hs.2.2 4 (noDst (by kernel_rfl))]; rfl) (cell_of_one mx.mbx)]
          exact ⟨extSelf _, rfl⟩
        · obtain rfl := Option.some.inj ho
          obtain rfl := Option.some.inj hV
          rw [fieldK (by decide) rfl (by show a.tmps.getD 7 undef = _; rw [Array.getD_eq_getD_getElem?, hs.2.2 7 (noDst (by kernel_rfl))]; rfl)]
          exact ⟨extSelf _, rfl⟩
        · obtain rfl := Option.some.inj ho
          obtain rfl := Option.some.inj hV
          rw [loadIK rfl (hd ⟨1, .data⟩ (by simp) rfl _ _ _ rfl rfl rfl) ((he.cell (p := ⟨wr.heap.size, 1, none⟩) GX.out.1).trans GX.out.2.2.1)]
          exact ⟨extSelf _, rfl⟩
        · obtain rfl := Option.some.inj ho
          obtain rfl := Option.some.inj hV
          rw [addIK rfl (hd ⟨2, .data⟩ (by simp) rfl _ _ _ rfl rfl rfl) ewv]
          exact ⟨extSelf _, rfl⟩
        · obtain rfl := Option.some.inj ho
          obtain rfl := Option.some.inj hV
          rw [fieldK (by decide) rfl (by show a.tmps.getD 7 undef = _; rw [Array.getD_eq_getD_getElem?, hs.2.2 7 (noDst (by kernel_rfl))]; rfl)]
          exact ⟨extSelf _, rfl⟩
        · obtain rfl := Option.some.inj ho
          obtain rfl := Option.some.inj hV
          rw [loadIK rfl (hd ⟨4, .data⟩ (by simp) rfl _ _ _ rfl rfl rfl) ((he.cell (p := ⟨wr.heap.size, 2, none⟩) GX.out.1).trans GX.out.2.2.2.1)]
          exact ⟨extSelf _, rfl⟩
        · obtain rfl := Option.some.inj ho
          obtain rfl := Option.some.inj hV
          rw [fieldK (by decide) rfl (by show a.tmps.getD 7 undef = _; rw [Array.getD_eq_getD_getElem?, hs.2.2 7 (noDst (by kernel_rfl))]; rfl)]
          exact ⟨extSelf _, rfl⟩
        · obtain rfl := Option.some.inj ho
          obtain rfl := Option.some.inj hV
          rw [loadIK rfl (hd ⟨6, .data⟩ (by simp) rfl _ _ _ rfl rfl rfl) ((he.cell (p := ⟨wr.heap.size, 0, none⟩) GX.out.1).trans GX.out.2.1)]
          exact ⟨extSelf _, rfl⟩
        · obtain rfl := Option.some.inj ho
          obtain rfl := Option.some.inj hV
          have e55 : a.eval (.tmp 55) = .int .i64 x.f := hd ⟨7, .data⟩ (by simp) rfl _ _ _ rfl rfl rfl
          exact callK (vals := #[.int .i64 x.f]) rfl (by simp only [List.map_toArray, List.map_cons, List.map_nil, e55]) (by go_simp) ((permS1 x.f wx).mono fun e w' ⟨h1, h2⟩ => ⟨_, h1, by rw [h2]; exact ⟨extSelf _, rfl⟩⟩)
        · obtain rfl := Option.some.inj ho
          obtain rfl := Option.some.inj hV
          have mx := HG.out.ms.next he
          have e48 : a.eval (.tmp 48) = .agg #[.slice (some ⟨g, 0, none⟩) (imgTo l k).length c] := hd ⟨0, .data⟩ (by simp) rfl _ _ _ rfl rfl rfl
          have e51 : a.eval (.tmp 51) = .int .i64 (16384 + x.v) := hd ⟨3, .data⟩ (by simp) rfl _ _ _ rfl rfl rfl
          have e53 : a.eval (.tmp 53) = .int .i64 x.m := hd ⟨5, .data⟩ (by simp) rfl _ _ _ rfl rfl rfl
          have e56 : a.eval (.tmp 56) = .int .i64 (permOf x.f) := hd ⟨8, .data⟩ (by simp) rfl _ _ _ rfl rfl rfl
          refine callK rfl (vals := #[.agg #[.slice (some ⟨g, 0, none⟩) (imgTo l k).length c], .int .i64 (16384 + x.v), .int .i64 x.m, .int .i64 (permOf x.f)]) (by simp only [List.map_toArray, List.map_cons, List.map_nil, e48, e51, e53, e56]; try rfl) (by go_simp) ?_
          refine (pagesL (headPgs ++ allSegs (l.take k)) tailPgs (some ⟨g, 0, none⟩) c (16384 + x.v) (permOf x.f) x.m (nPg x.m) wx (imgTo_cat l k) HLZ.out HS.out.n0 (one_pg _ _ (seg_pg HS.out)) HS.out.sA HS.out.sB HS.out.len (by have := HS.out.lo; omega) (by have := HS.out.hi; omega) (Rd.of_own mx.own)).mono ?_
          rintro e w' ⟨g', c', rfl, ho, hb⟩
          exact ⟨_, rfl, hb, g', c', rfl, Joins.ownsRow_le ho he.size⟩
      intro a w3 he hs hh
      obtain ⟨gz, cz, e57, ownz⟩ : OwnK Wg.heap.size LZ w3 (a.tmps.getD 57 undef) := hh 9 (by simp) _ _ _ rfl rfl rfl
      have MZ := Lib.hid (HG.out.ms.put he ownz HP.out)
      have m3 := HG.out.ms.next he
      have k3 := cell_of_one m3.mbx
      have f3 := free_of_one m3.mbx
      have ea := same_litL hs [48, 49, 50, 51, 52, 53, 54, 55, 56, 57] (by kernel_rfl) _ rfl
      simp only [List.foldl_cons, List.foldl_nil, List.set_cons_succ, List.set_cons_zero] at ea
      rw [e57] at ea
      generalize a.tmps.getD 48 undef = z48 at ea
      generalize a.tmps.getD 49 undef = z49 at ea
      generalize a.tmps.getD 50 undef = z50 at ea
      generalize a.tmps.getD 51 undef = z51 at ea
      generalize a.tmps.getD 52 undef = z52 at ea
      generalize a.tmps.getD 53 undef = z53 at ea
      generalize a.tmps.getD 54 undef = z54 at ea
      generalize a.tmps.getD 55 undef = z55 at ea
      generalize a.tmps.getD 56 undef = z56 at ea
      clear hh hs e57
      subst ea
      simp only [List.drop_succ_cons, List.drop_zero, wpTail]
      go_step
      obtain ⟨WZ, hWZ⟩ : ∃ W, W = w3.setCell ⟨mb, 0, none⟩ (.slice (some ⟨gz, 0, none⟩) LZ.length cz) := ⟨_, rfl⟩
      rw [← hWZ] at MZ ⊢
      have NE : Hid (mb < lb ∧ lb < wr.heap.size) := Lib.hid ⟨HI.out.lt, HI.out.ld.1⟩
      have LDZ : Hid (CellsAt WZ lb (ldV n (l.take k) (.slice pa 0 0) (.slice pb 0 0) (.slice pc 0 0))) := Lib.hid (by rw [hWZ]; exact (HG.out.ld.next he).other (by have := NE.out.1; omega))
      have GXZ : Hid (SgAt WZ wr.heap.size x) := Lib.hid (by rw [hWZ]; exact (GX.out.nextL he).otherL (by have := NE.out.1; have := NE.out.2; omega))
      have NZ : Hid (gz ≠ lb) := Lib.hid (by have := (ownz.lt gz rfl).1; have := HG.out.ld.1; omega)
      obtain ⟨t0, t1, t2, t3, t4⟩ := GXZ.out
      have kz := cell_of_one MZ.out.mbx
      have fz := free_of_one MZ.out.mbx
      clear hWZ k3 f3 m3 ownz he HI HG GX HWg
      refine ‹∀ (a : Act) (w : World), Code.wp _ _ _ a w → _› _ _ ?_
      by_cases hf : x.f = 5
      · have hfb : (x.f == 5) = true := by simpa using hf
        have hd5 : x.d.size = m := HS.out.d5 hf
        have HF := Lib.hid hf; have HD5 := Lib.hid hd5
        obtain ⟨U, hU⟩ : ∃ U, U = upN x.d.size := ⟨_, rfl⟩
        have hUN : U = 256 * nPg x.m := by rw [hU, hd5]; exact HS.out.up
        have hU2 : x.d.size ≤ U ∧ U ≤ 4096 := by rw [hU]; have := HS.out.m2; have := HS.out.lo; unfold upN; omega
        have C1 := Lib.hid (fun w => upS x.d.size w (by omega))
        rw [← hU] at C1
        have C2 := Lib.hid (fun w => haltsS (U - x.d.size) w (by omega))
        have eK : ((U - x.d.size : Nat) : Int) = (U : Int) - (x.d.size : Int) := by omega
        rw [eK] at C2
        have ewk : IntKind.i64.wrap ((U : Int) - (x.d.size : Int)) = (U : Int) - (x.d.size : Int) := IntWalk.i64_in _ (by omega)
        obtain ⟨D', hD'⟩ : ∃ D', D' = x.d ++ haltT (U - x.d.size) := ⟨_, rfl⟩
        have hDs : D'.size = U := by rw [hD', ByteArray.size_append, haltT_size]; omega
        have hb0 : ¬ 9223372036854775807 < x.d.size + (haltT (U - x.d.size)).size := by rw [haltT_size]; omega
        have HD' := Lib.hid hD'; have HDS := Lib.hid hDs; have HU := Lib.hid hUN; have HU2 := Lib.hid hU2
        clear hf hd5 hU hUN hU2 eK hD' hDs
        go_wp2_with fail
        refine (C1.out _).mono ?_
        rintro e w5 ⟨rfl, rfl⟩
        go_wp2_with fail
        with_reducible refine Calls.mono (C2.out _) ?_
        rintro e w6 ⟨rfl, b6⟩
        have M6 := Lib.hid (MZ.out.next b6); have LD6 := Lib.hid (LDZ.out.next b6); have GX6 := Lib.hid (GXZ.out.nextL b6)
        clear b6 t0 t1 t2 t3 t4 kz fz
        obtain ⟨t0, t1, t2, t3, t4⟩ := GX6.out
        have kz := cell_of_one M6.out.mbx
        have fz := free_of_one M6.out.mbx
        have l3 := LD6.out.2.1 3 _ rfl
        have l4 := LD6.out.2.1 4 _ rfl
        have fr3 := LD6.out.2.2 3
        have fr4 := LD6.out.2.2 4
        go_upto_region 17 with fail
        rw [← HD'.out]
        obtain ⟨W9, hW9⟩ : ∃ W, W = (w6.setCell ⟨lb, 3, none⟩ (.int .i64 (16384 + x.v))).setCell ⟨lb, 4, none⟩ (.int .i64 (D'.size : Int)) := ⟨_, rfl⟩
        have MS9 : Hid (MS w W9 n (some ⟨b, off, none⟩) cap l mb gz cz LZ) := Lib.hid (by rw [hW9]; exact (M6.out.other HP.out NE.out.1 NZ.out).other HP.out NE.out.1 NZ.out)
        have LD9 : Hid (CellsAt W9 lb (((ldV n (l.take k) (.slice pa 0 0) (.slice pb 0 0) (.slice pc 0 0)).set 3 (.int .i64 (16384 + x.v))).set 4 (.int .i64 (D'.size : Int)))) := Lib.hid (by rw [hW9]; exact (LD6.out.set (k := 3)).set (k := 4))
        have GX9 : Hid (SgAt W9 wr.heap.size x) := Lib.hid (by rw [hW9]; exact (GX6.out.otherL (by have := NE.out.2; omega)).otherL (by have := NE.out.2; omega))
        have HW9 := Lib.hid hW9
        clear hW9
        go_upto_region 19 with fail
        rw [← HW9.out]
        clear l3 l4 fr3 fr4 kz fz t0 t1 t2 t3 t4
        obtain ⟨t0, t1, t2, t3, t4⟩ := GX9.out
        have kz := cell_of_one MS9.out.mbx
        have fz := free_of_one MS9.out.mbx
        go_wp2_with fail
        refine (putL (headPgs ++ allSegs (l.take k)) tailPgs gz 0 cz (16384 + x.v) (permOf x.f) D' (nPg x.m) W9 HLZ.out (imgTo_next HX.out (by rw [HD'.out]; exact segU_code HF.out HU.out.symm HU2.out.1)) HS.out.n0 (by rw [HLZ.out]; exact HS.out.ok) (by have := HDS.out; have := HU.out; omega) (Rd.of_own MS9.out.own)).mono ?_
        rintro e w10 ⟨gp, cp, rfl, ho10, b10⟩
        obtain ⟨W10, hW10⟩ : ∃ W, W = w10.setCell ⟨mb, 0, none⟩ (.slice (some ⟨gp, 0, none⟩) (imgTo l (k + 1)).length cp) := ⟨_, rfl⟩
        have MS10 : Hid (MS w W10 n (some ⟨b, off, none⟩) cap l mb gp cp (imgTo l (k + 1))) := Lib.hid (by rw [hW10]; exact MS9.out.put b10 ho10 HP.out)
        have LD10 : Hid (CellsAt W10 lb (((ldV n (l.take k) (.slice pa 0 0) (.slice pb 0 0) (.slice pc 0 0)).set 3 (.int .i64 (16384 + x.v))).set 4 (.int .i64 (D'.size : Int)))) := Lib.hid (by rw [hW10]; exact (LD9.out.next b10).other (by have := NE.out.1; omega))
        have GX10 : Hid (SgAt W10 wr.heap.size x) := Lib.hid (by rw [hW10]; exact (GX9.out.nextL b10).otherL (by have := NE.out.1; have := NE.out.2; omega))
        have NP : Hid (gp ≠ lb) := Lib.hid (by have := (ho10.lt gp rfl).1; have := LD9.out.1; omega)
        have k10 := cell_of_one (MS9.out.next b10).mbx
        have f10 := free_of_one (MS9.out.next b10).mbx
        have HW10 := Lib.hid hW10
        clear ho10 b10 hW10
        go_upto_region 20 with fail
        rw [← HW10.out]
        clear k10 f10
        obtain ⟨t0, t1, t2, t3, t4⟩ := GX10.out
        have l2 := LD10.out.2.1 2 _ rfl
        have fr2 := LD10.out.2.2 2
        have CU := Lib.hid (fun w => upS (256 * q + m) w (by have := HS.out.m2; have := HS.out.ve; omega))
        rw [show ((256 * q + m : Nat) : Int) = x.v + x.m by have := HS.out.ve; have := HS.out.me; omega, HS.out.wp] at CU
        have ews : IntKind.i64.wrap (x.v + x.m) = x.v + x.m := IntWalk.i64_in _ (by have := HS.out.hi; have := HS.out.lo; have := HS.out.m2; have := HS.out.me; omega)
        go_wp2_with fail
        refine (CU.out _).mono ?_
        rintro e w11 ⟨rfl, rfl⟩
        go_wp2
        go_roundw
        case rel =>
          refine ⟨k + 1, by omega, by go_num, gp, cp, Lib.hid ⟨MS10.out.other HP.out (NE.out.1) NP.out, NE.out.1, NP.out, ?_⟩⟩
          have h := LD10.out.set (k := 2) (u := .int .i64 (wpN (x.v + x.m)))
          have e : (((ldV n (l.take k) (.slice pa 0 0) (.slice pb 0 0) (.slice pc 0 0)).set 3 (.int .i64 (16384 + x.v))).set 4 (.int .i64 (D'.size : Int))).set 2 (.int .i64 (wpN (x.v + x.m))) = ldV n (l.take (k + 1)) (.slice pa 0 0) (.slice pb 0 0) (.slice pc 0 0) := by
            unfold ldV
            rw [hp_snoc HX.out, ta_snoc HX.out, sz_snoc HX.out, if_pos HF.out, if_pos HF.out, show D'.size = 256 * nPg x.m from HDS.out.trans HU.out]
            rfl
          rw [e] at h
          exact h
        case measure => simp [intOf]; omega
      · have hfb : (x.f == 5) = false := by simpa using hf
        have HF := Lib.hid hf
        clear hf
        go_wp2_with fail
        refine (putL (headPgs ++ allSegs (l.take k)) tailPgs gz 0 cz (16384 + x.v) (permOf x.f) x.d (nPg x.m) WZ HLZ.out (imgTo_next HX.out (segU_other HF.out)) HS.out.n0 (by rw [HLZ.out]; exact HS.out.ok) (by have := HS.out.ds; have := HS.out.me; have := seg_pg HS.out; omega) (Rd.of_own MZ.out.own)).mono ?_
        rintro e w10 ⟨gp, cp, rfl, ho10, b10⟩
        obtain ⟨W10, hW10⟩ : ∃ W, W = w10.setCell ⟨mb, 0, none⟩ (.slice (some ⟨gp, 0, none⟩) (imgTo l (k + 1)).length cp) := ⟨_, rfl⟩
        have MS10 : Hid (MS w W10 n (some ⟨b, off, none⟩) cap l mb gp cp (imgTo l (k + 1))) := Lib.hid (by rw [hW10]; exact MZ.out.put b10 ho10 HP.out)
        have LD10 : Hid (CellsAt W10 lb (ldV n (l.take k) (.slice pa 0 0) (.slice pb 0 0) (.slice pc 0 0))) := Lib.hid (by rw [hW10]; exact (LDZ.out.next b10).other (by have := NE.out.1; omega))
        have GX10 : Hid (SgAt W10 wr.heap.size x) := Lib.hid (by rw [hW10]; exact (GXZ.out.nextL b10).otherL (by have := NE.out.1; have := NE.out.2; omega))
        have NP : Hid (gp ≠ lb) := Lib.hid (by have := (ho10.lt gp rfl).1; have := LDZ.out.1; omega)
        have k10 := cell_of_one (MZ.out.next b10).mbx
        have f10 := free_of_one (MZ.out.next b10).mbx
        have HW10 := Lib.hid hW10
        clear ho10 b10 hW10
        go_upto_region 20 with fail
        rw [← HW10.out]
        clear k10 f10
        obtain ⟨t0, t1, t2, t3, t4⟩ := GX10.out
        have l2 := LD10.out.2.1 2 _ rfl
        have fr2 := LD10.out.2.2 2
        have CU := Lib.hid (fun w => upS (256 * q + m) w (by have := HS.out.m2; have := HS.out.ve; omega))
        rw [show ((256 * q + m : Nat) : Int) = x.v + x.m by have := HS.out.ve; have := HS.out.me; omega, HS.out.wp] at CU
        have ews : IntKind.i64.wrap (x.v + x.m) = x.v + x.m := IntWalk.i64_in _ (by have := HS.out.hi; have := HS.out.lo; have := HS.out.m2; have := HS.out.me; omega)
        go_wp2_with fail
        refine (CU.out _).mono ?_
        rintro e w11 ⟨rfl, rfl⟩
        go_wp2
        go_roundw
        case rel =>
          refine ⟨k + 1, by omega, by go_num, gp, cp, Lib.hid ⟨MS10.out.other HP.out (NE.out.1) NP.out, NE.out.1, NP.out, ?_⟩⟩
          have h := LD10.out.set (k := 2) (u := .int .i64 (wpN (x.v + x.m)))
          have e : (ldV n (l.take k) (.slice pa 0 0) (.slice pb 0 0) (.slice pc 0 0)).set 2 (.int .i64 (wpN (x.v + x.m))) = ldV n (l.take (k + 1)) (.slice pa 0 0) (.slice pb 0 0) (.slice pc 0 0) := by
            unfold ldV
            rw [hp_snoc HX.out, ta_snoc HX.out, sz_snoc HX.out, if_neg HF.out, if_neg HF.out]
            rfl
          rw [e] at h
          exact h
        case measure => simp [intOf]; omega
    · obtain rfl : k = l.length := by omega
      have etk : l.take l.length = l := List.take_length
      have LD0 : Hid (CellsAt wr lb (ldV n l (.slice pa 0 0) (.slice pb 0 0) (.slice pc 0 0))) := Lib.hid (by have := HI.out.ld; rw [etk] at this; exact this)
      have kz := cell_of_one HI.out.ms.mbx
      have l0 := LD0.out.2.1 0 _ rfl
      have fr0 := LD0.out.2.2 0
      obtain ⟨W9, hW9⟩ : ∃ W, W = wr.setCell ⟨lb, 0, none⟩ (.slice (some ⟨g, 0, none⟩) (imgTo l l.length).length c) := ⟨_, rfl⟩
      have MS9 : Hid (MS w W9 n p cap l mb g c (imgTo l l.length)) := Lib.hid (by rw [hW9]; exact HI.out.ms.other HP.out HI.out.lt HI.out.ne)
      have LD9 : Hid (CellsAt W9 lb ((ldV n l (.slice pa 0 0) (.slice pb 0 0) (.slice pc 0 0)).set 0 (.slice (some ⟨g, 0, none⟩) (imgTo l l.length).length c))) := Lib.hid (by rw [hW9]; exact LD0.out.set)
      have HW9 := Lib.hid hW9
      clear hW9
      go_upto_region 22 with fail
      rw [← HW9.out]
      clear kz l0 fr0 i0 i1 i2
      have v0 := LD9.out.2.1 0 _ rfl
      have v1 := LD9.out.2.1 1 _ rfl
      have v2 := LD9.out.2.1 2 _ rfl
      have v3 := LD9.out.2.1 3 _ rfl
      have v4 := LD9.out.2.1 4 _ rfl
      have v5 := LD9.out.2.1 5 _ rfl
      have v6 := LD9.out.2.1 6 _ rfl
      have v7 := LD9.out.2.1 7 _ rfl
      have v8 := LD9.out.2.1 8 _ rfl
      have RES := CellsAt.of_block MS9.out.res
      have s0 := RES.2.1 0 _ rfl
      have s1 := RES.2.1 1 _ rfl
      have s2 := RES.2.1 2 _ rfl
      have s3 := RES.2.1 3 _ rfl
      have s4 := RES.2.1 4 _ rfl
      have s5 := RES.2.1 5 _ rfl
      have s6 := RES.2.1 6 _ rfl
      have s7 := RES.2.1 7 _ rfl
      have s8 := RES.2.1 8 _ rfl
      have f0 := RES.2.2 0
      have f1 := RES.2.2 1
      have f2 := RES.2.2 2
      have f3 := RES.2.2 3
      have f4 := RES.2.2 4
      have f5 := RES.2.2 5
      have f6 := RES.2.2 6
      have f7 := RES.2.2 7
      have f8 := RES.2.2 8
      have RX := Lib.hid (((((((((RES.set (k := 0) (u := (.slice (some ⟨g, 0, none⟩) (imgTo l l.length).length c))).set (k := 1) (u := (.int .i64 (16384 + n)))).set (k := 2) (u := (.int .i64 (hpOf l)))).set (k := 3) (u := (.int .i64 (taOf l)))).set (k := 4) (u := (.int .i64 (szOf l)))).set (k := 5) (u := (.slice pa 0 0))).set (k := 6) (u := (.slice pb 0 0))).set (k := 7) (u := (.slice pc 0 0))).set (k := 8) (u := (.int .i64 0)))
      have hnl : lb ≠ w.heap.size + 1 := by have := MS9.out.lt; have := HI.out.lt; omega
      have hgl := Lib.hid (MS9.out.own.lt g rfl).1
      clear RES
      go_wp2
      obtain ⟨_, rx, _⟩ := RX.out
      have r0 := rx 0 _ rfl
      have r1 := rx 1 _ rfl
      have r2 := rx 2 _ rfl
      have r3 := rx 3 _ rfl
      have r4 := rx 4 _ rfl
      have r5 := rx 5 _ rfl
      have r6 := rx 6 _ rfl
      have r7 := rx 7 _ rfl
      have r8 := rx 8 _ rfl
      clear rx
      refine bodyPost_ret (v := .agg #[.slice (some ⟨g, 0, none⟩) (imgTo l l.length).length c, .int .i64 (16384 + n), .int .i64 (hpOf l), .int .i64 (taOf l), .int .i64 (szOf l), (.slice pa 0 0), (.slice pb 0 0), (.slice pc 0 0), .int .i64 0]) (by simp [results, Tryd.results25, go_sem, r0, r1, r2, r3, r4, r5, r6, r7, r8]) rfl ?_
      refine ⟨⟨g, c, pa, pb, pc, by rw [imgTo_all], ?_⟩, ?_⟩
      · have hne : (Value.slice (some ⟨g, 0, none⟩) (imgTo l l.length).length c).ownBlock ≠ some (w.heap.size + 1) := by
          intro e
          have := hgl.out
          simp [Value.ownBlock] at e
          omega
        rw [← imgTo_all]
        exact Joins.ownsRow_le (ownsRow_setCell_other (ownsRow_setCell_other (ownsRow_setCell_other (ownsRow_setCell_other (ownsRow_setCell_other (ownsRow_setCell_other (ownsRow_setCell_other (ownsRow_setCell_other (ownsRow_setCell_other MS9.out.own hne _) hne _) hne _) hne _) hne _) hne _) hne _) hne _) hne _) (by omega)
      · exact ((((((((MS9.out.bel.setCell (by simp) _).setCell (by simp) _).setCell (by simp) _).setCell (by simp) _).setCell (by simp) _).setCell (by simp) _).setCell (by simp) _).setCell (by simp) _).setCell (by simp) _
end Go.Proofs.YtcchcinnjahghaaDoor
