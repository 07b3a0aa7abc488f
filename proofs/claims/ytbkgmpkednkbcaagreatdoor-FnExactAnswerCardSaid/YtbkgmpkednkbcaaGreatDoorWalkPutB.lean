/-
  Plain facts on bytes that are laid into pages, page by page; no condition but those in each head.
  What the program's put and lay do: bytes are laid into pages that the call owns, and a code tells why not; conditions: those in each head.
  What spec.l02Put does: bytes laid into a copy of a memory, page by page, changing nothing that was there; conditions: those in each head.
  What impl.PutBytes and spec.PutBytes do: the memory with bytes laid into its pages, in new memory, and a code, changing nothing that was there; conditions: those in each head.
-/
import Derived.Test.YtbkgmpkednkbcaaGreatDoorWalkFault
import Derived.Test.YtbkgmpkednkbcaaGreatDoorWalkSetP
import Derived.Test.YtbkgmpkednkbcaaGreatDoorWalkGet
import Derived.BigRegion
namespace Go.Proofs.YtbkgmpkednkbcaaGreatDoor
open Go.RowKit
/-- a page with bytes t laid from place o on -/
def wrB (d : ByteArray) (o : Nat) (t : ByteArray) (n : Nat) : ByteArray := d.extract 0 o ++ t.extract 0 n ++ d.extract (o + n) d.size
theorem wrB_size {d t : ByteArray} {o n : Nat} (hd : d.size = 256) (ho : o + n ≤ 256) (hn : n ≤ t.size) : (wrB d o t n).size = 256 := by
  unfold wrB
  rw [← ba_len, ba_app, ba_app, List.length_append, List.length_append, ba_cut, ba_cut, ba_cut]
  simp only [List.length_drop, List.length_take, ba_len, Nat.sub_zero]
  omega
/-- how many bytes go into the page that has an address -/
def much (x : Pg) (a : Int) (t : ByteArray) : Nat := min t.size (256 - (a - x.b).toNat)
inductive LayR (perm : Int) : List Pg → Int → ByteArray → List Pg → Int → Prop
  | done (l : List Pg) (a : Int) (t : ByteArray) : t.size = 0 → LayR perm l a t l 0
  | fail (l : List Pg) (a : Int) (t : ByteArray) (l' : List Pg) (c : Int) : 0 < t.size → CodeAt l perm a c → LayR perm l a t l' c
  | step (l : List Pg) (a : Int) (t : ByteArray) (k : Nat) (x : Pg) (l' : List Pg) (c : Int) : 0 < t.size → Has l a k x → allowB x.p perm = true → LayR perm (l.set k ⟨x.b, x.p, wrB x.d (a - x.b).toNat t (much x a t)⟩) (a + much x a t) (t.extract (much x a t) t.size) l' c → LayR perm l a t l' c
/-- alike but for the bytes -/
def Shape (l l' : List Pg) : Prop := l.length = l'.length ∧ ∀ (k : Nat) x, l[k]? = some x → ∃ d : ByteArray, l'[k]? = some ⟨x.b, x.p, d⟩ ∧ (x.d.size = 256 → d.size = 256)
theorem Shape.refl (l : List Pg) : Shape l l := ⟨rfl, fun _ x h => ⟨x.d, h, id⟩⟩
theorem Shape.trans {a b c : List Pg} (h : Shape a b) (h' : Shape b c) : Shape a c := ⟨h.1.trans h'.1, fun k x hx => by
  obtain ⟨d, hd, hs⟩ := h.2 k x hx
  obtain ⟨d', hd', hs'⟩ := h'.2 k _ hd
  exact ⟨d', hd', fun e => hs' (hs e)⟩⟩
theorem Shape.ok {l l' : List Pg} (h : Shape l l') (hm : MemOk l) : MemOk l' := by
  have back (k : Nat) (y : Pg) (hy : l'[k]? = some y) : ∃ x, l[k]? = some x ∧ y.b = x.b ∧ y.p = x.p ∧ (x.d.size = 256 → y.d.size = 256) := by
    have hk : k < l.length := by rw [h.1]; exact (List.getElem?_eq_some_iff.1 hy).1
    obtain ⟨d, hd, hs⟩ := h.2 k _ (List.getElem?_eq_getElem hk)
    rw [hd] at hy; cases hy
    exact ⟨_, List.getElem?_eq_getElem hk, rfl, rfl, hs⟩
  refine ⟨by have := hm.1; have := h.1; omega, fun k y hy => ?_, fun k y z hy hz => ?_⟩
  · obtain ⟨x, hx, e1, e2, e3⟩ := back k y hy
    obtain ⟨h1, h2, h3, h4, h5, h6⟩ := hm.2.1 k x hx
    exact ⟨by omega, by omega, by omega, by omega, by omega, e3 h6⟩
  · obtain ⟨x, hx, e1, _, _⟩ := back k y hy
    obtain ⟨x', hx', e1', _, _⟩ := back (k + 1) z hz
    have := hm.2.2 k x x' hx hx'
    omega
theorem Shape.has {l l' : List Pg} (h : Shape l l') {a : Int} {k : Nat} {x : Pg} (hh : Has l a k x) : ∃ d, Has l' a k ⟨x.b, x.p, d⟩ := by
  obtain ⟨d, hd, _⟩ := h.2 k x hh.1
  exact ⟨d, hd, hh.2.1, hh.2.2⟩
theorem Shape.sym_has {l l' : List Pg} (h : Shape l l') {a : Int} {k : Nat} {y : Pg} (hh : Has l' a k y) : ∃ x, Has l a k x ∧ x.p = y.p ∧ x.b = y.b := by
  have hk : k < l.length := by rw [h.1]; exact (List.getElem?_eq_some_iff.1 hh.1).1
  obtain ⟨d, hd, _⟩ := h.2 k _ (List.getElem?_eq_getElem hk)
  have e := hd.symm.trans hh.1
  cases e
  exact ⟨_, ⟨List.getElem?_eq_getElem hk, hh.2.1, hh.2.2⟩, rfl, rfl⟩
theorem Shape.code {l l' : List Pg} (h : Shape l l') {perm a c : Int} (hc : CodeAt l' perm a c) : CodeAt l perm a c := by
  rcases hc with ⟨k, y, hh, hal, rfl⟩ | ⟨hno, rfl⟩
  · obtain ⟨x, hx, e, _⟩ := h.sym_has hh
    exact .inl ⟨k, x, hx, by rw [e]; exact hal, rfl⟩
  · exact .inr ⟨fun k x hx => by obtain ⟨d, hd⟩ := h.has hx; exact hno k _ hd, rfl⟩
theorem Shape.byte {l l' : List Pg} (h : Shape l l') (hm : MemOk l) {perm a : Int} (hb : ∃ v, ByteAt l' perm a v) : ∃ v, ByteAt l perm a v := by
  obtain ⟨v, k, y, hh, hal, _⟩ := hb
  obtain ⟨x, hx, e, _⟩ := h.sym_has hh
  exact has_byte hm hx (by rw [e]; exact hal)
theorem Shape.byte' {l l' : List Pg} (h : Shape l l') (hm : MemOk l) {perm a : Int} (hb : ∃ v, ByteAt l perm a v) : ∃ v, ByteAt l' perm a v := by
  obtain ⟨v, k, x, hh, hal, _⟩ := hb
  obtain ⟨d, hd⟩ := h.has hh
  exact has_byte (h.ok hm) hd hal
theorem much_bounds {l : List Pg} {a : Int} {k : Nat} {x : Pg} {t : ByteArray} (hh : Has l a k x) (ht : 0 < t.size) : 0 < much x a t ∧ much x a t ≤ t.size ∧ (a - x.b).toNat + much x a t ≤ 256 := by
  have := hh.2
  unfold much
  omega
theorem shape_set {l : List Pg} (hm : MemOk l) {a : Int} {k : Nat} {x : Pg} {t : ByteArray} (hh : Has l a k x) (ht : 0 < t.size) : Shape l (l.set k ⟨x.b, x.p, wrB x.d (a - x.b).toNat t (much x a t)⟩) := by
  refine ⟨by simp, fun j y hj => ?_⟩
  have hb := much_bounds hh ht
  by_cases e : k = j
  · subst e
    have hy := hj.symm.trans hh.1
    cases hy
    have hk := (List.getElem?_eq_some_iff.1 hj).1
    exact ⟨_, by rw [List.getElem?_set, if_pos rfl, if_pos hk], fun _ => wrB_size (hm.2.1 k _ hj).2.2.2.2.2 hb.2.2 hb.2.1⟩
  · exact ⟨y.d, by rw [List.getElem?_set, if_neg e]; exact hj, id⟩
theorem cut_size (t : ByteArray) (n : Nat) : (t.extract n t.size).size = t.size - n := by
  rw [← ba_len, ba_cut, List.length_drop, List.length_take, ba_len]; omega
theorem LayR.ft {perm : Int} {l : List Pg} {a : Int} {t : ByteArray} {l' : List Pg} {c : Int} (h : LayR perm l a t l' c) (hm : MemOk l) : FtOut l a t.size perm c := by
  induction h with
  | done l a t h => exact .inl ⟨rfl, fun i hi => by omega⟩
  | fail l a t l' c h hc => exact .inr ⟨0, h, fun j hj => by omega, by simpa using hc⟩
  | step l a t k x l' c ht hh hal _ ih =>
    have hs := shape_set hm hh ht
    have hb := much_bounds hh ht
    have hft := ih (hs.ok hm)
    rw [cut_size] at hft
    have low (i : Nat) (hi : i < much x a t) : ∃ v, ByteAt l perm (a + i) v := by
      have h2 := hh.2
      exact has_byte hm (k := k) (x := x) ⟨hh.1, by omega, by omega⟩ hal
    rcases hft with ⟨rfl, hall⟩ | ⟨i, hi, hbe, hc⟩
    · refine .inl ⟨rfl, fun i hi => ?_⟩
      by_cases hlo : i < much x a t
      · exact low i hlo
      · have := hs.byte hm (hall (i - much x a t) (by omega))
        rw [show a + (i : Int) = a + (much x a t : Int) + ((i - much x a t : Nat) : Int) by omega]
        exact this
    · refine .inr ⟨much x a t + i, by omega, fun j hj => ?_, ?_⟩
      · by_cases hlo : j < much x a t
        · exact low j hlo
        · have := hs.byte hm (hbe (j - much x a t) (by omega))
          rw [show a + (j : Int) = a + (much x a t : Int) + ((j - much x a t : Nat) : Int) by omega]
          exact this
      · have := hs.code hc
        rw [show a + ((much x a t + i : Nat) : Int) = a + (much x a t : Int) + (i : Int) by omega]
        exact this
theorem FtOut.one {l : List Pg} (hm : MemOk l) {a : Int} {n : Nat} {perm c c' : Int} (h : FtOut l a n perm c) (h' : FtOut l a n perm c') : c = c' := by
  rcases h with ⟨rfl, h⟩ | ⟨i, hi, hb, hc⟩ <;> rcases h' with ⟨rfl, g⟩ | ⟨j, hj, gb, gc⟩
  · rfl
  · obtain ⟨v, hv⟩ := h j hj
    exact (byte_code hm hv gc).elim
  · obtain ⟨v, hv⟩ := g i hi
    exact (byte_code hm hv hc).elim
  · rcases Nat.lt_trichotomy i j with e | e | e
    · obtain ⟨v, hv⟩ := gb i e
      exact (byte_code hm hv hc).elim
    · subst e; exact code_one hc gc
    · obtain ⟨v, hv⟩ := hb j e
      exact (byte_code hm hv gc).elim
theorem LayR.one {perm : Int} {l : List Pg} {a : Int} {t : ByteArray} {l1 : List Pg} (h : LayR perm l a t l1 0) (hm : MemOk l) {l2 : List Pg} (h' : LayR perm l a t l2 0) : l1 = l2 := by
  generalize hc : (0 : Int) = c at h
  induction h with
  | done l a t h =>
    cases h' with
    | done => rfl
    | fail _ _ _ _ _ h2 => omega
    | step _ _ _ _ _ _ _ h2 => omega
  | fail l a t l' c h hcc => have := code_pos hcc; omega
  | step l a t k x l' c ht hh hal _ ih =>
    cases h' with
    | done _ _ _ h2 => omega
    | fail _ _ _ _ _ h2 hcc => have := code_pos hcc; omega
    | step _ _ _ k' x' _ _ _ hh' _ h2 =>
      obtain ⟨rfl, rfl⟩ := Has.one hm hh hh'
      exact ih ((shape_set hm hh ht).ok hm) h2 hc
theorem LayR.shape {perm : Int} {l : List Pg} {a : Int} {t : ByteArray} {l' : List Pg} (h : LayR perm l a t l' 0) (hm : MemOk l) : Shape l l' := by
  generalize hc : (0 : Int) = c at h
  induction h with
  | done l a t h => exact Shape.refl l
  | fail l a t l' c h hcc => have := code_pos hcc; omega
  | step l a t k x l' c ht hh hal _ ih =>
    have hs := shape_set hm hh ht
    exact hs.trans (ih (hs.ok hm) hc)
end Go.Proofs.YtbkgmpkednkbcaaGreatDoor
namespace Go.Proofs.YtbkgmpkednkbcaaGreatDoor
open Go.RowKit Go.Sort
set_option maxHeartbeats 1000000 in
theorem putC (x : Pg) (a : Int) (t : ByteArray) (g o : Nat) (w : World) (c0 : w.cell? ⟨g, o, none⟩ = some (.int .i64 x.b)) (c2 : w.cell? ⟨g, o + 2, none⟩ = some (.string x.d)) (e2 : w.frozen? ⟨g, o + 2, none⟩ = false) (hs : x.d.size = 256) (h1 : x.b ≤ a) (h2 : a < x.b + 256) (ht : t.size ≤ 9223372036854775807) :
    Calls Tryz.prog 129 #[.pointer (some ⟨g, o, none⟩), .int .i64 a, .string t] w fun e w' => e = .returned (.int .i64 (much x a t)) ∧ w' = (w.setCell ⟨g, o + 2, none⟩ (.string (wrB x.d (a - x.b).toNat t (much x a t)))).drew := by
  have hm := mixed
  obtain ⟨k, hk⟩ : ∃ k : Nat, a - x.b = (k : Int) := ⟨(a - x.b).toNat, by omega⟩
  obtain ⟨n, hn⟩ : ∃ n : Nat, min (t.size : Int) (256 - (k : Int)) = (n : Int) := ⟨(min (t.size : Int) (256 - (k : Int))).toNat, by omega⟩
  have hmu : much x a t = n := by unfold much; omega
  have hk0 : (a - x.b).toNat = k := by omega
  rw [hmu, hk0]
  have hn1 : n ≤ t.size := by omega
  have hkn : k + n ≤ 256 := by omega
  have ew : IntKind.i64.wrap ((k : Int) + (n : Int)) = ((k + n : Nat) : Int) := by rw [IntKind.wrap_i64]; omega
  go_enter Tryz.func129, Tryz.ntmps129
  go_wp2_with fail
  try simp only [hk, hn]
  have hk2 : k ≤ 256 := by omega
  have hn2 : (n : Int) ≤ (t.size : Int) := by omega
  have hk3 : (k : Int) ≤ 256 := by omega
  have hkn2 : ((k + n : Nat) : Int) ≤ 256 := by omega
  clear hk hn hmu hk0 h1 h2 ht
  go_region
  go_wp2
  go_ret
  refine ⟨rfl, ?_⟩
  unfold wrB
  rw [hs]
theorem PV_set2 {l : List Pg} {k : Nat} {x : Pg} (h : l[k]? = some x) (d : ByteArray) : (PV l).set (k * 3 + 2) (.string d) = PV (l.set k ⟨x.b, x.p, d⟩) := by
  rw [← PV_set]
  have h0 := PV_at h 0 (by omega)
  have h1 := PV_at h 1 (by omega)
  have hl := PV_len l
  have hk := (List.getElem?_eq_some_iff.1 h).1
  apply List.ext_getElem?
  intro j
  simp only [List.getElem?_set, List.length_set]
  by_cases e0 : k * 3 = j
  · subst e0
    rw [if_neg (by omega), if_neg (by omega), if_neg (by omega), if_pos rfl, if_pos (by omega)]
    simpa [pv] using h0
  · by_cases e1 : k * 3 + 1 = j
    · subst e1
      rw [if_neg (by omega), if_neg (by omega), if_pos rfl, if_pos (by omega)]
      simpa [pv] using h1
    · by_cases e2 : k * 3 + 2 = j
      · subst e2; simp
      · rw [if_neg e2, if_neg e2, if_neg e1, if_neg e0]
theorem cut_cut (t : ByteArray) (k n : Nat) : (t.extract k t.size).extract n (t.extract k t.size).size = t.extract (k + n) t.size := by
  apply ba_ext
  rw [cut_size, ba_cut, ba_cut, ba_cut, ← ba_len t, List.take_length, List.take_of_length_le (by simp), List.drop_drop]
theorem cut_all (t : ByteArray) : t.extract 0 t.size = t := by
  apply ba_ext
  rw [ba_cut, ← ba_len t, List.take_length, List.drop_zero]
/-- the table while bytes are laid: page by page -/
def LI (w wr : World) (B0 Bk c g : Nat) (q : Option Addr) (l : List Pg) (a perm : Int) (t : ByteArray) (k : Nat) (lc : List Pg) : Prop :=
  Shape l lc ∧ (∀ l' c', LayR perm lc (a + k) (t.extract k t.size) l' c' → LayR perm l a t l' c') ∧ TabOwn wr Bk q c g lc ∧ wr.heap[B0]? = some (.cells #[.slice q l.length c] 101 (0, 0)) ∧ Below Bk w wr ∧ (k = 0 ∨ (0 ≤ a ∧ a ≤ 65535))
theorem TabOwn.drew {W : World} {B : Nat} {q : Option Addr} {c g : Nat} {l : List Pg} (h : TabOwn W B q c g l) : TabOwn W.drew B q c g l := h.below (below_drew1 W)
theorem LI.step {w wr w1 : World} {B0 Bk c g : Nat} {q : Option Addr} {l : List Pg} {a perm : Int} {t : ByteArray} {k : Nat} {lc : List Pg} {j : Nat} {x : Pg} (h : LI w wr B0 Bk c g q l a perm t k lc) (hm : MemOk l) (hBk : Bk ≤ w.heap.size) (hk : k < t.size) (b1 : Below wr.heap.size wr w1) (hh : Has lc (a + k) j x) (hal : allowB x.p perm = true) :
    LI w ((w1.setCell ⟨g, j * 3 + 2, none⟩ (.string (wrB x.d (a + k - x.b).toNat (t.extract k t.size) (much x (a + k) (t.extract k t.size))))).drew) B0 Bk c g q l a perm t (k + much x (a + k) (t.extract k t.size)) (lc.set j ⟨x.b, x.p, wrB x.d (a + k - x.b).toNat (t.extract k t.size) (much x (a + k) (t.extract k t.size))⟩) := by
  obtain ⟨i1, i2, i3, i4, i5, i6⟩ := h
  have hmc := i1.ok hm
  have hcs := cut_size t k
  have hs := shape_set (t := t.extract k t.size) hmc hh (by omega)
  have hT := (i3.below b1)
  obtain ⟨pc, hpg⟩ := hT.pages hh.1
  have e3 := (b1.block _ (lt_of_block i4)).trans i4
  have hgw : g ≠ B0 := by
    rintro rfl
    obtain ⟨c2, f2, e2⟩ := Lib.ownsRow_kind hpg g rfl
    rw [e2] at e3
    simp at e3
  refine ⟨i1.trans hs, fun l' c' hl => i2 l' c' (.step _ _ _ j x l' c' (by omega) hh hal ?_), ?_, ?_, ?_, .inr ?_⟩
  · rw [cut_cut]
    rw [show a + (k : Int) + ((much x (a + k) (t.extract k t.size) : Nat) : Int) = a + ((k + much x (a + k) (t.extract k t.size) : Nat) : Int) by omega]
    exact hl
  · exact (hT.store hh.1 _ _ (by simp) (PV_set2 hh.1 _)).drew
  · exact (Below.heap_setCell _ _ _ _ (by simpa using Ne.symm hgw)).trans e3
  · have hb2 : Below Bk wr w1 := b1.mono (by have := i5.size; omega)
    exact ((i5.trans hb2).setCell (by have := (hpg.lt g rfl).1; simpa using this) _).trans (below_draw 1)
  · rcases i6 with rfl | i6
    · have := has_bounds hmc hh; simpa using this
    · exact i6
set_option maxHeartbeats 1000000 in
theorem layC (B0 Bk c g : Nat) (q : Option Addr) (l : List Pg) (a perm : Int) (t : ByteArray) (w : World) (hm : MemOk l) (hB : w.heap[B0]? = some (.cells #[.slice q l.length c] 101 (0, 0))) (hT : TabOwn w Bk q c g l) (hBk : Bk ≤ w.heap.size) (h1 : -9223372036854775808 ≤ a) (h2 : a ≤ 9223372036854775807) (ht : t.size ≤ 8192) :
    Calls Tryz.prog 115 #[.pointer (some ⟨B0, 0, none⟩), .int .i64 a, .string t, .int .i64 perm] w fun e w' => ∃ c' lc, e = .returned (.int .i64 c') ∧ Hid (∀ l', (c' = 0 → l' = lc) → LayR perm l a t l' c') ∧ Hid (Shape l lc ∧ TabOwn w' Bk q c g lc ∧ w'.heap[B0]? = some (.cells #[.slice q l.length c] 101 (0, 0))) ∧ Below Bk w w' := by
  have HM := Lib.hid hm
  have HI0 : Hid (LI w w B0 Bk c g q l a perm t 0 l) := Lib.hid ⟨Shape.refl l, fun l' c' h => by rw [cut_all] at h; simpa using h, hT, hB, Below.refl _ _, .inl rfl⟩
  clear hm hB hT
  go_enter Tryz.func115, Tryz.ntmps115
  go_wp2
  go_loopw [9] (fun i wr => ∃ k : Nat, k ≤ t.size ∧ i = .int .i64 k ∧ ∃ lc, Hid (LI w wr B0 Bk c g q l a perm t k lc)) (fun i _ => t.size - (intOf i).toNat)
  case atStart => exact ⟨0, Nat.zero_le _, rfl, l, HI0⟩
  case round =>
    obtain ⟨k, hk, rfl, lc, HI⟩ := hrel
    by_cases hlt : k < t.size
    · have hlt2 : (k : Int) < (t.size : Int) := by omega
      have hbd := HI.out.2.2.2.2.2
      have b1 : -9223372036854775808 ≤ a + (k : Int) := by omega
      have b2 : a + (k : Int) ≤ 9223372036854775807 := by omega
      have hlen : l.length = lc.length := HI.out.1.1
      have HMC := Lib.hid (HI.out.1.ok HM.out)
      have C := Lib.hid (reachC B0 c g q lc (a + k) perm wr HMC.out (by rw [← hlen]; exact cell_of_one HI.out.2.2.2.1) (lt_of_block HI.out.2.2.2.1) HI.out.2.2.1.tab b1 b2)
      clear hbd
      go_wp2_with fail
      refine (C.out).mono ?_
      rintro e w1 ⟨ho, hb⟩
      rcases ho with ⟨j, x, hh, hal, rfl⟩ | ⟨j, x, hh, hal, rfl⟩ | ⟨hno, rfl⟩
      · have HN := Lib.hid (LI.step HI.out HM.out hBk hlt hb hh hal)
        have hT := HI.out.2.2.1.below hb
        obtain ⟨h, e1, q0, q1, a0, a1, a2, a3⟩ := hT.tab j x hh.1
        obtain ⟨pc, hpg⟩ := hT.pages hh.1
        have hfz := hpg.frozenAt (j * 3 + 2)
        have hsz : x.d.size = 256 := (HMC.out.2.1 j x hh.1).2.2.2.2.2
        have hcs := cut_size t k
        have hmu := much_bounds (t := t.extract k t.size) hh (by omega)
        have C1 := Lib.hid (putC x (a + k) (t.extract k t.size) g (j * 3) w1 a1 a3 hfz hsz hh.2.1 hh.2.2 (by omega))
        obtain ⟨n, hn⟩ : ∃ n, much x (a + k) (t.extract k t.size) = n := ⟨_, rfl⟩
        rw [hn] at HN C1 hmu
        have hn1 : 0 < n := by omega
        have hn2 : k + n ≤ t.size := by omega
        have en : IntKind.i64.wrap ((k : Int) + (n : Int)) = ((k + n : Nat) : Int) := by rw [IntKind.wrap_i64]; omega
        clear hh hal e1 q0 q1 a0 a1 a2 a3 hb C hsz hpg hT hfz hcs hmu hn hlen
        go_wp2_with fail
        refine (C1.out).mono ?_
        rintro e w2 ⟨rfl, rfl⟩
        go_wp2
        go_roundw
        case rel => exact ⟨k + n, hn2, by go_num, _, HN⟩
        case measure => simp [intOf]; omega
      · have HN : Hid (∀ l', LayR perm l a t l' 14) := Lib.hid (fun l' => HI.out.2.1 l' 14 (.fail _ _ _ _ _ (by rw [cut_size]; omega) (.inl ⟨j, x, hh, hal, rfl⟩)))
        have HL := Lib.hid (HI.out.2.2.2.2.1.trans (hb.mono (by have := HI.out.2.2.2.2.1.size; omega)))
        have HT := Lib.hid (HI.out.2.2.1.below hb)
        have HBB := Lib.hid ((hb.block _ (lt_of_block HI.out.2.2.2.1)).trans HI.out.2.2.2.1)
        clear hh hal hb C
        go_wp2
        go_ret
        exact ⟨14, lc, rfl, Lib.hid (fun l' _ => HN.out l'), Lib.hid ⟨HI.out.1, HT.out, HBB.out⟩, HL.out⟩
      · have HN : Hid (∀ l', LayR perm l a t l' 13) := Lib.hid (fun l' => HI.out.2.1 l' 13 (.fail _ _ _ _ _ (by rw [cut_size]; omega) (.inr ⟨hno, rfl⟩)))
        have HL := Lib.hid (HI.out.2.2.2.2.1.trans (hb.mono (by have := HI.out.2.2.2.2.1.size; omega)))
        have HT := Lib.hid (HI.out.2.2.1.below hb)
        have HBB := Lib.hid ((hb.block _ (lt_of_block HI.out.2.2.2.1)).trans HI.out.2.2.2.1)
        clear hno hb C
        go_wp2
        go_ret
        exact ⟨13, lc, rfl, Lib.hid (fun l' _ => HN.out l'), Lib.hid ⟨HI.out.1, HT.out, HBB.out⟩, HL.out⟩
    · have e : k = t.size := by omega
      subst e
      go_wp2
      go_ret
      exact ⟨0, lc, rfl, Lib.hid (fun l' hl' => by rw [hl' rfl]; exact HI.out.2.1 lc 0 (.done _ _ _ (by rw [cut_size]; omega))), Lib.hid ⟨HI.out.1, HI.out.2.2.1, HI.out.2.2.2.1⟩, HI.out.2.2.2.2.1⟩
end Go.Proofs.YtbkgmpkednkbcaaGreatDoor
namespace Go.Proofs.YtbkgmpkednkbcaaGreatDoor
open Go.RowKit Go.Sort
/-- the copy while bytes are laid: page by page -/
def PI (w wr : World) (Bk cap g : Nat) (l : List Pg) (a : Int) (t : ByteArray) (k : Nat) (A : Int) (T : ByteArray) (lc : List Pg) : Prop :=
  A = a + k ∧ T = t.extract k t.size ∧ k ≤ t.size ∧ Shape l lc ∧ (∀ l' c', LayR 0 lc (a + k) (t.extract k t.size) l' c' → LayR 0 l a t l' c') ∧ Owns wr Bk (some ⟨g, 0, none⟩) cap lc ∧ wr.heap[w.heap.size]? = some (.cells #[.slice (some ⟨g, 0, none⟩) l.length cap] 34 (0, 0)) ∧ Cz wr (w.heap.size + 1) ∧ Below w.heap.size w wr
theorem PI.step {w wr w1 : World} {Bk cap g : Nat} {l : List Pg} {a : Int} {t : ByteArray} {k : Nat} {A : Int} {T : ByteArray} {lc : List Pg} {j : Nat} {x : Pg} (h : PI w wr Bk cap g l a t k A T lc) (hm : MemOk l) (hBk : w.heap.size + 1 < Bk) (hk : 0 < T.size) (b1 : Below wr.heap.size wr w1) (hh : Has lc A j x) :
    PI w ((w1.setCell ⟨g, j * 3 + 2, none⟩ (.string (wrB x.d (A - x.b).toNat T (much x A T)))).drew) Bk cap g l a t (k + much x A T) (A + (much x A T : Nat)) (T.extract (much x A T) T.size) (lc.set j ⟨x.b, x.p, wrB x.d (A - x.b).toNat T (much x A T)⟩) := by
  obtain ⟨rfl, rfl, hkt, i1, i2, i3, i4, i5, i6⟩ := h
  have hmc := i1.ok hm
  have hcs := cut_size t k
  have hs := shape_set (t := t.extract k t.size) hmc hh hk
  have hmu := much_bounds (t := t.extract k t.size) hh hk
  have hT : Owns w1 Bk (some ⟨g, 0, none⟩) cap lc := own_below i3 b1
  have e4 := (b1.block _ (lt_of_block i4)).trans i4
  have e5 := i5.next b1
  have hg : Bk ≤ g := (hT.lt g rfl).1
  refine ⟨by omega, cut_cut t k _, by omega, i1.trans hs, fun l' c' hl => i2 l' c' (.step _ _ _ j x l' c' (by omega) hh (allow0 _) ?_), ?_, ?_, ?_, ?_⟩
  · rw [cut_cut]
    rw [show a + (k : Int) + ((much x (a + k) (t.extract k t.size) : Nat) : Int) = a + ((k + much x (a + k) (t.extract k t.size) : Nat) : Int) by omega]
    exact hl
  · have o1 := (hT.stored (j * 3 + 2) (.string (wrB x.d (a + k - x.b).toNat (t.extract k t.size) (much x (a + k) (t.extract k t.size))))).1
    rw [PV_set2 hh.1] at o1
    unfold Owns
    rw [List.length_set]
    exact own_below o1 (below_drew1 _)
  · exact (Below.heap_setCell _ _ _ _ (by simp; omega)).trans e4
  · exact (Below.heap_setCell _ _ _ _ (by simp; omega)).trans e5
  · exact ((bthen i6 b1).setCell (by simp; omega) _).trans (below_draw 1)
set_option maxHeartbeats 1000000 in
theorem l02PutG (b off cap : Nat) (l : List Pg) (a : Int) (t : ByteArray) (w : World) (hs : l.length ≤ 1048576) (hm : MemOk l) (hr : Rd w (some ⟨b, off, none⟩) l) (hft : ∀ i : Nat, i < t.size → ∃ v, ByteAt l 0 (a + i) v) :
    Calls Tryz.prog 60 #[.agg #[.slice (some ⟨b, off, none⟩) l.length cap], .int .i64 a, .string t] w fun e w' => ∃ g' cap' l', e = .returned (.agg #[.slice (some ⟨g', 0, none⟩) l'.length cap']) ∧ Hid (LayR 0 l a t l' 0) ∧ Owns w' w.heap.size (some ⟨g', 0, none⟩) cap' l' ∧ Below w.heap.size w w' := by
  obtain ⟨W, hW⟩ : ∃ W, W = (w.alloc (.cells #[.slice (some ⟨b, off, none⟩) l.length cap] 34)).alloc (.cells #[.slice none 0 0] 34) := ⟨_, rfl⟩
  have hWs : W.heap.size = w.heap.size + 1 + 1 := by rw [hW]; simp
  have L0 : Hid (Below w.heap.size w W) := Lib.hid (by rw [hW]; exact head2_below _ _)
  have Z0 : Hid (Cz W (w.heap.size + 1)) := Lib.hid (by rw [hW]; exact head2 _ _)
  have hM0 : W.heap[w.heap.size]? = some (.cells #[.slice (some ⟨b, off, none⟩) l.length cap] 34 (0, 0)) := by rw [hW]; exact (Below.heap_alloc _ _ _ (by simp)).trans (heap_alloc_new w _)
  have C := Lib.hid (l02OwnC b off cap l W hs (hr.below L0.out))
  have HW := Lib.hid hW; have HWS := Lib.hid hWs; have HM := Lib.hid hm; have HF := Lib.hid hft; have M0 := Lib.hid hM0
  clear hr hW hWs hm hft hM0
  go_enter Tryz.func60, Tryz.ntmps60
  go_wp2_with fail
  rw [← HW.out]
  refine (C.out).mono ?_
  rintro e w1 ⟨g, cap', rfl, ho, b1⟩
  have hM1 := (b1.block _ (lt_of_block M0.out)).trans M0.out
  have c1 := cell_of_one hM1; have f1 := free_of_one hM1
  have HI0 : Hid (PI w (w1.setCell ⟨w.heap.size, 0, none⟩ (.slice (some ⟨g, 0, none⟩) l.length cap')) W.heap.size cap' g l a t 0 a t l) := Lib.hid (by
    have hws := HWS.out
    refine ⟨by simp, (cut_all t).symm, Nat.zero_le _, Shape.refl l, fun l' c' h => by rw [cut_all] at h; simpa using h, ho.other (by omega) 0 _, one_setCell hM1, ?_, (bthen L0.out b1).setCell (by simp) _⟩
    exact (Below.heap_setCell _ _ _ _ (by simp)).trans (Z0.out.next b1))
  have hws1 : w.heap.size + 1 < W.heap.size := by have := HWS.out; omega
  clear ho b1 hM1 C
  go_wp2
  go_loopw [1, 2] (fun s1 s2 wr => ∃ A T, s1 = .int .i64 A ∧ s2 = .string T ∧ ∃ k lc, Hid (PI w wr W.heap.size cap' g l a t k A T lc)) (fun _ s2 _ => lenOf s2)
  case atStart => exact ⟨a, t, rfl, rfl, 0, l, HI0⟩
  case round =>
    obtain ⟨A, T, rfl, rfl, k, lc, HI⟩ := hrel
    have hTs : T.size = t.size - k := by rw [HI.out.2.1, cut_size]
    have x1 := cell_of_one HI.out.2.2.2.2.2.2.1
    have hlen : l.length = lc.length := HI.out.2.2.2.1.1
    have HMC := Lib.hid (HI.out.2.2.2.1.ok HM.out)
    by_cases hlt : 0 < T.size
    · have hlt2 : (0 : Int) < (T.size : Int) := by omega
      obtain ⟨j, x, hh⟩ : ∃ j x, Has lc A j x := by
        obtain ⟨v, j, x, hh, _⟩ := HI.out.2.2.2.1.byte' HM.out (HF.out k (by omega))
        exact ⟨j, x, by rw [HI.out.1]; exact hh⟩
      have C := Lib.hid (findHas (some ⟨g, 0, none⟩) cap' lc A j x wr HMC.out (Rd.of_own HI.out.2.2.2.2.2.1) hh)
      rw [← hlen] at C
      have HLEN := Lib.hid hlen; have HTS := Lib.hid hTs
      clear hlen hTs
      go_wp2_with fail
      refine (C.out).mono ?_
      rintro e w2 ⟨rfl, b2⟩
      have HN := Lib.hid (PI.step HI.out HM.out hws1 hlt b2 hh)
      have hT : Owns w2 W.heap.size (some ⟨g, 0, none⟩) cap' lc := own_below HI.out.2.2.2.2.2.1 b2
      obtain ⟨d0, d1, d2⟩ := own_pg hT hh.1
      have hfz := hT.frozenAt (j * 3 + 2)
      have hsz : x.d.size = 256 := (HMC.out.2.1 j x hh.1).2.2.2.2.2
      have hmu := much_bounds (t := T) hh hlt
      have hbd := has_bounds HMC.out hh
      have x2 := cell_of_one ((b2.block _ (lt_of_block HI.out.2.2.2.2.2.2.1)).trans HI.out.2.2.2.2.2.2.1)
      have hjl : j < l.length := by rw [HLEN.out]; exact (List.getElem?_eq_some_iff.1 hh.1).1
      have hl32 := HM.out.1
      obtain ⟨o, ho⟩ : ∃ o : Nat, A - x.b = (o : Int) := ⟨(A - x.b).toNat, by have := hh.2; omega⟩
      have ho2 : (A - x.b).toNat = o := by omega
      have ho3 : o < 256 := by have := hh.2; omega
      obtain ⟨n, hn⟩ : ∃ n : Nat, min (T.size : Int) (256 - (o : Int)) = (n : Int) := ⟨(min (T.size : Int) (256 - (o : Int))).toNat, by omega⟩
      have hmn : much x A T = n := by unfold much; omega
      rw [hmn] at HN hmu
      rw [ho2] at HN hmu
      have hxb := (HMC.out.2.1 j x hh.1)
      have hxb1 : 0 ≤ x.b := hxb.1
      have hxb2 : x.b ≤ 65535 := hxb.2.1
      have hn1 : 0 < n := by omega
      have hn2 : n ≤ T.size := by omega
      have hon : o + n ≤ 256 := by omega
      have hA1 : 0 ≤ A := hbd.1
      have hA2 : A ≤ 65535 := hbd.2
      clear hh b2 C hT hxb hbd hmu hmn ho2 x1
      have hwr : wrB x.d o T n = x.d.extract 0 o ++ T.extract 0 n ++ x.d.extract (o + n) 256 := by unfold wrB; rw [hsz]
      rw [hwr] at HN
      have S3 : Hid (lenOf (.string (T.extract n T.size)) < lenOf (.string T)) := Lib.hid (by show (T.extract n T.size).size < T.size; rw [cut_size]; omega)
      clear hwr
      go_wp2
      have ew : IntKind.i64.wrap ((o : Int) + (n : Int)) = ((o + n : Nat) : Int) := by rw [IntKind.wrap_i64]; omega
      have ho4 : o ≤ 256 := by omega
      have hn3 : (n : Int) ≤ (T.size : Int) := by omega
      have ho5 : (o : Int) ≤ 256 := by omega
      have hon2 : ((o + n : Nat) : Int) ≤ 256 := by omega
      clear hn ho hn1
      go_region
      go_wp2
      go_roundw
      case rel => exact ⟨_, _, rfl, rfl, k + n, _, HN⟩
      case measure => exact S3.out
    · have hT0 : T.size = 0 := by omega
      have HLEN := Lib.hid hlen; have HTS := Lib.hid hTs; have HT0 := Lib.hid hT0
      have Z1 := HI.out.2.2.2.2.2.2.2.1
      have c3 := cell_of_one Z1; have f3 := free_of_one Z1
      have r3 (v : Value) := cellSame c3 v
      clear hlen hTs Z1 hT0
      go_wp2
      refine bodyPost_ret (v := .agg #[.slice (some ⟨g, 0, none⟩) l.length cap']) (by simp [results, Tryz.results60, go_sem, r3]) rfl ?_
      refine ⟨_, _, lc, by rw [HLEN.out], Lib.hid (HI.out.2.2.2.2.1 lc 0 (.done _ _ _ (by rw [cut_size]; have := HTS.out; have := HT0.out; omega))), Joins.ownsRow_le (HI.out.2.2.2.2.2.1.other (b := w.heap.size + 1) (by omega) 0 _) (by omega), HI.out.2.2.2.2.2.2.2.2.setCell (by simp) _⟩
theorem l02PutC (b off cap : Nat) (l : List Pg) (a : Int) (t : ByteArray) (w : World) (hs : l.length ≤ 1048576) (hm : MemOk l) (hr : Rd w (some ⟨b, off, none⟩) l) (hft : ∀ i : Nat, i < t.size → ∃ v, ByteAt l 0 (a + i) v) :
    Calls Tryz.prog 60 #[.agg #[.slice (some ⟨b, off, none⟩) l.length cap], .int .i64 a, .string t] w fun e w' => ∃ p' cap' l', e = .returned (.agg #[.slice p' l'.length cap']) ∧ Hid (LayR 0 l a t l' 0) ∧ Owns w' w.heap.size p' cap' l' ∧ Below w.heap.size w w' :=
  (l02PutG b off cap l a t w hs hm hr hft).mono fun _ _ ⟨_, cap', l', h⟩ => ⟨_, cap', l', h⟩
end Go.Proofs.YtbkgmpkednkbcaaGreatDoor
namespace Go.Proofs.YtbkgmpkednkbcaaGreatDoor
open Go.RowKit Go.Sort
/-- what both PutBytes answer -/
def PutOut (l : List Pg) (a : Int) (t : ByteArray) (l' : List Pg) (c : Int) : Prop :=
  (65536 < t.size ∧ l' = [] ∧ c = 2) ∨ (t.size ≤ 65536 ∧ ¬ MemOk l ∧ l' = [] ∧ c = 1) ∨ (t.size ≤ 65536 ∧ MemOk l ∧ 8192 < t.size ∧ l' = l ∧ c = 13) ∨ (MemOk l ∧ t.size ≤ 8192 ∧ ∃ c', FtOut l a t.size 0 c' ∧ ((c' ≠ 0 ∧ l' = l ∧ c = c') ∨ (c' = 0 ∧ LayR 0 l a t l' 0 ∧ c = 0)))
theorem PutOut.one {l : List Pg} {a : Int} {t : ByteArray} {l1 l2 : List Pg} {c1 c2 : Int} (h : PutOut l a t l1 c1) (h' : PutOut l a t l2 c2) : l1 = l2 ∧ c1 = c2 := by
  rcases h with ⟨h1, rfl, rfl⟩ | ⟨h1, h2, rfl, rfl⟩ | ⟨h1, h2, h3, rfl, rfl⟩ | ⟨h1, h2, k, hk, h3⟩ <;> rcases h' with ⟨g1, rfl, rfl⟩ | ⟨g1, g2, rfl, rfl⟩ | ⟨g1, g2, g3, rfl, rfl⟩ | ⟨g1, g2, k', hk', g3⟩ <;> first | exact ⟨rfl, rfl⟩ | omega | exact absurd g2 h2 | exact absurd h2 g2 | exact absurd g1 h2 | exact absurd h1 g2 | skip
  obtain rfl := FtOut.one h1 hk hk'
  rcases h3 with ⟨e1, rfl, rfl⟩ | ⟨e1, e2, rfl⟩ <;> rcases g3 with ⟨f1, rfl, rfl⟩ | ⟨f1, f2, rfl⟩ <;> first | exact ⟨rfl, rfl⟩ | exact absurd e1 f1 | exact absurd f1 e1 | exact ⟨LayR.one e2 h1 f2, rfl⟩
theorem Shape.small {l l' : List Pg} (h : Shape l l') (hm : MemOk l) : Small l' := by
  have hk := h.ok hm
  have h1 := hk.1
  refine ⟨by omega, fun k x hx => ?_⟩
  have := (hk.2.1 k x hx).2.2.2.2.2
  omega
theorem PutOut.small {l : List Pg} {a : Int} {t : ByteArray} {l' : List Pg} {c : Int} (h : PutOut l a t l' c) (hs : Small l) : Small l' := by
  rcases h with ⟨_, rfl, _⟩ | ⟨_, _, rfl, _⟩ | ⟨_, _, _, rfl, _⟩ | ⟨h1, _, _, _, ⟨_, rfl, _⟩ | ⟨_, h2, _⟩⟩
  · exact ⟨by simp, fun k x hk => by simp at hk⟩
  · exact ⟨by simp, fun k x hk => by simp at hk⟩
  · exact hs
  · exact hs
  · exact (h2.shape h1).small h1
set_option maxHeartbeats 1000000 in
theorem putI (p : Option Addr) (cap : Nat) (l : List Pg) (a : Int) (t : ByteArray) (w : World) (hp : Ad p) (hs : Small l) (hr : Rd w p l) (h1 : -9223372036854775808 ≤ a) (h2 : a ≤ 9223372036854775807) (ht : t.size ≤ 9223372036854775807) :
    Calls Tryz.prog 96 #[.agg #[.slice p l.length cap], .int .i64 a, .string t] w fun e w' => ∃ l' p' cap' c, e = .returned (.tuple #[.agg #[.slice p' l'.length cap'], .int .i64 c]) ∧ Hid (PutOut l a t l' c) ∧ Hid (Owns w' w.heap.size p' cap' l') ∧ Below w.heap.size w w' := by
  obtain ⟨W, hW⟩ : ∃ W, W = (w.alloc (.cells #[.slice p l.length cap] 34)).alloc (.cells #[.slice none 0 0] 34) := ⟨_, rfl⟩
  have hWs : W.heap.size = w.heap.size + 1 + 1 := by rw [hW]; simp
  have L0 : Hid (Below w.heap.size w W) := Lib.hid (by rw [hW]; exact head2_below _ _)
  have Z0 : Hid (Cz W (w.heap.size + 1)) := Lib.hid (by rw [hW]; exact head2 _ _)
  have A0 : Hid (Bx W w.heap.size p cap l) := Lib.hid (by rw [hW]; exact head2_bx hr)
  have HW := Lib.hid hW; have HWS := Lib.hid hWs; have HS := Lib.hid hs; have HAD := Lib.hid hp
  have c0 := cell_of_one Z0.out; have f0 := free_of_one Z0.out
  have HR := Lib.hid hr
  clear hr hs hWs hp
  by_cases hbig : 65536 < t.size
  · have hb2 : (65536 : Int) < (t.size : Int) := by omega
    rw [hW] at c0 f0
    clear hW
    go_enter Tryz.func96, Tryz.ntmps96
    go_wp2
    refine bodyPost_ret (v := .tuple #[.agg #[.slice none 0 0], .int .i64 2]) (by simp [results, Tryz.results96, go_sem]) rfl ?_
    refine ⟨[], _, _, _, rfl, Lib.hid (.inl ⟨hbig, rfl, rfl⟩), Lib.hid (owns_nil _ _), ?_⟩
    rw [← HW.out]
    exact L0.out
  have hb1 : decide ((65536 : Int) < (t.size : Int)) = false := decide_eq_false (by omega)
  have hb3 : t.size ≤ 65536 := by omega
  clear hbig c0 f0 hW
  go_enter Tryz.func96, Tryz.ntmps96
  go_wp2_with fail
  rw [← HW.out]
  refine (openAll p cap l W HAD.out HS.out A0.out.2.2).mono ?_
  rintro e w1 ⟨ho, b1⟩
  have L1 := Lib.hid (bthen L0.out b1); have A1 := Lib.hid (A0.out.next b1); have Z1 := Lib.hid (Z0.out.next b1)
  have hw1 : w.heap.size + 1 + 1 ≤ w1.heap.size := by have := b1.size; have := HWS.out; omega
  have hW1 : W.heap.size ≤ w1.heap.size := b1.size
  clear b1 L0 A0 Z0
  have c1 := cell_of_one Z1.out; have f1 := free_of_one Z1.out
  have lz := lt_of_block Z1.out
  rcases ho with ⟨hn, q, n, c, rfl⟩ | ⟨hy, q, c, g, rfl, htab⟩
  · have HM := Lib.hid hn
    have r1 (v : Value) (o : Obj) : ((w1.setCell ⟨w.heap.size + 1, 0, none⟩ v).alloc o).cell? ⟨w.heap.size + 1, 0, none⟩ = some v := by
      rw [World.cell?_alloc_lt _ _ _ (by simp only [World.size_setCell]; exact lz)]; exact cellSame c1 _
    clear hn
    go_wp2
    refine bodyPost_ret (v := .tuple #[.agg #[.slice none 0 0], .int .i64 1]) (by simp [results, Tryz.results96, go_sem, r1]) rfl ?_
    exact ⟨[], _, _, _, rfl, Lib.hid (.inr (.inl ⟨hb3, HM.out, rfl, rfl⟩)), Lib.hid (owns_nil _ _), Below.alloc (L1.out.setCell (by simp) _) (by have := L1.out.size; simp; omega) _⟩
  · obtain ⟨V, hV⟩ : ∃ V, V = w1.alloc (.cells #[.slice q l.length c] 101) := ⟨_, rfl⟩
    have hVs : V.heap.size = w1.heap.size + 1 := by rw [hV]; simp
    have L2 : Hid (Below w.heap.size w V) := Lib.hid (by rw [hV]; exact bbox L1.out _)
    have A2 : Hid (Bx V w.heap.size p cap l) := Lib.hid (by rw [hV]; exact A1.out.next (below1 _ _))
    have Z2 : Hid (Cz V (w.heap.size + 1)) := Lib.hid (by rw [hV]; exact Z1.out.next (below1 _ _))
    have T2 : Hid (TabOwn V W.heap.size q c g l) := Lib.hid (by rw [hV]; exact htab.below (below1 _ _))
    have HB : Hid (V.heap[w1.heap.size]? = some (.cells #[.slice q l.length c] 101 (0, 0))) := Lib.hid (by rw [hV]; exact heap_alloc_new w1 _)
    have x1 := A1.out.2.1
    have hw0 : w.heap.size < w1.heap.size := A1.out.1
    have HV := Lib.hid hV; have HM := Lib.hid hy; have HVS := Lib.hid hVs
    clear hV hy htab A1 Z1 c1 f1 hVs
    by_cases h8 : t.size ≤ 8192
    · have h81 : decide ((8192 : Int) < (t.size : Int)) = false := decide_eq_false (by omega)
      go_wp2_with fail
      rw [← HV.out]
      refine (layC w1.heap.size W.heap.size c g q l a 0 t V HM.out HB.out T2.out (by have := HVS.out; omega) h1 h2 h8).mono ?_
      rintro e w2 ⟨c', lc, rfl, HLR, HT, b2⟩
      have L3 : Hid (Below w.heap.size w w2) := Lib.hid (L2.out.trans (b2.mono (by have := HWS.out; omega)))
      have Z3 : Hid (Cz w2 (w.heap.size + 1)) := Lib.hid ((b2.block _ (by have := HWS.out; omega)).trans Z2.out)
      have x3 : w2.cell? ⟨w.heap.size, 0, none⟩ = some (.slice p l.length cap) := (World.cell?_of_block (a := ⟨w.heap.size, 0, none⟩) (b2.block w.heap.size (by have := HWS.out; omega))).trans A2.out.2.1
      have R3 : Hid (Rd w2 p l) := Lib.hid (HR.out.below L3.out)
      have hw2 : w.heap.size + 1 + 1 ≤ w2.heap.size := by have := b2.size; have := HVS.out; omega
      clear b2 x1
      by_cases hc : c' = 0
      · subst hc
        have hlen : l.length = lc.length := HT.out.1.1
        have C5 := Lib.hid (memC w1.heap.size c q lc w2 (by have := HM.out.1; omega) (by rw [← hlen]; exact cell_of_one HT.out.2.2) (lt_of_block HT.out.2.2) HT.out.2.1.tab.ptrs)
        have HLEN := Lib.hid hlen
        clear hlen
        go_wp2_with fail
        refine (C5.out).mono ?_
        rintro e w3 ⟨p', cap', rfl, ho, b3⟩
        have L5 := Lib.hid (bthen L3.out b3)
        have Z5 := Z3.out.next b3
        have c5 := cell_of_one Z5; have f5 := free_of_one Z5
        have r5 (v : Value) := cellSame c5 v
        have HO := Lib.hid ho
        clear b3 x3 Z5 ho
        go_wp2
        refine bodyPost_ret (v := .tuple #[.agg #[.slice p' lc.length cap'], .int .i64 0]) (by simp [results, Tryz.results96, go_sem, r5]) rfl ?_
        exact ⟨_, _, _, _, rfl, Lib.hid (.inr (.inr (.inr ⟨HM.out, h8, 0, (HLR.out lc fun _ => rfl).ft HM.out, .inr ⟨rfl, HLR.out lc fun _ => rfl, rfl⟩⟩))), Lib.hid (Joins.ownsRow_le (HO.out.other (b := w.heap.size + 1) (by omega) 0 _) (by omega)), L5.out.setCell (by simp) _⟩
      · have hc2 : (c' != 0) = true := by rw [bne_iff_ne]; exact hc
        have HC := Lib.hid hc
        clear hc
        go_wp2_with fail
        refine (asItWasC p cap l w2 HAD.out HS.out R3.out).mono ?_
        rintro e w3 ⟨p', cap', rfl, ho, b3⟩
        have L4 := Lib.hid (bthen L3.out b3)
        have Z4 := Z3.out.next b3
        have c4 := cell_of_one Z4; have f4 := free_of_one Z4
        have r4 (v : Value) := cellSame c4 v
        have HO := Lib.hid ho
        clear b3 x3 Z4 ho
        go_wp2
        refine bodyPost_ret (v := .tuple #[.agg #[.slice p' l.length cap'], .int .i64 c']) (by simp [results, Tryz.results96, go_sem, r4]) rfl ?_
        exact ⟨_, _, _, _, rfl, Lib.hid (.inr (.inr (.inr ⟨HM.out, h8, c', (HLR.out [] fun h => absurd h HC.out).ft HM.out, .inl ⟨HC.out, rfl, rfl⟩⟩))), Lib.hid (Joins.ownsRow_le (HO.out.other (b := w.heap.size + 1) (by omega) 0 _) (by omega)), L4.out.setCell (by simp) _⟩
    · have h81 : (8192 : Int) < (t.size : Int) := by omega
      have h82 : 8192 < t.size := by omega
      go_wp2_with fail
      rw [← HV.out]
      refine (asItWasC p cap l V HAD.out HS.out A2.out.2.2).mono ?_
      rintro e w3 ⟨p', cap', rfl, ho, b3⟩
      have L4 := Lib.hid (bthen L2.out b3)
      have Z4 := Z2.out.next b3
      have c4 := cell_of_one Z4; have f4 := free_of_one Z4
      have r4 (v : Value) := cellSame c4 v
      have HO := Lib.hid ho
      have hv := HVS.out
      clear b3 x1 Z4 ho
      go_wp2
      refine bodyPost_ret (v := .tuple #[.agg #[.slice p' l.length cap'], .int .i64 13]) (by simp [results, Tryz.results96, go_sem, r4]) rfl ?_
      exact ⟨_, _, _, _, rfl, Lib.hid (.inr (.inr (.inl ⟨hb3, HM.out, h82, rfl, rfl⟩))), Lib.hid (Joins.ownsRow_le (HO.out.other (b := w.heap.size + 1) (by omega) 0 _) (by omega)), L4.out.setCell (by simp) _⟩
end Go.Proofs.YtbkgmpkednkbcaaGreatDoor
