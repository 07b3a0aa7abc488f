/-
  Plain facts on bytes that are laid into pages, page by page; no condition but those in each head.
-/
import Derived.Test.YtcchcinnjahghaaDoorWalkFault
import Derived.Test.YtcchcinnjahghaaDoorWalkSetP
namespace Go.Proofs.YtcchcinnjahghaaDoor
open Go.RowKit
/-- a page with bytes t laid from place o on -/
def wrB (d : ByteArray) (o : Nat) (t : ByteArray) (n : Nat) : ByteArray := d.extract 0 o ++ t.extract 0 n ++ d.extract (o + n) d.size
theorem wrB_size {d t : ByteArray} {o n : Nat} (hd : d.size = 256) (ho : o + n ≤ 256) (hn : n ≤ t.size) : (wrB d o t n).size = 256 := by
  unfold wrB
  rw [← ba_len, ba_app, ba_app, List.length_append, List.length_append, ba_cut, ba_cut, ba_cut]
  simp only [List.length_drop, List.length_take, ba_len, Nat.sub_zero]
  omega
/-- how many bytes go into the page that has an address -/
def much (x : Pg) (a : Int) (t : ByteArray) : Nat := min t.size (256 - (a - x.b).toNat)
inductive LayR (perm : Int) : List Pg → Int → ByteArray → List Pg → Int → Prop
  | done (l : List Pg) (a : Int) (t : ByteArray) : t.size = 0 → LayR perm l a t l 0
  | fail (l : List Pg) (a : Int) (t : ByteArray) (l' : List Pg) (c : Int) : 0 < t.size → CodeAt l perm a c → LayR perm l a t l' c
  | step (l : List Pg) (a : Int) (t : ByteArray) (k : Nat) (x : Pg) (l' : List Pg) (c : Int) : 0 < t.size → Has l a k x → allowB x.p perm = true → LayR perm (l.set k ⟨x.b, x.p, wrB x.d (a - x.b).toNat t (much x a t)⟩) (a + much x a t) (t.extract (much x a t) t.size) l' c → LayR perm l a t l' c
/-- alike but for the bytes -/
def Shape (l l' : List Pg) : Prop := l.length = l'.length ∧ ∀ (k : Nat) x, l[k]? = some x → ∃ d : ByteArray, l'[k]? = some ⟨x.b, x.p, d⟩ ∧ (x.d.size = 256 → d.size = 256)
theorem Shape.refl (l : List Pg) : Shape l l := ⟨rfl, fun _ x h => ⟨x.d, h, id⟩⟩
theorem Shape.trans {a b c : List Pg} (h : Shape a b) (h' : Shape b c) : Shape a c := ⟨h.1.trans h'.1, fun k x hx => by
  obtain ⟨d, hd, hs⟩ := h.2 k x hx
  obtain ⟨d', hd', hs'⟩ := h'.2 k _ hd
  exact ⟨d', hd', fun e => hs' (hs e)⟩⟩
theorem Shape.ok {l l' : List Pg} (h : Shape l l') (hm : MemOk l) : MemOk l' := by
  have back (k : Nat) (y : Pg) (hy : l'[k]? = some y) : ∃ x, l[k]? = some x ∧ y.b = x.b ∧ y.p = x.p ∧ (x.d.size = 256 → y.d.size = 256) := by
    have hk : k < l.length := by rw [h.1]; exact (List.getElem?_eq_some_iff.1 hy).1
    obtain ⟨d, hd, hs⟩ := h.2 k _ (List.getElem?_eq_getElem hk)
    rw [hd] at hy; cases hy
    exact ⟨_, List.getElem?_eq_getElem hk, rfl, rfl, hs⟩
  refine ⟨by have := hm.1; have := h.1; omega, fun k y hy => ?_, fun k y z hy hz => ?_⟩
  · obtain ⟨x, hx, e1, e2, e3⟩ := back k y hy
    obtain ⟨h1, h2, h3, h4, h5, h6⟩ := hm.2.1 k x hx
    exact ⟨by omega, by omega, by omega, by omega, by omega, e3 h6⟩
  · obtain ⟨x, hx, e1, _, _⟩ := back k y hy
    obtain ⟨x', hx', e1', _, _⟩ := back (k + 1) z hz
    have := hm.2.2 k x x' hx hx'
    omega
theorem Shape.has {l l' : List Pg} (h : Shape l l') {a : Int} {k : Nat} {x : Pg} (hh : Has l a k x) : ∃ d, Has l' a k ⟨x.b, x.p, d⟩ := by
  obtain ⟨d, hd, _⟩ := h.2 k x hh.1
  exact ⟨d, hd, hh.2.1, hh.2.2⟩
theorem Shape.sym_has {l l' : List Pg} (h : Shape l l') {a : Int} {k : Nat} {y : Pg} (hh : Has l' a k y) : ∃ x, Has l a k x ∧ x.p = y.p ∧ x.b = y.b := by
  have hk : k < l.length := by rw [h.1]; exact (List.getElem?_eq_some_iff.1 hh.1).1
  obtain ⟨d, hd, _⟩ := h.2 k _ (List.getElem?_eq_getElem hk)
  have e := hd.symm.trans hh.1
  cases e
  exact ⟨_, ⟨List.getElem?_eq_getElem hk, hh.2.1, hh.2.2⟩, rfl, rfl⟩
theorem Shape.code {l l' : List Pg} (h : Shape l l') {perm a c : Int} (hc : CodeAt l' perm a c) : CodeAt l perm a c := by
  rcases hc with ⟨k, y, hh, hal, rfl⟩ | ⟨hno, rfl⟩
  · obtain ⟨x, hx, e, _⟩ := h.sym_has hh
    exact .inl ⟨k, x, hx, by rw [e]; exact hal, rfl⟩
  · exact .inr ⟨fun k x hx => by obtain ⟨d, hd⟩ := h.has hx; exact hno k _ hd, rfl⟩
theorem Shape.byte {l l' : List Pg} (h : Shape l l') (hm : MemOk l) {perm a : Int} (hb : ∃ v, ByteAt l' perm a v) : ∃ v, ByteAt l perm a v := by
  obtain ⟨v, k, y, hh, hal, _⟩ := hb
  obtain ⟨x, hx, e, _⟩ := h.sym_has hh
  exact has_byte hm hx (by rw [e]; exact hal)
theorem Shape.byte' {l l' : List Pg} (h : Shape l l') (hm : MemOk l) {perm a : Int} (hb : ∃ v, ByteAt l perm a v) : ∃ v, ByteAt l' perm a v := by
  obtain ⟨v, k, x, hh, hal, _⟩ := hb
  obtain ⟨d, hd⟩ := h.has hh
  exact has_byte (h.ok hm) hd hal
theorem much_bounds {l : List Pg} {a : Int} {k : Nat} {x : Pg} {t : ByteArray} (hh : Has l a k x) (ht : 0 < t.size) : 0 < much x a t ∧ much x a t ≤ t.size ∧ (a - x.b).toNat + much x a t ≤ 256 := by
  have := hh.2
  unfold much
  omega
theorem shape_set {l : List Pg} (hm : MemOk l) {a : Int} {k : Nat} {x : Pg} {t : ByteArray} (hh : Has l a k x) (ht : 0 < t.size) : Shape l (l.set k ⟨x.b, x.p, wrB x.d (a - x.b).toNat t (much x a t)⟩) := by
  refine ⟨by simp, fun j y hj => ?_⟩
  have hb := much_bounds hh ht
  by_cases e : k = j
  · subst e
    have hy := hj.symm.trans hh.1
    cases hy
    have hk := (List.getElem?_eq_some_iff.1 hj).1
    exact ⟨_, by rw [List.getElem?_set, if_pos rfl, if_pos hk], fun _ => wrB_size (hm.2.1 k _ hj).2.2.2.2.2 hb.2.2 hb.2.1⟩
  · exact ⟨y.d, by rw [List.getElem?_set, if_neg e]; exact hj, id⟩
theorem cut_size (t : ByteArray) (n : Nat) : (t.extract n t.size).size = t.size - n := by
  rw [← ba_len, ba_cut, List.length_drop, List.length_take, ba_len]; omega
theorem LayR.ft {perm : Int} {l : List Pg} {a : Int} {t : ByteArray} {l' : List Pg} {c : Int} (h : LayR perm l a t l' c) (hm : MemOk l) : FtOut l a t.size perm c := by
  induction h with
  | done l a t h => exact .inl ⟨rfl, fun i hi => by omega⟩
  | fail l a t l' c h hc => exact .inr ⟨0, h, fun j hj => by omega, by simpa using hc⟩
  | step l a t k x l' c ht hh hal _ ih =>
    have hs := shape_set hm hh ht
    have hb := much_bounds hh ht
    have hft := ih (hs.ok hm)
    rw [cut_size] at hft
    have low (i : Nat) (hi : i < much x a t) : ∃ v, ByteAt l perm (a + i) v := by
      have h2 := hh.2
      exact has_byte hm (k := k) (x := x) ⟨hh.1, by omega, by omega⟩ hal
    rcases hft with ⟨rfl, hall⟩ | ⟨i, hi, hbe, hc⟩
    · refine .inl ⟨rfl, fun i hi => ?_⟩
      by_cases hlo : i < much x a t
      · exact low i hlo
      · have := hs.byte hm (hall (i - much x a t) (by omega))
        rw [show a + (i : Int) = a + (much x a t : Int) + ((i - much x a t : Nat) : Int) by omega]
        exact this
    · refine .inr ⟨much x a t + i, by omega, fun j hj => ?_, ?_⟩
      · by_cases hlo : j < much x a t
        · exact low j hlo
        · have := hs.byte hm (hbe (j - much x a t) (by omega))
          rw [show a + (j : Int) = a + (much x a t : Int) + ((j - much x a t : Nat) : Int) by omega]
          exact this
      · have := hs.code hc
        rw [show a + ((much x a t + i : Nat) : Int) = a + (much x a t : Int) + (i : Int) by omega]
        exact this
theorem FtOut.one {l : List Pg} (hm : MemOk l) {a : Int} {n : Nat} {perm c c' : Int} (h : FtOut l a n perm c) (h' : FtOut l a n perm c') : c = c' := by
  rcases h with ⟨rfl, h⟩ | ⟨i, hi, hb, hc⟩ <;> rcases h' with ⟨rfl, g⟩ | ⟨j, hj, gb, gc⟩
  · rfl
  · obtain ⟨v, hv⟩ := h j hj
    exact (byte_code hm hv gc).elim
  · obtain ⟨v, hv⟩ := g i hi
    exact (byte_code hm hv hc).elim
  · rcases Nat.lt_trichotomy i j with e | e | e
    · obtain ⟨v, hv⟩ := gb i e
      exact (byte_code hm hv hc).elim
    · subst e; exact code_one hc gc
    · obtain ⟨v, hv⟩ := hb j e
      exact (byte_code hm hv gc).elim
theorem LayR.one {perm : Int} {l : List Pg} {a : Int} {t : ByteArray} {l1 : List Pg} (h : LayR perm l a t l1 0) (hm : MemOk l) {l2 : List Pg} (h' : LayR perm l a t l2 0) : l1 = l2 := by
  generalize hc : (0 : Int) = c at h
  induction h with
  | done l a t h =>
    cases h' with
    | done => rfl
    | fail _ _ _ _ _ h2 => omega
    | step _ _ _ _ _ _ _ h2 => omega
  | fail l a t l' c h hcc => have := code_pos hcc; omega
  | step l a t k x l' c ht hh hal _ ih =>
    cases h' with
    | done _ _ _ h2 => omega
    | fail _ _ _ _ _ h2 hcc => have := code_pos hcc; omega
    | step _ _ _ k' x' _ _ _ hh' _ h2 =>
      obtain ⟨rfl, rfl⟩ := Has.one hm hh hh'
      exact ih ((shape_set hm hh ht).ok hm) h2 hc
theorem LayR.shape {perm : Int} {l : List Pg} {a : Int} {t : ByteArray} {l' : List Pg} (h : LayR perm l a t l' 0) (hm : MemOk l) : Shape l l' := by
  generalize hc : (0 : Int) = c at h
  induction h with
  | done l a t h => exact Shape.refl l
  | fail l a t l' c h hcc => have := code_pos hcc; omega
  | step l a t k x l' c ht hh hal _ ih =>
    have hs := shape_set hm hh ht
    exact hs.trans (ih (hs.ok hm) hc)
end Go.Proofs.YtcchcinnjahghaaDoor
