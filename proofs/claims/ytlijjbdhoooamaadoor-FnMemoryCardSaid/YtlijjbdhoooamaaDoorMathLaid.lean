/-
  Bytes that are laid into pages, read again: what lies behind the laid address keeps, what is laid can be read; no condition but those in each head.
-/
import Derived.Test.YtlijjbdhoooamaaDoorMathLay
namespace Go.Proofs.YtlijjbdhoooamaaDoor
open Go.RowKit
theorem wrB_lo {d t : ByteArray} {o n j : Nat} (ho : o ≤ d.size) (hj : j < o) : (wrB d o t n).data.toList[j]? = d.data.toList[j]? := by
  have hd := ba_len d
  unfold wrB
  rw [ba_app, ba_app, ba_cut, ba_cut, ba_cut, List.getElem?_append_left (by simp; omega), List.getElem?_append_left (by simp; omega), List.drop_zero, List.getElem?_take, if_pos hj]
theorem wrB_in {d t : ByteArray} {o n j : Nat} (ho : o ≤ d.size) (hn : n ≤ t.size) (hj : j < n) : (wrB d o t n).data.toList[o + j]? = t.data.toList[j]? := by
  have hd := ba_len d
  have ht := ba_len t
  unfold wrB
  rw [ba_app, ba_app, ba_cut, ba_cut, ba_cut, List.getElem?_append_left (by simp; omega), List.getElem?_append_right (by simp; omega), List.drop_zero, List.drop_zero, List.getElem?_take, if_pos (by simp; omega)]
  congr 1
  simp; omega
theorem LayR.keep {perm : Int} {l : List Pg} {a : Int} {t : ByteArray} {l' : List Pg} (h : LayR perm l a t l' 0) (hm : MemOk l) {k : Nat} {x y : Pg} (hx : l[k]? = some x) (hy : l'[k]? = some y) {b : Int} (h1 : x.b ≤ b) (h2 : b < a) :
    y.d.data.toList[(b - x.b).toNat]? = x.d.data.toList[(b - x.b).toNat]? := by
  generalize hc : (0 : Int) = c at h
  induction h generalizing x with
  | done l a t h => rw [hx] at hy; cases hy; rfl
  | fail l a t l' c h hcc => have := code_pos hcc; omega
  | step l a t k0 x0 l' c ht hh hal _ ih =>
    have hs := shape_set hm hh ht
    have hkl := (List.getElem?_eq_some_iff.1 hx).1
    by_cases e : k0 = k
    · subst e
      obtain rfl : x0 = x := by have h := hh.1; rw [hx] at h; exact (Option.some.inj h).symm
      have hi := ih (hs.ok hm) (x := ⟨x0.b, x0.p, wrB x0.d (a - x0.b).toNat t (much x0 a t)⟩) (by rw [List.getElem?_set, if_pos rfl, if_pos hkl]) hy h1 (by omega) hc
      refine hi.trans ?_
      show (wrB x0.d (a - x0.b).toNat t (much x0 a t)).data.toList[(b - x0.b).toNat]? = x0.d.data.toList[(b - x0.b).toNat]?
      have hd := (hm.2.1 k0 x0 hx).2.2.2.2.2
      have h3 := hh.2
      exact wrB_lo (by omega) (by omega)
    · exact ih (hs.ok hm) (x := x) (by rw [List.getElem?_set, if_neg e]; exact hx) hy h1 (by omega) hc
theorem LayR.laid {perm : Int} {l : List Pg} {a : Int} {t : ByteArray} {l' : List Pg} (h : LayR perm l a t l' 0) (hm : MemOk l) (i : Nat) (v : UInt8) (hv : t.data.toList[i]? = some v) :
    ∃ k y, Has l' (a + i) k y ∧ y.d.data.toList[(a + i - y.b).toNat]? = some v := by
  generalize hc : (0 : Int) = c at h
  induction h generalizing i with
  | done l a t h => have := (List.getElem?_eq_some_iff.1 hv).1; rw [ba_len] at this; omega
  | fail l a t l' c h hcc => have := code_pos hcc; omega
  | step l a t k0 x0 l' c ht hh hal hr ih =>
    subst hc
    have hs := shape_set hm hh ht
    have hb := much_bounds hh ht
    have hkl := (List.getElem?_eq_some_iff.1 hh.1).1
    have hd := (hm.2.1 k0 x0 hh.1).2.2.2.2.2
    have h3 := hh.2
    have hil := (List.getElem?_eq_some_iff.1 hv).1
    rw [ba_len] at hil
    by_cases hlo : i < much x0 a t
    · have hx1 : (l.set k0 ⟨x0.b, x0.p, wrB x0.d (a - x0.b).toNat t (much x0 a t)⟩)[k0]? = some ⟨x0.b, x0.p, wrB x0.d (a - x0.b).toNat t (much x0 a t)⟩ := by rw [List.getElem?_set, if_pos rfl, if_pos hkl]
      obtain ⟨d, hd', _⟩ := (hr.shape (hs.ok hm)).2 k0 _ hx1
      have hk := hr.keep (hs.ok hm) hx1 hd' (b := a + i) (by show x0.b ≤ a + i; omega) (by omega)
      refine ⟨k0, _, ⟨hd', by show x0.b ≤ a + i; omega, by show a + i < x0.b + 256; omega⟩, ?_⟩
      refine hk.trans ?_
      show (wrB x0.d (a - x0.b).toNat t (much x0 a t)).data.toList[(a + i - x0.b).toNat]? = some v
      rw [show (a + (i : Int) - x0.b).toNat = (a - x0.b).toNat + i by omega, wrB_in (by omega) hb.2.1 hlo]
      exact hv
    · obtain ⟨k, y, g1, g2⟩ := ih (hs.ok hm) (i - much x0 a t) (by rw [ba_cut, List.getElem?_drop, List.getElem?_take, if_pos (by omega), show much x0 a t + (i - much x0 a t) = i by omega]; exact hv) rfl
      rw [show a + (much x0 a t : Int) + ((i - much x0 a t : Nat) : Int) = a + (i : Int) by omega] at g1 g2
      exact ⟨k, y, g1, g2⟩
end Go.Proofs.YtlijjbdhoooamaaDoor
