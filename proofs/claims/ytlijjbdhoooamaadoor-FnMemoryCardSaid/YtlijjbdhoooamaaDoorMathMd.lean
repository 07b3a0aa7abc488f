/-
  What is stored into drawn pages and loaded again: the number's bytes, and all other bytes as they were; no condition but those in each head.
-/
import Derived.Test.YtlijjbdhoooamaaDoorWalkMd
import Derived.Test.YtlijjbdhoooamaaDoorWalkSameN
import Derived.Test.YtlijjbdhoooamaaDoorWalkStore
import Derived.Test.YtlijjbdhoooamaaDoorWalkLoad
import Derived.Test.YtlijjbdhoooamaaDoorWalkBack
namespace Go.Proofs.YtlijjbdhoooamaaDoor
open Go.RowKit
set_option linter.unusedVariables false
theorem Pg8.wr {x : Pg} (h : Pg8 x) (hw : allowB x.p 2 = true) : allowB x.p 1 = true := by
  obtain ⟨i, hi, _, hp⟩ := h
  rw [hp] at hw ⊢
  rcases (by omega : i = 0 ∨ i = 1 ∨ i = 2 ∨ i = 3 ∨ i = 4 ∨ i = 5 ∨ i = 6 ∨ i = 7) with rfl | rfl | rfl | rfl | rfl | rfl | rfl | rfl <;> revert hw <;> decide
/-- what a store into drawn pages answers -/
def StD (l : List Pg) (a : Int) (n X : Nat) (l' : List Pg) (c : Int) : Prop :=
  ((c = 13 ∨ c = 14) ∧ l' = l) ∨ (c = 0 ∧ LayR 0 l a ⟨(leB X n).toArray⟩ l' 0 ∧ FtOut l' a n 1 0)
theorem LayR.out (l : List Pg) (a : Int) (n X : Nat) (l' : List Pg) (c : Int) (h : StoreOut l a n X l' c) (hm : MemOk l) (hd : Drawn8 l) (ho : okSize (n : Int)) : StD l a n X l' c := by
  rcases h with ⟨h, _⟩ | ⟨_, h, _⟩ | ⟨_, _, c', hf, ⟨hne, rfl, rfl⟩ | ⟨rfl, hl, rfl⟩⟩
  · exact (h hm).elim
  · exact (h ho).elim
  · refine .inl ⟨?_, rfl⟩
    rcases hf with ⟨h, _⟩ | ⟨i, _, _, hc⟩
    · exact (hne h).elim
    · rcases hc with ⟨_, _, _, _, h⟩ | ⟨_, h⟩
      · exact .inr h
      · exact .inl h
  · rw [Int.toNat_natCast] at hf hl
    refine .inr ⟨rfl, hl, .inl ⟨rfl, fun i hi => ?_⟩⟩
    have hs := (hl.shape hm)
    refine hs.byte' hm ?_
    rcases hf with ⟨_, h⟩ | ⟨i, _, _, hc⟩
    · obtain ⟨v, k, x, h1, h2, h3⟩ := h i hi
      exact ⟨v, k, x, h1, (hd k x h1.1).wr h2, h3⟩
    · have := code_pos hc; omega
theorem load_laid {l l' : List Pg} {a r c : Int} {n X : Nat} (h : LayR 0 l a ⟨(leB X n).toArray⟩ l' 0) (hf : FtOut l' a n 1 0) (hm : MemOk l) (ho : okSize (n : Int)) (hL : LoadOut l' a n r c) : r = wrap64 ((X % 2 ^ (8 * n) : Nat) : Int) ∧ c = 0 := by
  have hm' := (h.shape hm).ok hm
  rcases hL with ⟨g, _⟩ | ⟨_, g, _⟩ | ⟨_, _, t, c', ht, h3⟩
  · exact (g hm').elim
  · exact (g ho).elim
  · rw [Int.toNat_natCast] at ht h3
    obtain rfl := tk_fault hm' ht hf
    have htl : t.length = n := by
      rcases ht.2 with ⟨_, h⟩ | ⟨_, hc⟩
      · exact h
      · have := code_pos hc; omega
    have hte : t = leB X n := by
      refine List.ext_getElem? fun i => ?_
      by_cases hi : i < n
      · obtain ⟨v, e1⟩ : ∃ v, t[i]? = some v := ⟨_, List.getElem?_eq_getElem (by omega)⟩
        obtain ⟨u, e2⟩ : ∃ u, (leB X n)[i]? = some u := ⟨_, List.getElem?_eq_getElem (by rw [leB_len]; omega)⟩
        obtain ⟨k, y, g1, g2⟩ := h.laid hm i u (show (⟨(leB X n).toArray⟩ : ByteArray).data.toList[i]? = some u from e2)
        have := byte_one hm' (byte_weak (ht.1 i v e1)) ⟨k, y, g1, allow0 _, g2⟩
        rw [e1, e2, this]
      · rw [List.getElem?_eq_none (by omega), List.getElem?_eq_none (by rw [leB_len]; omega)]
    rcases h3 with ⟨_, rfl, rfl⟩ | ⟨g, _⟩
    · refine ⟨?_, rfl⟩
      have := take_put ⟨#[]⟩ ⟨(leB X n).toArray⟩ ⟨#[]⟩ X n rfl
      rw [hte]
      have e : (⟨#[]⟩ ++ ⟨(leB X n).toArray⟩ ++ ⟨#[]⟩ : ByteArray) = ⟨(leB X n).toArray⟩ := by
        apply ByteArray.ext; simp
      rw [e] at this
      exact congrArg (fun z : Nat => wrap64 (z : Int)) this
    · exact (g rfl).elim
/-- the bytes of each page behind a store -/
theorem laid_at {l l' : List Pg} {a : Int} {t : ByteArray} (h : LayR 0 l a t l' 0) (hm : MemOk l) {k : Nat} {x y : Pg} (hx : l[k]? = some x) (hy : l'[k]? = some y) {q : Nat} (hq : q < 256) :
    (∀ j : Nat, x.b + q - a = (j : Int) → j < t.size → y.d.data.toList[q]? = t.data.toList[j]?) ∧ ((x.b + q - a < 0 ∨ (t.size : Int) ≤ x.b + q - a) → y.d.data.toList[q]? = x.d.data.toList[q]?) := by
  have hm' := (h.shape hm).ok hm
  obtain ⟨d, hd, _⟩ := (h.shape hm).2 k x hx
  have hyb : y.b = x.b := by rw [hd] at hy; cases hy; rfl
  refine ⟨fun j hj hjt => ?_, fun ho => ?_⟩
  · obtain ⟨u, e2⟩ : ∃ u, t.data.toList[j]? = some u := ⟨_, List.getElem?_eq_getElem (by rw [ba_len]; exact hjt)⟩
    obtain ⟨k', y', g1, g2⟩ := h.laid hm j u e2
    obtain ⟨rfl, rfl⟩ := Has.one hm' g1 (⟨hy, by omega, by omega⟩ : Has l' (a + j) k y)
    rw [e2, ← g2, show (a + (j : Int) - y'.b).toNat = q by omega]
  · have hq' : (x.b + (q : Int) - x.b).toNat = q := by omega
    rcases ho with ho | ho
    · have := h.keep hm hx hy (b := x.b + q) (by omega) (by omega)
      rw [hq'] at this; exact this
    · have := h.keep_hi hm hx hy (b := x.b + q) (by omega) (by omega)
      rw [hq'] at this; exact this
end Go.Proofs.YtlijjbdhoooamaaDoor
