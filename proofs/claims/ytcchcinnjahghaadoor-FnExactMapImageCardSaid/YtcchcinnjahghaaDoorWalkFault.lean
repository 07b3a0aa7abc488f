/-
  What spec.l02Fault and spec.l02Get do: why bytes may not be had, and bytes that may, changing nothing that was there; conditions: those in each head.
-/
import Derived.Test.YtcchcinnjahghaaDoorWalkTakeP
namespace Go.Proofs.YtcchcinnjahghaaDoor
open Go.RowKit Go.Sort
theorem has_bounds {l : List Pg} (hm : MemOk l) {a : Int} {k : Nat} {x : Pg} (h : Has l a k x) : 0 ≤ a ∧ a ≤ 65535 := by
  have h1 := hm.2.1 k x h.1
  have h2 := h.2
  unfold PgOk at h1
  omega
theorem perm_bit {p perm : Int} (h0 : 0 ≤ p) (h7 : p ≤ 7) (hp : perm = 1 ∨ perm = 2 ∨ perm = 4) : (bits .and .i64 p perm == 0) = !allowB p perm := by
  rcases (show p = 0 ∨ p = 1 ∨ p = 2 ∨ p = 3 ∨ p = 4 ∨ p = 5 ∨ p = 6 ∨ p = 7 by omega) with h | h | h | h | h | h | h | h <;> rcases hp with e | e | e <;> subst h <;> subst e <;> decide
/-- what l02Fault answers -/
def FtOut (l : List Pg) (a : Int) (n : Nat) (perm c : Int) : Prop :=
  (c = 0 ∧ ∀ (i : Nat), i < n → ∃ v, ByteAt l perm (a + i) v) ∨ (∃ i : Nat, i < n ∧ (∀ (j : Nat), j < i → ∃ v, ByteAt l perm (a + j) v) ∧ CodeAt l perm (a + i) c)
theorem has_byte {l : List Pg} (hm : MemOk l) {a perm : Int} {k : Nat} {x : Pg} (h : Has l a k x) (hal : allowB x.p perm = true) : ∃ v, ByteAt l perm a v := by
  have hs := (hm.2.1 k x h.1).2.2.2.2.2
  have h2 := h.2
  have hlt : (a - x.b).toNat < x.d.data.toList.length := by rw [ba_len, hs]; omega
  exact ⟨_, k, x, h, hal, List.getElem?_eq_getElem hlt⟩
theorem tk_fault {l : List Pg} (hm : MemOk l) {a : Int} {n : Nat} {perm : Int} {t : List UInt8} {c c' : Int} (h : TkOut l a n perm t c) (h' : FtOut l a n perm c') : c = c' := by
  rcases h' with ⟨rfl, hall⟩ | ⟨i, hi, hb, hc⟩
  · rcases h.2 with ⟨e, _⟩ | ⟨hlt, hcode⟩
    · exact e
    · obtain ⟨v, hv⟩ := hall _ hlt
      exact (byte_code hm hv hcode).elim
  · rcases h.2 with ⟨rfl, hl⟩ | ⟨hlt, hcode⟩
    · exact (byte_code hm (h.1 i _ (List.getElem?_eq_getElem (by omega))) hc).elim
    · rcases Nat.lt_trichotomy t.length i with g | g | g
      · obtain ⟨v, hv⟩ := hb _ g
        exact (byte_code hm hv hcode).elim
      · rw [← g] at hc; exact code_one hcode hc
      · exact (byte_code hm (h.1 i _ (List.getElem?_eq_getElem g)) hc).elim
theorem findHas (p : Option Addr) (cap : Nat) (l : List Pg) (a : Int) (k : Nat) (x : Pg) (w : World) (hm : MemOk l) (hr : Rd w p l) (hh : Has l a k x) :
    Calls Tryd.prog 81 #[.agg #[.slice p l.length cap], .int .i64 a] w fun e w' => e = .returned (.int .i64 (k : Int)) ∧ Below w.heap.size w w' := by
  have hb := has_bounds hm hh
  refine (findS p cap l a w hm hr (by omega) (by omega)).mono ?_
  rintro e w' ⟨r, rfl, hf, b⟩
  rcases hf.out with ⟨k', x', hh', rfl⟩ | ⟨hno, _⟩
  · obtain ⟨rfl, _⟩ := Has.one hm hh hh'
    exact ⟨rfl, b⟩
  · exact absurd hh (hno k x)
end Go.Proofs.YtcchcinnjahghaaDoor
