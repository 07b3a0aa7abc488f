/-
  CheckImage has one answer, and a text has one code with which it is refused; no condition but those in each head.
-/
import Derived.Test.YtcchcinnjahghaaDoorWalkRe
namespace Go.Proofs.YtcchcinnjahghaaDoor
open Go.RowKit
set_option linter.unusedVariables false
theorem ok_not_bad {l : List Sg} {k : Nat} {x : Sg} (h : OkTo l l.length) (hx : l[k]? = some x) : segC (freeOf (l.take k)) (runOf (l.take k)) x = 0 := h k x (List.getElem?_eq_some_iff.1 hx).1 hx
theorem first_one {l : List Sg} {k j : Nat} {x y : Sg} (h : FirstRun l k x) (g : FirstRun l j y) : x = y := by
  have e : k = j := by
    rcases Nat.lt_trichotomy k j with e | e | e
    · exact absurd h.2.1 (g.2.2 k x e h.1)
    · exact e
    · exact absurd g.2.1 (h.2.2 j y e g.1)
  subst e
  have := h.1.symm.trans g.1
  cases this
  rfl
theorem chk_one {e : Int} {l : List Sg} {k j : Nat} {c d : Int} (h : Chk e l k c) (g : Chk e l j d) : k = j ∧ c = d := by
  cases h with
  | none h0 =>
    cases g with
    | none => exact ⟨rfl, rfl⟩
    | many h4 => omega
    | seg k x h4 ho hx hc => have := (List.getElem?_eq_some_iff.1 hx).1; omega
    | norun h1 => omega
    | entry k x h4 ho hf => have := (List.getElem?_eq_some_iff.1 hf.1).1; omega
    | ok k x h4 ho hf => have := (List.getElem?_eq_some_iff.1 hf.1).1; omega
  | many h0 =>
    cases g with
    | none => omega
    | many h4 => exact ⟨rfl, rfl⟩
    | seg k x h4 ho hx hc => omega
    | norun h1 h2 => omega
    | entry k x h4 ho hf => omega
    | ok k x h4 ho hf => omega
  | seg k x h4 ho hx hc =>
    cases g with
    | none h0 => have := (List.getElem?_eq_some_iff.1 hx).1; omega
    | many h0 => omega
    | seg k' x' h4' ho' hx' hc' =>
      obtain rfl := bad_one ho hx hc ho' hx' hc'
      have := hx.symm.trans hx'
      cases this
      exact ⟨rfl, rfl⟩
    | norun h1 h2 ho' => exact absurd (ok_not_bad ho' hx) hc
    | entry k' x' h4' ho' hf => exact absurd (ok_not_bad ho' hx) hc
    | ok k' x' h4' ho' hf => exact absurd (ok_not_bad ho' hx) hc
  | norun h1 h2 ho hn =>
    cases g with
    | none h0 => omega
    | many h0 => omega
    | seg k' x' h4' ho' hx' hc' => exact absurd (ok_not_bad ho hx') hc'
    | norun => exact ⟨rfl, rfl⟩
    | entry k' x' h4' ho' hf => exact absurd hf.2.1 (hn _ _ hf.1)
    | ok k' x' h4' ho' hf => exact absurd hf.2.1 (hn _ _ hf.1)
  | entry k x h4 ho hf he =>
    cases g with
    | none h0 => have := (List.getElem?_eq_some_iff.1 hf.1).1; omega
    | many h0 => omega
    | seg k' x' h4' ho' hx' hc' => exact absurd (ok_not_bad ho hx') hc'
    | norun h1 h2 ho' hn => exact absurd hf.2.1 (hn _ _ hf.1)
    | entry => exact ⟨rfl, rfl⟩
    | ok k' x' h4' ho' hf' he' =>
      obtain rfl := first_one hf hf'
      rw [he] at he'
      cases he'
  | ok k x h4 ho hf he =>
    cases g with
    | none h0 => have := (List.getElem?_eq_some_iff.1 hf.1).1; omega
    | many h0 => omega
    | seg k' x' h4' ho' hx' hc' => exact absurd (ok_not_bad ho hx') hc'
    | norun h1 h2 ho' hn => exact absurd hf.2.1 (hn _ _ hf.1)
    | entry k' x' h4' ho' hf' he' =>
      obtain rfl := first_one hf hf'
      rw [he] at he'
      cases he'
    | ok => exact ⟨rfl, rfl⟩
theorem rs_one {t : ByteArray} {k j : Nat} (h : RsTo t k) (hk : rsAt t (64 + 56 * k) ≠ 0) (g : RsTo t j) (hj : rsAt t (64 + 56 * j) ≠ 0) : k = j := by
  rcases Nat.lt_trichotomy k j with e | e | e
  · exact absurd (g k e) hk
  · exact e
  · exact absurd (h j e) hj
/-- a text is refused with one code alone -/
theorem rc_one {t : ByteArray} {c d : Int} (h : RcIs t c) (g : RcIs t d) : c = d := by
  obtain ⟨h0, h⟩ := h
  obtain ⟨g0, g⟩ := g
  rcases h with ⟨h1, h2⟩ | ⟨h1, m, hm, h⟩
  · rcases g with ⟨g1, g2⟩ | ⟨g1, _⟩
    · rw [h2, g2]
    · exact absurd g1 h1
  · rcases g with ⟨g1, g2⟩ | ⟨g1, m', hm', g⟩
    · exact absurd h1 g1
    · obtain rfl : m = m' := by omega
      rcases h with ⟨k, hk, hr, hb, rfl⟩ | ⟨hr, k, hc⟩
      · rcases g with ⟨j, hj, gr, gb, rfl⟩ | ⟨gr, j, gc⟩
        · rw [rs_one hr hb gr gb]
        · exact absurd (gr k hk) hb
      · rcases g with ⟨j, hj, gr, gb, rfl⟩ | ⟨gr, j, gc⟩
        · exact absurd (hr j hj) gb
        · exact (chk_one hc gc).2
/-- a text that is refused is not read -/
theorem rc_not {t : ByteArray} {c : Int} (h : RcIs t c) (h1 : hdC t = 0) {m : Nat} (hm : (m : Int) = tkN t 56 2) (hr : RsTo t m) {k : Nat} (hc : Chk (tkN t 24 8) (lstT t m) k 0) : False := by
  obtain ⟨h0, h⟩ := h
  rcases h with ⟨g1, g2⟩ | ⟨g1, m', hm', h⟩
  · exact g1 h1
  · obtain rfl : m = m' := by omega
    rcases h with ⟨j, hj, gr, gb, rfl⟩ | ⟨gr, j, gc⟩
    · exact gb (hr j hj)
    · exact h0 (chk_one gc hc).2
end Go.Proofs.YtcchcinnjahghaaDoor
