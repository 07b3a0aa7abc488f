/-
  What impl.TextOf and spec.TextOf answer of an image, and what spec.CheckImage answers; conditions: those in each head.
-/
import Derived.Test.YtcchcinnjahghaaDoorWalkImJ
namespace Go.Proofs.YtcchcinnjahghaaDoor
open Go.RowKit
set_option linter.unusedVariables false
set_option linter.unusedSimpArgs false
theorem belowN {n : Nat} {w W : World} (h : Below n w W) (k : Nat) : Below n w (W.drewN k) := ⟨h.os, h.tape, h.output, h.size, h.block⟩
theorem chk_zero {n : Int} {l : List Sg} {k : Nat} (h : Chk n l k 0) : ∃ j x, l.length ≤ 4 ∧ OkTo l l.length ∧ FirstRun l j x := by
  generalize hc : (0 : Int) = c at h
  cases h with
  | none h => cases hc
  | many h => cases hc
  | seg _ y _ hk hy hb => exact absurd hc.symm hb
  | norun _ _ _ h => cases hc
  | entry j x _ _ hf he => cases hc
  | ok j x h4 ho hf he => exact ⟨j, x, h4, ho, hf⟩
/-- what TextOf answers -/
def TextIs (n : Int) (l : List Sg) (c : Int) (e : Ending) : Prop := (c ≠ 0 ∧ e = .returned (.tuple #[.string ⟨#[]⟩, .int .i64 0, .int .i64 1])) ∨ (c = 0 ∧ ∃ j x, FirstRun l j x ∧ e = .returned (.tuple #[.string x.d, .int .i64 (16384 + x.v), .int .i64 0]))
theorem TextIs.one {n : Int} {l : List Sg} {c : Int} {e e' : Ending} (h : TextIs n l c e) (h' : TextIs n l c e') : e = e' := by
  rcases h with ⟨h1, rfl⟩ | ⟨h1, j, x, hf, rfl⟩
  · rcases h' with ⟨h2, rfl⟩ | ⟨h2, _⟩
    · rfl
    · exact absurd h2 h1
  · rcases h' with ⟨h2, rfl⟩ | ⟨h2, i, y, hg, rfl⟩
    · exact absurd h1 h2
    · have e : j = i := by
        rcases Nat.lt_trichotomy j i with h | h | h
        · exact absurd hf.2.1 (hg.2.2 j x h hf.1)
        · exact h
        · exact absurd hg.2.1 (hf.2.2 i y h hg.1)
      subst e
      have := hf.1.symm.trans hg.1
      cases this
      rfl
/-- block b holds an image whose segments are l -/
def BI (W : World) (b : Nat) (n : Int) (p : Option Addr) (c : Nat) (l : List Sg) : Prop := ImAt W b n p l.length c ∧ RdS W p l
theorem BI.next {W W' : World} {b : Nat} {n : Int} {p : Option Addr} {c : Nat} {l : List Sg} (h : BI W b n p c l) (hb : Below W.heap.size W W') : BI W' b n p c l := ⟨h.1.next hb, h.2.below hb⟩
theorem BI.new {w : World} {n : Int} {p : Option Addr} {c : Nat} {l : List Sg} (t : TypeId) (hr : RdS w p l) : BI (w.alloc (.cells #[.int .i64 n, .slice p l.length c] t)) w.heap.size n p c l := ⟨ImAt.new _ _ _ _ _ _, hr.below (belowA _ _)⟩
theorem bthenS {w W W' : World} (h : Below w.heap.size w W) (hb : Below W.heap.size W W') : Below w.heap.size w W' := h.trans (hb.mono h.size)
theorem sz_smallS {l : List Sg} {r left : Int} (h : -1 ≤ r ∧ r ≤ left ∧ (0 ≤ r → SmallS l)) (hr : ¬ r < 0) : SmallS l := h.2.2 (by omega)
theorem keep4S {w : World} {a b : Nat} {u v x y : Option Value} (h : (w.cell? ⟨a, 0, none⟩ = u ∧ w.cell? ⟨a, 1, none⟩ = v) ∧ w.cell? ⟨b, 0, none⟩ = x ∧ w.cell? ⟨b, 1, none⟩ = y) : (w.drew.cell? ⟨a, 0, none⟩ = u ∧ w.drew.cell? ⟨a, 1, none⟩ = v) ∧ w.drew.cell? ⟨b, 0, none⟩ = x ∧ w.drew.cell? ⟨b, 1, none⟩ = y := h
end Go.Proofs.YtcchcinnjahghaaDoor
