/-
  What impl.openMemory and impl.MemoryOK do: the first makes a table of its own of a memory's pages and tells whether the memory is right, changing nothing that was there; conditions: those in each head.
-/
import Derived.Test.YtcchcinnjahghaaDoorWalkOkS
import Derived.Test.YtcchcinnjahghaaDoorGen
namespace Go.Proofs.YtcchcinnjahghaaDoor
open Go.RowKit Go.Sort
/-- an address of a slice: none, or one without a spot -/
def Ad (p : Option Addr) : Prop := p = none ∨ ∃ b off, p = some ⟨b, off, none⟩
/-- the table's pointers q (of which there are l.length) lead to the pages of l, which lie in block g -/
def Tab (w : World) (q : Option Addr) (g : Nat) (l : List Pg) : Prop := ∀ (k : Nat) x, l[k]? = some x → ∃ h, q = some ⟨h, 0, none⟩ ∧ h < w.heap.size ∧ g < w.heap.size ∧ w.cell? ⟨h, k, none⟩ = some (.pointer (some ⟨g, k * 3, none⟩)) ∧ w.cell? ⟨g, k * 3, none⟩ = some (.int .i64 x.b) ∧ w.cell? ⟨g, k * 3 + 1, none⟩ = some (.int .i64 x.p) ∧ w.cell? ⟨g, k * 3 + 2, none⟩ = some (.string x.d)
theorem Tab.below {w w' : World} {q : Option Addr} {g : Nat} {l : List Pg} (h : Tab w q g l) (hb : Below w.heap.size w w') : Tab w' q g l := by
  intro k x hk
  obtain ⟨a, rfl, h0, h1, h2, h3, h4, h5⟩ := h k x hk
  have hs := hb.size
  exact ⟨a, rfl, by omega, by omega, (hb.cell (p := ⟨a, _, none⟩) h0).trans h2, (hb.cell (p := ⟨g, _, none⟩) h1).trans h3, (hb.cell (p := ⟨g, _, none⟩) h1).trans h4, (hb.cell (p := ⟨g, _, none⟩) h1).trans h5⟩
def Rises (l : List Pg) : Prop := ∀ (k : Nat) x y, l[k]? = some x → l[k + 1]? = some y → x.b < y.b
noncomputable def riseB (l : List Pg) : Bool := @decide (Rises l) (Classical.propDecidable _)
theorem riseB_yes {l : List Pg} (h : Rises l) : riseB l = true := by unfold riseB; exact @decide_eq_true _ (Classical.propDecidable _) h
theorem riseB_no {l : List Pg} (h : ¬ Rises l) : riseB l = false := by unfold riseB; exact @decide_eq_false _ (Classical.propDecidable _) h
end Go.Proofs.YtcchcinnjahghaaDoor
