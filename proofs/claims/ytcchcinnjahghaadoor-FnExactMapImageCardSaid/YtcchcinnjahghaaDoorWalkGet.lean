/-
  What impl.GetBytes and spec.GetBytes do: bytes from an address on, whatever their pages allow, or a code, changing nothing that was there; conditions: those in each head.
-/
import Derived.Test.YtcchcinnjahghaaDoorWalkGetS
import Derived.Test.YtcchcinnjahghaaDoorOpenMem
namespace Go.Proofs.YtcchcinnjahghaaDoor
open Go.RowKit Go.Sort
theorem ft_tk {l : List Pg} {a : Int} {n : Nat} {perm c : Int} (h : FtOut l a n perm c) : ∃ t, TkOut l a n perm t c := by
  rcases h with ⟨rfl, h⟩ | ⟨i, hi, h, hc⟩
  · obtain ⟨t, ht, hq⟩ := list_of (Q := fun i v => ByteAt l perm (a + (i : Int)) v) n h
    exact ⟨t, hq, .inl ⟨rfl, ht⟩⟩
  · obtain ⟨t, ht, hq⟩ := list_of (Q := fun i v => ByteAt l perm (a + (i : Int)) v) i h
    exact ⟨t, hq, .inr ⟨by omega, by rw [ht]; exact hc⟩⟩
/-- what both GetBytes answer -/
def GetOut (l : List Pg) (a n : Int) (r : ByteArray) (c : Int) : Prop :=
  (¬ MemOk l ∧ r = ⟨#[]⟩ ∧ c = 1) ∨ (MemOk l ∧ ¬ (0 ≤ n ∧ n ≤ 8192) ∧ r = ⟨#[]⟩ ∧ c = 4) ∨ (MemOk l ∧ (0 ≤ n ∧ n ≤ 8192) ∧ ∃ t c', TkOut l a n.toNat 0 t c' ∧ ((c' = 0 ∧ r = ⟨t.toArray⟩ ∧ c = 0) ∨ (c' ≠ 0 ∧ r = ⟨#[]⟩ ∧ c = c')))
theorem GetOut.one {l : List Pg} {a n : Int} {r r' : ByteArray} {c c' : Int} (h : GetOut l a n r c) (h' : GetOut l a n r' c') : r = r' ∧ c = c' := by
  rcases h with ⟨h1, rfl, rfl⟩ | ⟨h1, h2, rfl, rfl⟩ | ⟨h1, h2, t, k, ht, h3⟩ <;> rcases h' with ⟨g1, rfl, rfl⟩ | ⟨g1, g2, rfl, rfl⟩ | ⟨g1, g2, t', k', ht', g3⟩ <;> first | exact ⟨rfl, rfl⟩ | exact absurd h1 g1 | exact absurd g1 h1 | exact absurd h2 g2 | exact absurd g2 h2 | skip
  obtain ⟨rfl, rfl⟩ := TkOut.one h1 ht ht'
  rcases h3 with ⟨e1, rfl, rfl⟩ | ⟨e1, rfl, rfl⟩ <;> rcases g3 with ⟨f1, rfl, rfl⟩ | ⟨f1, rfl, rfl⟩ <;> first | exact ⟨rfl, rfl⟩ | exact absurd e1 f1 | exact absurd f1 e1
theorem ba_self (T : ByteArray) : T = ⟨T.data.toList.toArray⟩ := by cases T; rfl
end Go.Proofs.YtcchcinnjahghaaDoor
