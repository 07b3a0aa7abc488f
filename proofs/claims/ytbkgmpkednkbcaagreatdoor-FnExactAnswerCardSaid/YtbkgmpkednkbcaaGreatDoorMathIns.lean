/-
  A page put into a list of pages whose bases rise: what both AddPage answer; no condition but those in each head.
-/
import Derived.Test.YtbkgmpkednkbcaaGreatDoorWalkSetP
namespace Go.Proofs.YtbkgmpkednkbcaaGreatDoor
open Go.RowKit Go.Sort
/-- the list with x ahead of place i -/
def insL (l : List Pg) (i : Nat) (x : Pg) : List Pg := l.take i ++ x :: l.drop i
theorem insL_len {l : List Pg} {i : Nat} {x : Pg} (h : i ≤ l.length) : (insL l i x).length = l.length + 1 := by
  simp [insL]; omega
/-- i is how many bases lie below base -/
def PlaceAt (l : List Pg) (base : Int) (i : Nat) : Prop := i ≤ l.length ∧ ∀ (k : Nat) x, l[k]? = some x → (x.b < base ↔ k < i)
theorem PlaceAt.one {l : List Pg} {base : Int} {i j : Nat} (h : PlaceAt l base i) (h' : PlaceAt l base j) : i = j := by
  rcases Nat.lt_trichotomy i j with e | e | e
  · have hi : i < l.length := by have := h'.1; omega
    have hx : l[i]? = some l[i] := List.getElem?_eq_getElem hi
    have := (h'.2 i _ hx).2 e
    have := (h.2 i _ hx).1 this
    omega
  · exact e
  · have hj : j < l.length := by have := h.1; omega
    have hx : l[j]? = some l[j] := List.getElem?_eq_getElem hj
    have := (h.2 j _ hx).2 e
    have := (h'.2 j _ hx).1 this
    omega
def zeros256 : ByteArray := ⟨(List.replicate 256 (0 : UInt8)).toArray⟩
theorem zeros_size : zeros256.size = 256 := by
  show (List.replicate 256 (0 : UInt8)).toArray.size = 256
  rw [List.size_toArray, List.length_replicate]
/-- what both AddPage answer -/
def AddOut (l : List Pg) (base perm : Int) (l' : List Pg) (c : Int) : Prop :=
  (¬ MemOk l ∧ l' = [] ∧ c = 1) ∨ (MemOk l ∧ ¬ (BaseOk base ∧ PermOk perm) ∧ l' = [] ∧ c = 4) ∨ (MemOk l ∧ (BaseOk base ∧ PermOk perm) ∧ (∃ (k : Nat) (x : Pg), l[k]? = some x ∧ x.b = base) ∧ l' = l ∧ c = 13) ∨
  (MemOk l ∧ (BaseOk base ∧ PermOk perm) ∧ (∀ (k : Nat) x, l[k]? = some x → x.b ≠ base) ∧ l.length = 32 ∧ l' = l ∧ c = 7) ∨
  (MemOk l ∧ (BaseOk base ∧ PermOk perm) ∧ (∀ (k : Nat) x, l[k]? = some x → x.b ≠ base) ∧ l.length ≠ 32 ∧ (∃ i, PlaceAt l base i ∧ l' = insL l i ⟨base, perm, zeros256⟩) ∧ c = 0)
theorem AddOut.one {l : List Pg} {base perm : Int} {l1 l2 : List Pg} {c1 c2 : Int} (h : AddOut l base perm l1 c1) (h' : AddOut l base perm l2 c2) : l1 = l2 ∧ c1 = c2 := by
  rcases h with ⟨h1, rfl, rfl⟩ | ⟨h1, h2, rfl, rfl⟩ | ⟨h1, h2, ⟨k, x, hk, hb⟩, rfl, rfl⟩ | ⟨h1, h2, h3, h4, rfl, rfl⟩ | ⟨h1, h2, h3, h4, ⟨i, hi, rfl⟩, rfl⟩ <;> rcases h' with ⟨g1, rfl, rfl⟩ | ⟨g1, g2, rfl, rfl⟩ | ⟨g1, g2, ⟨j, y, hj, hb'⟩, rfl, rfl⟩ | ⟨g1, g2, g3, g4, rfl, rfl⟩ | ⟨g1, g2, g3, g4, ⟨j, hj, rfl⟩, rfl⟩ <;> first | exact ⟨rfl, rfl⟩ | exact absurd h1 g1 | exact absurd g1 h1 | exact absurd h2 g2 | exact absurd g2 h2 | exact absurd hb (g3 _ _ hk) | exact absurd hb' (h3 _ _ hj) | exact absurd h4 g4 | exact absurd g4 h4 | (obtain rfl := hi.one hj; exact ⟨rfl, rfl⟩)
end Go.Proofs.YtbkgmpkednkbcaaGreatDoor
