/-
  The names of operations, conditions and registers as lists of bytes, and what a search in such a list answers; no condition but those in each head.
-/
import Derived.Test.YtjnjlgaemmdkhaaGreatDoorProg
import Derived.WalkKit
import Derived.Lib.Hide
import Derived.Laws.Strings
namespace Go.Proofs.YtjnjlgaemmdkhaaGreatDoor
open Go.RowKit
def opsL : List (List UInt8) := [[97, 100, 100], [111, 114], [97, 100, 99], [115, 98, 98], [97, 110, 100], [115, 117, 98], [120, 111, 114], [99, 109, 112], [109, 111, 118], [116, 101, 115, 116], [110, 111, 116], [110, 101, 103], [109, 117, 108], [105, 109, 117, 108, 49], [100, 105, 118], [105, 100, 105, 118], [105, 109, 117, 108], [105, 110, 99], [100, 101, 99], [114, 111, 108], [114, 111, 114], [115, 104, 108], [115, 104, 114], [115, 97, 114], [108, 101, 97], [109, 111, 118, 122, 120], [109, 111, 118, 115, 120], [120, 99, 104, 103], [112, 117, 115, 104], [112, 111, 112], [99, 97, 108, 108], [106, 109, 112], [106, 99, 99], [114, 101, 116], [115, 101, 116, 99, 99], [99, 109, 111, 118], [110, 111, 112], [104, 108, 116], [99, 119, 105, 100, 101], [99, 115, 105, 103, 110], [115, 116, 111, 115], [109, 111, 118, 115], [115, 121, 115, 99, 97, 108, 108], [105, 110, 116]]
def condsL : List (List UInt8) := [[111], [110, 111], [98], [97, 101], [101], [110, 101], [98, 101], [97], [115], [110, 115], [112], [110, 112], [108], [103, 101], [108, 101], [103]]
def regs1 : List (List UInt8) := [[97, 108], [99, 108], [100, 108], [98, 108], [115, 112, 108], [98, 112, 108], [115, 105, 108], [100, 105, 108], [114, 56, 98], [114, 57, 98], [114, 49, 48, 98], [114, 49, 49, 98], [114, 49, 50, 98], [114, 49, 51, 98], [114, 49, 52, 98], [114, 49, 53, 98], [97, 104], [99, 104], [100, 104], [98, 104]]
def regs2 : List (List UInt8) := [[97, 120], [99, 120], [100, 120], [98, 120], [115, 112], [98, 112], [115, 105], [100, 105], [114, 56, 119], [114, 57, 119], [114, 49, 48, 119], [114, 49, 49, 119], [114, 49, 50, 119], [114, 49, 51, 119], [114, 49, 52, 119], [114, 49, 53, 119]]
def regs4 : List (List UInt8) := [[101, 97, 120], [101, 99, 120], [101, 100, 120], [101, 98, 120], [101, 115, 112], [101, 98, 112], [101, 115, 105], [101, 100, 105], [114, 56, 100], [114, 57, 100], [114, 49, 48, 100], [114, 49, 49, 100], [114, 49, 50, 100], [114, 49, 51, 100], [114, 49, 52, 100], [114, 49, 53, 100]]
def regs8 : List (List UInt8) := [[114, 97, 120], [114, 99, 120], [114, 100, 120], [114, 98, 120], [114, 115, 112], [114, 98, 112], [114, 115, 105], [114, 100, 105], [114, 56], [114, 57], [114, 49, 48], [114, 49, 49], [114, 49, 50], [114, 49, 51], [114, 49, 52], [114, 49, 53]]
/-- the i-th name of a list -/
def nm (l : List (List UInt8)) (i : Nat) : ByteArray := ⟨(l.getD i []).toArray⟩
/-- the list as cells -/
def nmV (l : List (List UInt8)) : Array Value := (l.map fun b => Value.string ⟨b.toArray⟩).toArray
theorem nmV_at (l : List (List UInt8)) (i : Nat) (hi : i < l.length) : (nmV l)[i]? = some (.string (nm l i)) := by
  simp only [nmV, nm, List.getElem?_toArray, List.getElem?_map, List.getD_eq_getElem?_getD]
  rw [List.getElem?_eq_getElem hi]; rfl
theorem nmV_size (l : List (List UInt8)) : (nmV l).size = l.length := by simp [nmV]
theorem nm_get (l : List (List UInt8)) (i : Nat) (h : i < (l.map fun b => Value.string ⟨b.toArray⟩).length) : (l.map fun b => Value.string ⟨b.toArray⟩)[i] = .string (nm l i) := by
  have hl : i < l.length := by simpa using h
  simp only [List.getElem_map, nm, List.getD_eq_getElem?_getD]
  rw [List.getElem?_eq_getElem hl]; rfl
/-- r is the first place of s among the names of l, or -1 -/
def IsAt (l : List (List UInt8)) (s : ByteArray) (r : Int) : Prop := (∃ k : Nat, k < l.length ∧ r = k ∧ (nm l k).toList = s.toList ∧ ∀ j, j < k → (nm l j).toList ≠ s.toList) ∨ (r = -1 ∧ ∀ j, j < l.length → (nm l j).toList ≠ s.toList)
theorem IsAt.one {l : List (List UInt8)} {s : ByteArray} {r r' : Int} (h : IsAt l s r) (h' : IsAt l s r') : r = r' := by
  rcases h with ⟨k, hk, rfl, e, n⟩ | ⟨rfl, n⟩
  · rcases h' with ⟨k', hk', rfl, e', n'⟩ | ⟨rfl, n'⟩
    · rcases Nat.lt_trichotomy k k' with h | h | h
      · exact absurd e (n' k h)
      · rw [h]
      · exact absurd e' (n k' h)
    · exact absurd e (n' k hk)
  · rcases h' with ⟨k', hk', rfl, e', n'⟩ | ⟨rfl, n'⟩
    · exact absurd e' (n k' hk')
    · rfl
theorem IsAt.hit {l : List (List UInt8)} {s : ByteArray} {k : Nat} (h : k < l.length) (e : (nm l k).toList = s.toList) (n : ∀ j, j < k → (nm l j).toList ≠ s.toList) : IsAt l s k := .inl ⟨k, h, rfl, e, n⟩
theorem IsAt.miss {l : List (List UInt8)} {s : ByteArray} (n : ∀ j, j < l.length → (nm l j).toList ≠ s.toList) : IsAt l s (-1) := .inr ⟨rfl, n⟩
theorem IsAt.range {l : List (List UInt8)} {s : ByteArray} {r : Int} (h : IsAt l s r) : -1 ≤ r ∧ r < l.length := by
  rcases h with ⟨k, hk, rfl, _⟩ | ⟨rfl, _⟩ <;> omega
theorem nm_next {l : List (List UInt8)} {s : ByteArray} {k : Nat} (h : ∀ j, j < k → (nm l j).toList ≠ s.toList) (h2 : ((nm l k).toList == s.toList) = false) : ∀ j, j < k + 1 → (nm l j).toList ≠ s.toList := by
  intro j hj
  by_cases e : j = k
  · subst e; exact ne_of_beq_false h2
  · exact h j (by omega)
/-- no name of these lists is longer than five bytes -/
theorem nm_short {l : List (List UInt8)} {s : ByteArray} (n : Nat) (h : ∀ b ∈ l, b.length ≤ n) (hs : n < s.size) : ∀ j, j < l.length → (nm l j).toList ≠ s.toList := by
  intro j hj e
  have h1 := h l[j] (List.getElem_mem hj)
  have h2 : (nm l j).size = (l[j]).length := by
    simp only [nm, List.getD_eq_getElem?_getD, List.getElem?_eq_getElem hj, Option.getD_some]
    simp [ByteArray.size]
  have h3 : (nm l j).size = s.size := by
    have := congrArg List.length e
    rw [ByteArray.toList_eq, ByteArray.toList_eq] at this
    have h4 : (nm l j).data.size = s.data.size := by rw [← Array.length_toList, ← Array.length_toList]; exact this
    exact h4
  omega
end Go.Proofs.YtjnjlgaemmdkhaaGreatDoor
