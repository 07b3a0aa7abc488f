/-
  What errors.Is does for an impl.boundError that wraps a sentinel of errors.New, asked for a sentinel: it returns whether it is the wrapped one, and changes nothing that was there; condition: two sentinels that are not one lie in plain cells.
  What the program's errors of numbers out of bounds are, and what code impl.boundCode gives each: 0 for none, 9 for one that wraps errEnd, 4 for one that wraps errRange, changing nothing that was there; condition: the two sentinels hold what the program's text lays there.
-/
import Derived.Test.YtcnmklgcifdmoaaRows
import Derived.WalkKit
import Derived.WalkSpells
import Derived.WalkLawsBesides
import Derived.Lib.Hide
import Derived.LaidEql
import Derived.Stop.Asserts
import Derived.Stop.LaidTwo
import Derived.Stop.Joined
import Derived.LaidMore
import Derived.RowKitTokens
namespace Go.Proofs.Ytcnmklgcifdmoaa
open Go.RowKit Go.Extern.Stop Go.Stop Go.Extern
end Go.Proofs.Ytcnmklgcifdmoaa
namespace Go.Proofs.Ytcnmklgcifdmoaa
open Go.RowKit Go.Extern.Stop Go.Stop Go.Extern
theorem star : "*errors.errorString" = "*" ++ "errors.errorString" := by decide
theorem cStrE : Try.prog.cellsOf 9 = 1 := by kernel_rfl
theorem lt_of_cell {w : World} {b o : Nat} {v : Value} (h : w.cell? ⟨b, o, none⟩ = some v) : b < w.heap.size := by
  rcases Nat.lt_or_ge b w.heap.size with h' | h'
  · exact h'
  · simp [World.cell?, Array.getElem?_eq_none h'] at h
theorem lt_of_blk {w : World} {b : Nat} {o : Obj} (h : w.heap[b]? = some o) : b < w.heap.size := by
  rcases Nat.lt_or_ge b w.heap.size with h' | h'
  · exact h'
  · rw [Array.getElem?_eq_none h'] at h; cases h
def sizeT : ByteArray := ⟨#[115, 105, 122, 101]⟩
def placeT : ByteArray := ⟨#[112, 108, 97, 99, 101]⟩
end Go.Proofs.Ytcnmklgcifdmoaa
