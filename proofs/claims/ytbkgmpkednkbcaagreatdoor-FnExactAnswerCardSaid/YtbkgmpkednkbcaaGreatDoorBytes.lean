/-
  Facts on slices of bytes that a call makes itself: what is appended to them, and the text that they become; no condition but those in each head.
-/
import Derived.Test.YtbkgmpkednkbcaaGreatDoorRows
import Derived.WalkKit
import Derived.WalkSpells
import Derived.WalkLawsBesides
import Derived.Lib.Hide
import Derived.Deep.AppendLies
import Derived.Deep.RegionLaw
import Derived.Laws.IdiomStrings
namespace Go.Proofs.YtbkgmpkednkbcaaGreatDoor
open Go.RowKit
def BV (l : List UInt8) : List Value := l.map fun b => .int .u8 (b.toNat : Int)
theorem infoB : (Tryz.prog.info? 5).map (fun i => (i.zero, i.size, i.bytes)) = some (some (.int .u8 0), 1, 1) := by kernel_rfl
theorem BV_app (a b : List UInt8) : BV a ++ BV b = BV (a ++ b) := by simp [BV]
theorem BV_len (a : List UInt8) : (BV a).length = a.length := by simp [BV]
theorem BV_one (l : List UInt8) : ∀ u ∈ BV l, u.oneCell' = true := by
  intro u hu; simp only [BV, List.mem_map] at hu; obtain ⟨b, _, rfl⟩ := hu; rfl
theorem news2 (w : World) (a b : UInt8) (j : Nat) (u : Value) (h : (BV [a, b])[j]? = some u) :
    ((w.alloc (.cells #[.int .u8 (a.toNat : Int), .int .u8 (b.toNat : Int)] 5)).drew).cell? ((⟨w.heap.size, 0, none⟩ : Addr).add j) = some u :=
  World.news_of_block (w := (w.alloc (.cells #[.int .u8 (a.toNat : Int), .int .u8 (b.toNat : Int)] 5)).drew) (heap_alloc_new w _) j u (by simpa [BV] using h)
theorem news1 (w : World) (a : UInt8) (j : Nat) (u : Value) (h : (BV [a])[j]? = some u) :
    ((w.alloc (.cells #[.int .u8 (a.toNat : Int)] 5)).drew).cell? ((⟨w.heap.size, 0, none⟩ : Addr).add j) = some u :=
  World.news_of_block (w := (w.alloc (.cells #[.int .u8 (a.toNat : Int)] 5)).drew) (heap_alloc_new w _) j u (by simpa [BV] using h)
theorem news1' (w : World) (a : UInt8) (j : Nat) (u : Value) (h : (BV [a])[j]? = some u) :
    (w.alloc (.cells #[.int .u8 (a.toNat : Int)] 5)).cell? ((⟨w.heap.size, 0, none⟩ : Addr).add j) = some u :=
  World.news_of_block (w := w.alloc (.cells #[.int .u8 (a.toNat : Int)] 5)) (heap_alloc_new w _) j u (by simpa [BV] using h)
theorem own_len {w : World} {B g n cap : Nat} {l : List UInt8} (h : w.ownsRow B 5 1 (.slice (some ⟨g, 0, none⟩) n cap) n (BV l)) : l.length = n := by
  have := h.1; rw [BV_len] at this; omega
theorem str_own {w : World} {B g n cap : Nat} {l : List UInt8} (h : w.ownsRow B 5 1 (.slice (some ⟨g, 0, none⟩) n cap) n (BV l)) :
    (convert 115 9 (.slice (some ⟨g, 0, none⟩) n cap)).run Tryz.prog w = .ok (.string ⟨l.toArray⟩) w := by
  have e := own_len h
  subst e
  refine run_convert_bytes_back w _ _ 5 ⟨g, 0, none⟩ cap l Tryz.underlying115 Tryz.underlying5 Tryz.underlying9 fun j hj => ?_
  exact h.cells (g := g) rfl j _ (by simp [BV, List.getElem?_eq_getElem hj])
/-- behind an append of new cells that lie in a new block -/
theorem below_app {W w w1 : World} {o : Obj} {v : Value} (h : Below W.heap.size W w) (hg : (w.alloc o).drew.grownBy w1 v.ownBlock) (hv : ∀ k, v.ownBlock = some k → W.heap.size ≤ k) : Below W.heap.size W w1 :=
  (Below.drew (Below.alloc h h.size o)).grown hg (by have := h.size; simp; omega) hv
theorem below_app' {W w w1 : World} {o : Obj} {v : Value} (h : Below W.heap.size W w) (hg : (w.alloc o).grownBy w1 v.ownBlock) (hv : ∀ k, v.ownBlock = some k → W.heap.size ≤ k) : Below W.heap.size W w1 :=
  (Below.alloc h h.size o).grown hg (by have := h.size; simp; omega) hv
theorem ret_strB {a b : ByteArray} (h : a = b) : Ending.returned (.string a) = .returned (.string b) := by rw [h]
end Go.Proofs.YtbkgmpkednkbcaaGreatDoor
