/-
  What impl.openMemory and impl.MemoryOK do: the first makes a table of its own of a memory's pages and tells whether the memory is right, changing nothing that was there; conditions: those in each head.
-/
import Derived.Test.YtcchcinnjahghaaDoorWalkOpen
import Derived.Lib.OwnKind
namespace Go.Proofs.YtcchcinnjahghaaDoor
open Go.RowKit Go.Sort
def PT (g n : Nat) : List Value := (List.range n).map fun k => .pointer (some ⟨g, k * 3, none⟩)
theorem PT_snoc (g n : Nat) : PT g n ++ [.pointer (some ⟨g, n * 3, none⟩)] = PT g (n + 1) := by simp [PT, List.range_succ]
theorem newsP (w : World) (v : Value) (t : TypeId) (j : Nat) (u : Value) (h : [v][j]? = some u) :
    (w.alloc (.cells #[v] t)).cell? ((⟨w.heap.size, 0, none⟩ : Addr).add j) = some u :=
  World.news_of_block (w := w.alloc (.cells #[v] t)) (heap_alloc_new w _) j u (by simpa using h)
theorem blk1 (w : World) (a b c : Obj) : (((w.alloc a).alloc b).alloc c).heap[w.heap.size + 1]? = some b := by
  rw [Below.heap_alloc _ _ _ (by simp)]
  have := heap_alloc_new (w.alloc a) b
  simpa using this
theorem blk2 (w : World) (a b c : Obj) : (((w.alloc a).alloc b).alloc c).heap[w.heap.size + 1 + 1]? = some c := by
  have := heap_alloc_new ((w.alloc a).alloc b) c
  simpa using this
end Go.Proofs.YtcchcinnjahghaaDoor
