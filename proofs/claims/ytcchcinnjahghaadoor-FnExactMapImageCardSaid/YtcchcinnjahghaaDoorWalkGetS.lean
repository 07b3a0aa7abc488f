/-
  What spec.l02Get does: bytes from an address on that all have pages, changing nothing that was there; conditions: those in each head.
-/
import Derived.Test.YtcchcinnjahghaaDoorWalkFault
import Derived.Deep.RegionHeld3
namespace Go.Proofs.YtcchcinnjahghaaDoor
open Go.RowKit Go.Sort
theorem byte0 {l : List Pg} {a perm : Int} {v : UInt8} (h : ByteAt l perm a v) : ByteAt l 0 a v := by
  obtain ⟨k, x, h1, _, h3⟩ := h
  exact ⟨k, x, h1, allow0 _, h3⟩
theorem nat_byte {d : ByteArray} {i : Nat} {v : UInt8} (h : d.data.toList[i]? = some v) (hi : i < d.size) : d[i]'hi = v := by
  have h2 : d.data.toList[i]? = some (d[i]'hi) := by
    rw [Array.getElem?_toList]
    show d.data[i]? = _
    rw [Array.getElem?_eq_getElem]
    rfl
  rw [h] at h2; cases h2; rfl
section
variable {w : World} {b off k : Nat} {l : List Pg} {x : Pg} (h : Rd w (some ⟨b, off, none⟩) l) (hx : l[k]? = some x)
include h hx
theorem Rd.at0 : w.cell? ⟨b, off + k * 3, none⟩ = some (.int .i64 x.b) := by
  obtain ⟨b', o', e, _, h0, _, _⟩ := h k x hx
  cases e; exact h0
theorem Rd.at1 : w.cell? ⟨b, off + k * 3 + 1, none⟩ = some (.int .i64 x.p) := by
  obtain ⟨b', o', e, _, _, h0, _⟩ := h k x hx
  cases e; exact h0
theorem Rd.at2 : w.cell? ⟨b, off + k * 3 + 2, none⟩ = some (.string x.d) := by
  obtain ⟨b', o', e, _, _, _, h0⟩ := h k x hx
  cases e; exact h0
theorem Rd.lt : b < w.heap.size := by
  obtain ⟨b', o', e, h0, _, _, _⟩ := h k x hx
  cases e; exact h0
end
theorem snoc_bytes {l : List Pg} {a : Int} {T : List UInt8} {k : Nat} {u : UInt8} (h : ∀ (i : Nat) v, T[i]? = some v → ByteAt l 0 (a + i) v) (hk : T.length = k) (hu : ByteAt l 0 (a + k) u) : ∀ (i : Nat) v, (T ++ [u])[i]? = some v → ByteAt l 0 (a + i) v := by
  intro i v hv
  by_cases hi : i < T.length
  · rw [List.getElem?_append_left hi] at hv
    exact h i v hv
  · have hl := (List.getElem?_eq_some_iff.1 hv).1
    simp at hl
    obtain rfl : i = T.length := by omega
    simp at hv
    subst hv
    rw [hk]; exact hu
theorem keepD {w : World} {a1 a2 a3 a4 : Addr} {v1 v2 v3 v4 : Option Value} (h : w.cell? a1 = v1 ∧ w.cell? a2 = v2 ∧ w.cell? a3 = v3 ∧ w.cell? a4 = v4) : w.drew.cell? a1 = v1 ∧ w.drew.cell? a2 = v2 ∧ w.drew.cell? a3 = v3 ∧ w.drew.cell? a4 = v4 := h
theorem keep3 {w : World} {b g i : Nat} {v v0 v1 v2 : Value} (hne : b ≠ g) (h : w.cell? ⟨b, i, none⟩ = some v) : (((w.setCell ⟨g, 0, none⟩ v0).setCell ⟨g, 1, none⟩ v1).setCell ⟨g, 2, none⟩ v2).cell? ⟨b, i, none⟩ = some v := by
  have f (j : Nat) : (⟨g, j, none⟩ : Addr) ≠ ⟨b, i, none⟩ := fun e => hne (by cases e; rfl)
  rw [cellOther (f 2), cellOther (f 1), cellOther (f 0)]; exact h
theorem keepA {w : World} {b i : Nat} {o : Obj} {v : Value} (h : b < w.heap.size) (hc : w.cell? ⟨b, i, none⟩ = some v) : (w.alloc o).drew.cell? ⟨b, i, none⟩ = some v :=
  (World.cell?_of_block (w := w) (w' := (w.alloc o).drew) (Below.heap_alloc _ _ _ h)).trans hc
theorem keepB {w : World} {b i : Nat} {o : Obj} {v : Value} (h : b < w.heap.size) (hc : w.cell? ⟨b, i, none⟩ = some v) : (w.alloc o).cell? ⟨b, i, none⟩ = some v :=
  (World.cell?_of_block (w := w) (w' := w.alloc o) (Below.heap_alloc _ _ _ h)).trans hc
section
variable {wr w1 : World} {t : TypeId} (h : Below (wr.alloc (.cells #[.int .i64 0, .int .i64 0, .string ⟨#[]⟩] t)).drew.heap.size (wr.alloc (.cells #[.int .i64 0, .int .i64 0, .string ⟨#[]⟩] t)).drew w1)
include h
theorem pbk : w1.heap[wr.heap.size]? = some (.cells #[.int .i64 0, .int .i64 0, .string ⟨#[]⟩] t (0, 0)) := (h.block _ (by simp)).trans (heap_alloc_new wr _)
theorem pb0 : w1.cell? ⟨wr.heap.size, 0, none⟩ = some (.int .i64 0) := cell_of_row w1 _ 0 _ _ _ (pbk h)
theorem pb1 : w1.cell? ⟨wr.heap.size, 1, none⟩ = some (.int .i64 0) := cell_of_row w1 _ 1 _ _ _ (pbk h)
theorem pb2 : w1.cell? ⟨wr.heap.size, 2, none⟩ = some (.string ⟨#[]⟩) := cell_of_row w1 _ 2 _ _ _ (pbk h)
theorem pbf (i : Nat) : w1.frozen? ⟨wr.heap.size, i, none⟩ = false := by simp [World.frozen?, pbk h]
end
end Go.Proofs.YtcchcinnjahghaaDoor
