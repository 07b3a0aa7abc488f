/-
  What spec.l02Add and spec.AddPage do: the memory with one page more, of noughts, in new memory, and a code, changing nothing that was there; conditions: those in each head.
-/
import Derived.Test.YtbkgmpkednkbcaaGreatDoorMathIns
import Derived.Test.YtbkgmpkednkbcaaGreatDoorBytes
import Derived.Test.YtbkgmpkednkbcaaGreatDoorWalkOwn
namespace Go.Proofs.YtbkgmpkednkbcaaGreatDoor
open Go.RowKit Go.Sort
def z256 : Array Value := (List.replicate 256 (Value.int .u8 0)).toArray
theorem make256 (W : World) : (Instr.makeSlice 115 (.int .i64 256) (.int .i64 256)).run Tryz.prog W = .ok (.slice (some ⟨W.heap.size, 0, none⟩) 256 256) (W.alloc (.cells z256 5)) := by kernel_rfl
theorem convN (n g : Nat) (W : World) (h : W.heap[g]? = some (.cells (List.replicate n (Value.int .u8 0)).toArray 5 (0, 0))) : (convert 115 9 (.slice (some ⟨g, 0, none⟩) n n)).run Tryz.prog W = .ok (.string ⟨(List.replicate n (0 : UInt8)).toArray⟩) W := by
  have := run_convert_bytes_back W 115 9 5 ⟨g, 0, none⟩ n (List.replicate n 0) Tryz.underlying115 Tryz.underlying5 Tryz.underlying9 (fun j hj => by
    have hj2 : j < n := by simpa using hj
    rw [Addr.add_lit, Nat.zero_add, cell_of_row W g j _ _ (0, 0) h]
    simp [hj2])
  rw [List.length_replicate] at this; exact this
theorem conv256 (g : Nat) (W : World) (h : W.heap[g]? = some (.cells z256 5 (0, 0))) : (convert 115 9 (.slice (some ⟨g, 0, none⟩) 256 256)).run Tryz.prog W = .ok (.string zeros256) W := convN 256 g W h
/-- what has been put out behind k pages, x being due ahead of place p -/
def outL (l : List Pg) (p k : Nat) (x : Pg) : List Pg := if k ≤ p then l.take k else l.take p ++ x :: (l.take k).drop p
theorem outL_lo {l : List Pg} {p k : Nat} {x : Pg} (h : k ≤ p) : outL l p k x = l.take k := if_pos h
theorem outL_len {l : List Pg} {p k : Nat} {x : Pg} (hk : k ≤ l.length) : (outL l p k x).length = if k ≤ p then k else k + 1 := by
  unfold outL
  split
  · rw [List.length_take]; omega
  · rw [List.length_append, List.length_take, List.length_cons, List.length_drop, List.length_take]; omega
theorem outL_next {l : List Pg} {p k : Nat} {x y : Pg} (hy : l[k]? = some y) (h : k < p) : outL l p k x ++ [y] = outL l p (k + 1) x := by
  have hk := (List.getElem?_eq_some_iff.1 hy).1
  have he := (List.getElem?_eq_some_iff.1 hy).2
  rw [outL_lo (by omega), outL_lo (by omega), List.take_succ_eq_append_getElem hk, he]
theorem outL_at {l : List Pg} {p : Nat} {x y : Pg} (hy : l[p]? = some y) : outL l p p x ++ [x] ++ [y] = outL l p (p + 1) x := by
  have hk := (List.getElem?_eq_some_iff.1 hy).1
  have he := (List.getElem?_eq_some_iff.1 hy).2
  rw [outL_lo (Nat.le_refl _)]
  unfold outL
  rw [if_neg (by omega), List.take_succ_eq_append_getElem hk, List.drop_append_of_le_length (by rw [List.length_take]; omega), List.drop_eq_nil_of_le (by rw [List.length_take]; omega), he]
  simp
theorem outL_more {l : List Pg} {p k : Nat} {x y : Pg} (hy : l[k]? = some y) (h : p < k) : outL l p k x ++ [y] = outL l p (k + 1) x := by
  have hk := (List.getElem?_eq_some_iff.1 hy).1
  have he := (List.getElem?_eq_some_iff.1 hy).2
  unfold outL
  rw [if_neg (by omega), if_neg (by omega), List.take_succ_eq_append_getElem hk, List.drop_append_of_le_length (by rw [List.length_take]; omega), he]
  simp
theorem outL_end {l : List Pg} {p : Nat} {x : Pg} (h : p < l.length) : outL l p l.length x = insL l p x := by
  unfold outL insL
  rw [if_neg (by omega), List.take_of_length_le (Nat.le_refl l.length)]
theorem outL_end2 {l : List Pg} {x : Pg} : outL l l.length l.length x ++ [x] = insL l l.length x := by
  rw [outL_lo (Nat.le_refl _)]
  unfold insL
  rw [List.drop_eq_nil_of_le (Nat.le_refl _)]
end Go.Proofs.YtbkgmpkednkbcaaGreatDoor
