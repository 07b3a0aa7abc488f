/-
  What the program's put and lay do: bytes are laid into pages that the call owns, and a code tells why not; conditions: those in each head.
-/
import Derived.Test.YtcchcinnjahghaaDoorMathLay
import Derived.Test.YtcchcinnjahghaaDoorWalkGet
import Derived.BigRegion
namespace Go.Proofs.YtcchcinnjahghaaDoor
open Go.RowKit Go.Sort
theorem PV_set2 {l : List Pg} {k : Nat} {x : Pg} (h : l[k]? = some x) (d : ByteArray) : (PV l).set (k * 3 + 2) (.string d) = PV (l.set k ⟨x.b, x.p, d⟩) := by
  rw [← PV_set]
  have h0 := PV_at h 0 (by omega)
  have h1 := PV_at h 1 (by omega)
  have hl := PV_len l
  have hk := (List.getElem?_eq_some_iff.1 h).1
  apply List.ext_getElem?
  intro j
  simp only [List.getElem?_set, List.length_set]
  by_cases e0 : k * 3 = j
  · subst e0
    rw [if_neg (by omega), if_neg (by omega), if_neg (by omega), if_pos rfl, if_pos (by omega)]
    simpa [pv] using h0
  · by_cases e1 : k * 3 + 1 = j
    · subst e1
      rw [if_neg (by omega), if_neg (by omega), if_pos rfl, if_pos (by omega)]
      simpa [pv] using h1
    · by_cases e2 : k * 3 + 2 = j
      · subst e2; simp
      · rw [if_neg e2, if_neg e2, if_neg e1, if_neg e0]
theorem cut_cut (t : ByteArray) (k n : Nat) : (t.extract k t.size).extract n (t.extract k t.size).size = t.extract (k + n) t.size := by
  apply ba_ext
  rw [cut_size, ba_cut, ba_cut, ba_cut, ← ba_len t, List.take_length, List.take_of_length_le (by simp), List.drop_drop]
theorem cut_all (t : ByteArray) : t.extract 0 t.size = t := by
  apply ba_ext
  rw [ba_cut, ← ba_len t, List.take_length, List.drop_zero]
end Go.Proofs.YtcchcinnjahghaaDoor
