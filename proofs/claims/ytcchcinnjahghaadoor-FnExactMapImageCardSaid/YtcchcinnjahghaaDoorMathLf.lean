/-
  Plain facts on the pages of an image while its segments are laid one by one; no condition but those in each head.
-/
import Derived.Test.YtcchcinnjahghaaDoorWalkLd1
namespace Go.Proofs.YtcchcinnjahghaaDoor
open Go.RowKit Go.Sort
set_option linter.unusedVariables false
set_option linter.unusedSimpArgs false
/-- the offset behind the last segment's last page -/
def hpOf (l : List Sg) : Int := match l.getLast? with | none => 0 | some x => wpN (x.v + x.m)
/-- where the code stands, and its length up to its last page's end -/
def taOf (l : List Sg) : Int := l.foldl (fun a x => if x.f = 5 then 16384 + x.v else a) 0
def szOf (l : List Sg) : Int := l.foldl (fun a x => if x.f = 5 then ((256 * nPg x.m : Nat) : Int) else a) 0
theorem hp_snoc {l : List Sg} {k : Nat} {x : Sg} (h : l[k]? = some x) : hpOf (l.take (k + 1)) = wpN (x.v + x.m) := by
  rw [take_snoc h]; unfold hpOf; rw [List.getLast?_concat]
theorem ta_snoc {l : List Sg} {k : Nat} {x : Sg} (h : l[k]? = some x) : taOf (l.take (k + 1)) = if x.f = 5 then 16384 + x.v else taOf (l.take k) := by
  rw [take_snoc h]; unfold taOf; rw [List.foldl_append]; rfl
theorem sz_snoc {l : List Sg} {k : Nat} {x : Sg} (h : l[k]? = some x) : szOf (l.take (k + 1)) = if x.f = 5 then ((256 * nPg x.m : Nat) : Int) else szOf (l.take k) := by
  rw [take_snoc h]; unfold szOf; rw [List.foldl_append]; rfl
/-- the pages with the first i segments -/
def imgTo (l : List Sg) (i : Nat) : List Pg := cat3 headPgs (allSegs (l.take i)) tailPgs
theorem imgTo_zero (l : List Sg) : imgTo l 0 = cat3 headPgs [] tailPgs := by simp [imgTo, allSegs]
theorem imgTo_all (l : List Sg) : imgTo l l.length = imgPgs l := by unfold imgTo imgPgs cat3; rw [List.take_length]
theorem segU_other {x : Sg} (h : x.f ≠ 5) : segU x = padTo x.d.data.toList (256 * nPg x.m) 0 := by
  unfold segU hltOf; rw [if_neg h]
theorem segU_code {x : Sg} (h : x.f = 5) {N : Nat} (hN : 256 * nPg x.m = N) (hd : x.d.size ≤ N) : segU x = padTo (x.d ++ haltT (N - x.d.size)).data.toList (256 * nPg x.m) 0 := by
  have hl : x.d.data.toList.length = x.d.size := rfl
  have hh : (haltT (N - x.d.size)).data.toList = List.replicate (N - x.d.size) 244 := rfl
  unfold segU hltOf
  rw [if_pos h, hN]
  unfold padTo
  rw [ByteArray.data_append, Array.toList_append, hh, List.length_append, hl, List.length_replicate]
  have e : N - (x.d.size + (N - x.d.size)) = 0 := by omega
  rw [e]
  simp
/-- what is known of segment i of a right image -/
structure SegI (l : List Sg) (i : Nat) (x : Sg) (q m : Nat) : Prop where
  ve : x.v = 256 * (q : Int)
  lo : 512 ≤ x.v
  hi : x.v ≤ 3583
  me : x.m = (m : Int)
  m1 : 1 ≤ m
  m2 : x.v + (m : Int) ≤ 3584
  ds : x.d.size ≤ m
  d5 : x.f = 5 → x.d.size = m
  n0 : 0 < nPg x.m
  up : upN m = 256 * nPg x.m
  wp : (upN (256 * q + m) : Int) = wpN (x.v + x.m)
  sA : ∀ y ∈ headPgs ++ allSegs (l.take i), y.b < 16384 + x.v
  sB : ∀ y ∈ tailPgs, 16384 + x.v + 256 * (nPg x.m : Int) ≤ y.b
  len : (headPgs ++ allSegs (l.take i)).length + nPg x.m + tailPgs.length ≤ 32
  ok : MemOk (cat3 (headPgs ++ allSegs (l.take i)) (zPgs (16384 + x.v) (permOf x.f) (nPg x.m)) tailPgs)
theorem seg_i {l : List Sg} {i : Nat} {x : Sg} (h : OkTo l l.length) (hx : l[i]? = some x) : ∃ q m, SegI l i x q m := by
  have hi := (List.getElem?_eq_some_iff.1 hx).1
  have hf := okTo_free (okTo_mono h (Nat.le_of_lt hi)) (by omega)
  obtain ⟨q, f1, f2, f3, f4, f5, f6, f7, f8⟩ := seg_facts hf.1 (h i x hi hx)
  obtain ⟨g1, g2, g3, g4, g5, g6⟩ := segPgs_ok f1 (by omega) f3 f4 f5 f6
  obtain ⟨s1, s2, s3⟩ := segs_ok (okTo_mono h (Nat.le_of_lt hi)) (by omega)
  obtain ⟨m, hm⟩ : ∃ m : Nat, x.m = (m : Int) := ⟨x.m.toNat, by omega⟩
  have hn : ((nPg x.m : Nat) : Int) = (x.m + 255) / 256 := by unfold nPg; omega
  have hA : ∀ y ∈ headPgs ++ allSegs (l.take i), y.b < 16384 + x.v := by
    intro y hy
    rcases List.mem_append.1 hy with hy | hy
    · simp only [headPgs, List.mem_cons, List.not_mem_nil, or_false] at hy
      rcases hy with rfl | rfl
      · simp only; omega
      · simp only; omega
    · have := (s1 y hy).2.2; omega
  have hw : wpN (x.v + x.m) ≤ 3584 := by unfold wpN; omega
  have hB : ∀ y ∈ tailPgs, 16384 + x.v + 256 * (nPg x.m : Int) ≤ y.b := by
    intro y hy
    simp only [tailPgs, List.mem_cons, List.not_mem_nil, or_false] at hy
    rcases hy with rfl | rfl | rfl
    · simp only; omega
    · simp only; omega
    · simp only; omega
  have hlen : (headPgs ++ allSegs (l.take i)).length + nPg x.m + tailPgs.length ≤ 32 := by
    rw [List.length_append]
    have e1 : headPgs.length = 2 := rfl
    have e2 : tailPgs.length = 3 := rfl
    rw [e1, e2]
    omega
  have hzb : ∀ y ∈ zPgs (16384 + x.v) (permOf x.f) (nPg x.m), PgOk y ∧ 16384 + x.v ≤ y.b ∧ y.b + 256 ≤ 16384 + x.v + 256 * (nPg x.m : Int) := by
    intro y hy
    unfold zPgs at hy
    obtain ⟨k, hk, rfl⟩ := List.mem_map.1 hy
    have hk := List.mem_range.1 hk
    refine ⟨⟨?_, ?_, ?_, ?_, ?_, zeros_size⟩, ?_, ?_⟩
    · simp only; omega
    · simp only; omega
    · simp only; omega
    · simp only; unfold permOf; split <;> (try split) <;> omega
    · simp only; unfold permOf; split <;> (try split) <;> omega
    · simp only; omega
    · simp only; omega
  have hzr : Rise (zPgs (16384 + x.v) (permOf x.f) (nPg x.m)) := by
    unfold zPgs Rise
    rw [List.pairwise_map]
    exact List.pairwise_lt_range.imp (fun h => by simp only; omega)
  have hho : ∀ y ∈ headPgs, PgOk y := by
    intro y hy
    simp only [headPgs, List.mem_cons, List.not_mem_nil, or_false] at hy
    rcases hy with rfl | rfl
    · exact ⟨by decide, by decide, by decide, by decide, by decide, prvT_size⟩
    · exact ⟨by decide, by decide, by decide, by decide, by decide, haltT_size _⟩
  have hto : ∀ y ∈ tailPgs, PgOk y := by
    intro y hy
    simp only [tailPgs, List.mem_cons, List.not_mem_nil, or_false] at hy
    rcases hy with rfl | rfl | rfl
    · exact ⟨by decide, by decide, by decide, by decide, by decide, zeros_size⟩
    · exact ⟨by decide, by decide, by decide, by decide, by decide, zeros_size⟩
    · exact ⟨by decide, by decide, by decide, by decide, by decide, prvT_size⟩
  have hAr : Rise (headPgs ++ allSegs (l.take i)) := by
    refine rise_app (by simp [Rise, headPgs]) s2 (fun y hy z hz => ?_)
    simp only [headPgs, List.mem_cons, List.not_mem_nil, or_false] at hy
    have := (s1 z hz).2.1
    rcases hy with rfl | rfl
    · simp only; omega
    · simp only; omega
  refine ⟨q, m, f1, by omega, f3, hm, by omega, by omega, by omega, fun h => by have := f7 h; omega, g3, ?_, ?_, hA, hB, hlen, ?_⟩
  · unfold upN; omega
  · unfold upN wpN; omega
  · refine memOk_of (by unfold cat3; simp only [List.length_append, zPgs_len] at hlen ⊢; omega) ?_ ?_
    · intro y hy
      unfold cat3 at hy
      rcases List.mem_append.1 hy with hy | hy
      · rcases List.mem_append.1 hy with hy | hy
        · rcases List.mem_append.1 hy with hy | hy
          · exact hho y hy
          · exact (s1 y hy).1
        · exact (hzb y hy).1
      · exact hto y hy
    · unfold cat3
      refine rise_app (rise_app hAr hzr (fun y hy z hz => ?_)) (by simp [Rise, tailPgs]) (fun y hy z hz => ?_)
      · have := hA y hy; have := (hzb z hz).2.1; omega
      · have hz' := hB z hz
        rcases List.mem_append.1 hy with hy | hy
        · have := hA y hy; omega
        · have := (hzb y hy).2.2; omega
theorem imgTo_next {l : List Sg} {i : Nat} {x : Sg} (hx : l[i]? = some x) {u : List UInt8} (hu : segU x = u) : imgTo l (i + 1) = cat3 (headPgs ++ allSegs (l.take i)) (fPgs (16384 + x.v) (permOf x.f) u (nPg x.m)) tailPgs := by
  unfold imgTo cat3
  rw [allSegs_snoc hx, ← hu]
  simp [segPgs]
theorem imgTo_cat (l : List Sg) (i : Nat) : imgTo l i = cat3 (headPgs ++ allSegs (l.take i)) [] tailPgs := by simp [imgTo, cat3]
/-- the cells of a block that the call may write -/
def CellsAt (W : World) (b : Nat) (vs : List Value) : Prop := b < W.heap.size ∧ (∀ (k : Nat) v, vs[k]? = some v → W.cell? ⟨b, k, none⟩ = some v) ∧ ∀ k, W.frozen? ⟨b, k, none⟩ = false
theorem CellsAt.next {W W' : World} {b : Nat} {vs : List Value} (h : CellsAt W b vs) (hb : Below W.heap.size W W') : CellsAt W' b vs :=
  ⟨by have := hb.size; have := h.1; omega, fun k v hk => (hb.cell (p := ⟨b, k, none⟩) h.1).trans (h.2.1 k v hk), fun k => (hb.frozen (p := ⟨b, k, none⟩) h.1).trans (h.2.2 k)⟩
theorem CellsAt.other {W : World} {b c k : Nat} {u : Value} {vs : List Value} (h : CellsAt W b vs) (hne : c ≠ b) : CellsAt (W.setCell ⟨c, k, none⟩ u) b vs :=
  ⟨by simpa using h.1, fun j v hj => (cellOther (by simp [hne]) _).trans (h.2.1 j v hj), fun j => by rw [World.frozen?_setCell]; exact h.2.2 j⟩
theorem CellsAt.set {W : World} {b k : Nat} {u : Value} {vs : List Value} (h : CellsAt W b vs) : CellsAt (W.setCell ⟨b, k, none⟩ u) b (vs.set k u) := by
  refine ⟨by simpa using h.1, fun j v hj => ?_, fun j => by rw [World.frozen?_setCell]; exact h.2.2 j⟩
  rw [List.getElem?_set] at hj
  by_cases e : k = j
  · subst e
    rw [if_pos rfl] at hj
    split at hj
    · rename_i hk
      cases hj
      exact cellSame (h.2.1 k _ (List.getElem?_eq_getElem hk)) _
    · cases hj
  · rw [if_neg e] at hj
    exact (cellOther (by simp [e]) _).trans (h.2.1 j v hj)
theorem CellsAt.far {W W' : World} {b : Nat} {vs : List Value} {row : Option Nat} (h : CellsAt W b vs) (hg : W.grownBy W' row) (hne : some b ≠ row) : CellsAt W' b vs :=
  ⟨by have := h.1; have := hg.size; omega, fun k v hk => (hg.cell_far ⟨b, k, none⟩ h.1 hne).trans (h.2.1 k v hk), fun k => (hg.frozen_far ⟨b, k, none⟩ h.1 hne).trans (h.2.2 k)⟩
theorem CellsAt.of_block {W : World} {b : Nat} {cs : Array Value} {t : TypeId} (h : W.heap[b]? = some (.cells cs t (0, 0))) : CellsAt W b cs.toList :=
  ⟨(Array.getElem?_eq_some_iff.1 h).1, fun k v hk => by rw [cell_of_row W b k cs t _ h]; simpa using hk, fun k => by simp [World.frozen?, h]⟩
end Go.Proofs.YtcchcinnjahghaaDoor
