/-
  What impl.SameMemory and spec.SameMemory do: they tell whether two memories are right and alike, changing nothing that was there; conditions: those in each head.
-/
import Derived.Test.YtlijjbdhoooamaaDoorLawMem
import Derived.Laws.StructEq
namespace Go.Proofs.YtlijjbdhoooamaaDoor
open Go.RowKit Go.Sort
def eqPg (x y : Pg) : Bool := x.b == y.b && x.p == y.p && x.d.toList == y.d.toList
instance : Inhabited Pg := ⟨⟨0, 0, ⟨#[]⟩⟩⟩
theorem neqPg : NeqAt Tryd.prog 38 (fun x => .agg (pv x).toArray) eqPg := by
  refine ⟨fun x y w => ?_, GuardAt.agg _ (by kernel_rfl)⟩
  have u3 := Tryd.underlying3
  have a3 := Tryd.isAgg3
  have z3 := Tryd.sizeOf3
  have u9 := Tryd.underlying9
  have a9 := Tryd.isAgg9
  have z9 := Tryd.sizeOf9
  have hS : Tryd.prog.underlying 38 = some (.struct (Tryd.prog.fieldsOf 38)) := by kernel_rfl
  have hp : Tryd.prog.stoodInHeld 38 = false := by kernel_rfl
  simp only [pv]
  rw [run_neq_struct, show (10000 : Nat) = 9999 + 1 from rfl, run_equalIn_agg w 9999 38 _ _ hS hp]
  simp only [Program.fieldsOf, Tryd.underlying38]
  go_simp
  by_cases h1 : x.b = y.b <;> by_cases h2 : x.p = y.p <;> by_cases h3 : x.d.toList = y.d.toList <;> simp [h1, h2, h3, eqPg]
theorem eqPg_iff (x y : Pg) : eqPg x y = true ↔ x = y := by
  unfold eqPg
  simp only [Bool.and_eq_true, beq_iff_eq]
  constructor
  · rintro ⟨⟨h1, h2⟩, h3⟩
    rw [ByteArray.toList_eq, ByteArray.toList_eq] at h3
    have := WideShapes.bytes_inj h3
    cases x; cases y; simp_all
  · rintro rfl; exact ⟨⟨rfl, rfl⟩, rfl⟩
noncomputable def sameB (a b : List Pg) : Bool := @decide (a = b) (Classical.propDecidable _)
theorem sameB_yes {a b : List Pg} (h : a = b) : sameB a b = true := by unfold sameB; exact @decide_eq_true _ (Classical.propDecidable _) h
theorem sameB_no {a b : List Pg} (h : ¬ a = b) : sameB a b = false := by unfold sameB; exact @decide_eq_false _ (Classical.propDecidable _) h
theorem getB {l : List Pg} {k : Nat} {x : Pg} (h : l[k]? = some x) : l[k]! = x := by rw [List.getElem!_eq_getElem?_getD, h]; rfl
theorem allEq_same (a b : List Pg) : Lib.allEq eqPg a b = sameB a b := by
  by_cases h : a = b
  · subst h
    rw [sameB_yes rfl]
    exact Lib.allEq_all eqPg a a rfl fun j hj => (eqPg_iff _ _).2 rfl
  · rw [sameB_no h]
    by_cases hl : a.length = b.length
    · obtain ⟨k, hk, hne⟩ : ∃ k, k < a.length ∧ a[k]? ≠ b[k]? := by
        apply Classical.byContradiction
        intro hno
        apply h
        apply List.ext_getElem?
        intro i
        by_cases hi : i < a.length
        · apply Classical.byContradiction
          intro hx
          exact hno ⟨i, hi, hx⟩
        · rw [List.getElem?_eq_none (by omega), List.getElem?_eq_none (by omega)]
      refine Lib.allEq_elem eqPg a b k hk (by omega) ?_
      cases he : eqPg a[k]! b[k]! with
      | false => rfl
      | true =>
        have e := (eqPg_iff _ _).1 he
        rw [getB (List.getElem?_eq_getElem hk), getB (List.getElem?_eq_getElem (show k < b.length by omega))] at e
        rw [List.getElem?_eq_getElem hk, List.getElem?_eq_getElem (by omega), e] at hne
        exact absurd rfl hne
    · exact Lib.allEq_len eqPg a b hl
theorem Rd.cells3 {w : World} {b off : Nat} {l : List Pg} (h : Rd w (some ⟨b, off, none⟩) l) : ∀ j, j < l.length → ∀ i v, (pv l[j]!)[i]? = some v → w.cell? ⟨b, off + j * 3 + i, none⟩ = some v := by
  intro j hj i v hv
  have hx := List.getElem?_eq_getElem hj
  rw [getB hx] at hv
  obtain ⟨b', o', e, _, a0, a1, a2⟩ := h j _ hx
  cases e
  have hi : i < 3 := (List.getElem?_eq_some_iff.1 hv).1
  rcases (show i = 0 ∨ i = 1 ∨ i = 2 by omega) with rfl | rfl | rfl
  · cases hv; exact a0
  · cases hv; exact a1
  · cases hv; exact a2
theorem equalC (b1 o1 c1 b2 o2 c2 : Nat) (l l' : List Pg) (w : World) (hn : l.length ≤ 9223372036854775807) (hn' : l'.length ≤ 9223372036854775807) (hr : Rd w (some ⟨b1, o1, none⟩) l) (hr' : Rd w (some ⟨b2, o2, none⟩) l') :
    Calls Tryd.prog 28 #[.slice (some ⟨b1, o1, none⟩) l.length c1, .slice (some ⟨b2, o2, none⟩) l'.length c2] w fun e w' => e = .returned (.bool (sameB l l')) ∧ ∃ m, w' = w.drewN m := by
  have h := AnyQ.slices_Equal Tryd.layEqual 3 Tryd.isAgg38 Tryd.sizeOf38 pv pv_len eqPg neqPg b1 o1 l.length c1 b2 o2 l'.length c2 l l' w (Nat.le_refl _) (Nat.le_refl _) hn hn' hr.cells3 hr'.cells3
  rw [List.take_length, List.take_length, allEq_same] at h
  exact h
noncomputable def same2 (a b : List Pg) : Bool := okB a && sameB a b
theorem same2_no {a b : List Pg} (h : ¬ MemOk a) : same2 a b = false := by unfold same2; rw [okB_no h]; rfl
theorem same2_yes {a b : List Pg} (h : MemOk a) : same2 a b = sameB a b := by unfold same2; rw [okB_yes h]; rfl
set_option maxHeartbeats 1000000 in
theorem sameI (b1 o1 c1 b2 o2 c2 : Nat) (l l' : List Pg) (w : World) (hs : Small l) (hn' : l'.length ≤ 9223372036854775807) (hr : Rd w (some ⟨b1, o1, none⟩) l) (hr' : Rd w (some ⟨b2, o2, none⟩) l') :
    Calls Tryd.prog 10 #[.agg #[.slice (some ⟨b1, o1, none⟩) l.length c1], .agg #[.slice (some ⟨b2, o2, none⟩) l'.length c2]] w fun e w' => e = .returned (.bool (same2 l l')) ∧ Below w.heap.size w w' := by
  obtain ⟨W, hW⟩ : ∃ W, W = (w.alloc (.cells #[.slice (some ⟨b1, o1, none⟩) l.length c1] 25)).alloc (.cells #[.slice (some ⟨b2, o2, none⟩) l'.length c2] 25) := ⟨_, rfl⟩
  have L0 : Hid (Below w.heap.size w W) := Lib.hid (by rw [hW]; go_grown)
  have A0 : Hid (Bx W w.heap.size (some ⟨b1, o1, none⟩) c1 l) := Lib.hid (by rw [hW]; exact (Bx.new _ hr).next (below1 _ _))
  have B0 : Hid (Bx W (w.heap.size + 1) (some ⟨b2, o2, none⟩) c2 l') := Lib.hid (by rw [hW]; have := Bx.new (w := w.alloc (.cells #[.slice (some ⟨b1, o1, none⟩) l.length c1] 25)) (c := c2) 25 (hr'.below (below1 w _)); simpa using this)
  have HW := Lib.hid hW; have HS := Lib.hid hs
  clear hr hr' hW hs
  go_enter Tryd.func10, Tryd.ntmps10
  go_wp2_with fail
  rw [← HW.out]
  refine (memOkC _ c1 l W (.inr ⟨b1, o1, rfl⟩) HS.out A0.out.2.2).mono ?_
  rintro e w1 ⟨rfl, hb1⟩
  have L1 := Lib.hid (bthen L0.out hb1); have A1 := Lib.hid (A0.out.next hb1); have B1 := Lib.hid (B0.out.next hb1)
  have x1 := A1.out.2.1; have y1 := B1.out.2.1
  clear hb1
  by_cases hm : MemOk l
  · have hy := okB_yes hm
    have HM := Lib.hid hm
    clear hm
    go_wp2_with fail
    refine (equalC b1 o1 c1 b2 o2 c2 l l' w1 (by have := HS.out.1; omega) hn' A1.out.2.2 B1.out.2.2).mono ?_
    rintro e w2 ⟨rfl, m, rfl⟩
    go_wp2
    go_ret
    exact ⟨ret_b (same2_yes HM.out).symm, bthen L1.out (below_draw m)⟩
  · have hn := okB_no hm
    have HM := Lib.hid hm
    clear hm
    go_wp2
    go_ret
    exact ⟨ret_b (same2_no HM.out).symm, L1.out⟩
end Go.Proofs.YtlijjbdhoooamaaDoor
