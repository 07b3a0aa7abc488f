/-
  What SameMemory of impl answers of two memories that are alike, whatever their pages; conditions: those in each head.
-/
import Derived.Test.YtlijjbdhoooamaaDoorWalkSame
import Derived.Test.YtlijjbdhoooamaaDoorMathLaid
namespace Go.Proofs.YtlijjbdhoooamaaDoor
open Go.RowKit
set_option linter.unusedVariables false
set_option linter.unusedSimpArgs false
set_option maxHeartbeats 1000000 in
theorem equalNil (p q : Option Addr) (c1 c2 : Nat) (w : World) :
    Calls Tryd.prog 28 #[.slice p 0 c1, .slice q 0 c2] w fun e w' => e = .returned (.bool true) ∧ ∃ m, w' = w.drewN m := by
  go_enter Tryd.func28, Tryd.ntmps28
  go_wp2
  refine wp_loop_rounds 1 ?_
  rw [rounds_succ]
  go_wp2
  go_ret
  exact ⟨rfl, 0, rfl⟩
theorem memOk_nil : MemOk [] := ⟨by simp, fun k x e => by simp at e, fun k x y e => by simp at e⟩
set_option maxHeartbeats 1000000 in
theorem sameNil (p q : Option Addr) (c1 c2 : Nat) (w : World) (hp : Ad p) :
    Calls Tryd.prog 10 #[.agg #[.slice p 0 c1], .agg #[.slice q 0 c2]] w fun e w' => e = .returned (.bool true) ∧ Below w.heap.size w w' := by
  obtain ⟨W, hW⟩ : ∃ W, W = (w.alloc (.cells #[.slice p 0 c1] 25)).alloc (.cells #[.slice q 0 c2] 25) := ⟨_, rfl⟩
  have L0 : Hid (Below w.heap.size w W) := Lib.hid (by rw [hW]; go_grown)
  have hz1 : W.heap[w.heap.size]? = some (.cells #[.slice p 0 c1] 25 (0, 0)) := by rw [hW]; exact (Below.heap_alloc _ _ _ (by simp)).trans (heap_alloc_new w _)
  have hz2 : W.heap[w.heap.size + 1]? = some (.cells #[.slice q 0 c2] 25 (0, 0)) := by rw [hW]; simpa using heap_alloc_new (w.alloc (.cells #[.slice p 0 c1] 25)) (.cells #[.slice q 0 c2] 25)
  have Z1 := Lib.hid hz1; have Z2 := Lib.hid hz2
  have HW := Lib.hid hW
  have CM := Lib.hid (memOkC p c1 [] W hp ⟨by simp, fun k x e => by simp at e⟩ (fun k x e => by simp at e))
  have CE := Lib.hid (equalNil p q c1 c2)
  have hy := okB_yes memOk_nil
  rw [hy] at CM
  clear hW hz1 hz2 hy
  go_enter Tryd.func10, Tryd.ntmps10
  go_wp2_with fail
  rw [← HW.out]
  refine CM.out.mono ?_
  rintro e w1 ⟨rfl, hb1⟩
  have L1 := Lib.hid (bthen L0.out hb1)
  have x1 := cell_of_row _ _ 0 _ _ _ ((hb1.block _ (Array.getElem?_eq_some_iff.1 Z1.out).1).trans Z1.out)
  have y1 := cell_of_row _ _ 0 _ _ _ ((hb1.block _ (Array.getElem?_eq_some_iff.1 Z2.out).1).trans Z2.out)
  simp only [List.getElem?_toArray, List.getElem?_cons_zero] at x1 y1
  clear hb1
  go_wp2_with fail
  refine (CE.out _).mono ?_
  rintro e w2 ⟨rfl, m, rfl⟩
  go_wp2
  go_ret
  exact ⟨rfl, bthen L1.out (below_draw m)⟩
theorem sameR (p q : Option Addr) (c1 c2 : Nat) (l : List Pg) (w : World) (hs : Small l) (hm : MemOk l) (hp : Ad p) (hr : Rd w p l) (hr' : Rd w q l) :
    Calls Tryd.prog 10 #[.agg #[.slice p l.length c1], .agg #[.slice q l.length c2]] w fun e w' => e = .returned (.bool true) ∧ Below w.heap.size w w' := by
  cases l with
  | nil => exact sameNil p q c1 c2 w hp
  | cons x r =>
    obtain ⟨b, o, rfl, _⟩ := hr 0 x rfl
    obtain ⟨b', o', rfl, _⟩ := hr' 0 x rfl
    have := sameI b o c1 b' o' c2 (x :: r) (x :: r) w hs (by have := hs.1; omega) hr hr'
    rw [same2_yes hm, sameB_yes rfl] at this
    exact this
theorem wrB_hi {d t : ByteArray} {o n j : Nat} (ho : o + n ≤ d.size) (hn : n ≤ t.size) (hj : o + n ≤ j) : (wrB d o t n).data.toList[j]? = d.data.toList[j]? := by
  have hd := ba_len d
  have ht := ba_len t
  unfold wrB
  have e1 : (List.drop 0 (List.take o d.data.toList) ++ List.drop 0 (List.take n t.data.toList)).length = o + n := by
    simp only [List.length_append, List.length_drop, List.length_take, hd, ht]; omega
  rw [ba_app, ba_app, ba_cut, ba_cut, ba_cut, List.getElem?_append_right (by rw [e1]; exact hj), e1, List.getElem?_drop, show o + n + (j - (o + n)) = j from by omega, List.take_of_length_le (by omega)]
theorem LayR.keep_hi {perm : Int} {l : List Pg} {a : Int} {t : ByteArray} {l' : List Pg} (h : LayR perm l a t l' 0) (hm : MemOk l) {k : Nat} {x y : Pg} (hx : l[k]? = some x) (hy : l'[k]? = some y) {b : Int} (h1 : a + t.size ≤ b) (h2 : x.b ≤ b) :
    y.d.data.toList[(b - x.b).toNat]? = x.d.data.toList[(b - x.b).toNat]? := by
  generalize hc : (0 : Int) = c at h
  induction h generalizing x with
  | done l a t h => rw [hx] at hy; cases hy; rfl
  | fail l a t l' c h hcc => have := code_pos hcc; omega
  | step l a t k0 x0 l' c ht hh hal _ ih =>
    have hs := shape_set hm hh ht
    have hb := much_bounds hh ht
    have hkl := (List.getElem?_eq_some_iff.1 hx).1
    have hcs := cut_size t (much x0 a t)
    by_cases e : k0 = k
    · subst e
      obtain rfl : x0 = x := by have h := hh.1; rw [hx] at h; exact (Option.some.inj h).symm
      have hi := ih (hs.ok hm) (x := ⟨x0.b, x0.p, wrB x0.d (a - x0.b).toNat t (much x0 a t)⟩) (by rw [List.getElem?_set, if_pos rfl, if_pos hkl]) hy (by omega) h2 hc
      refine hi.trans ?_
      show (wrB x0.d (a - x0.b).toNat t (much x0 a t)).data.toList[(b - x0.b).toNat]? = x0.d.data.toList[(b - x0.b).toNat]?
      have hd := (hm.2.1 k0 x0 hx).2.2.2.2.2
      have h3 := hh.2
      exact wrB_hi (by omega) (by omega) (by omega)
    · exact ih (hs.ok hm) (x := x) (by rw [List.getElem?_set, if_neg e]; exact hx) hy (by omega) h2 hc
end Go.Proofs.YtlijjbdhoooamaaDoor
