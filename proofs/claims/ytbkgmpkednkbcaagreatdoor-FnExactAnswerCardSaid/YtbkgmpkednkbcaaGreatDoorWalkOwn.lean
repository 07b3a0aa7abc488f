/-
  What impl.asItWas, spec.l02Own and the table's memory do: each answers a memory in new memory of its own, changing nothing that was there; conditions: those in each head.
-/
import Derived.Test.YtbkgmpkednkbcaaGreatDoorWalkReach
namespace Go.Proofs.YtbkgmpkednkbcaaGreatDoor
open Go.RowKit Go.Sort
/-- block b is a new variable of type Memory, nothing in it -/
def Cz (W : World) (b : Nat) : Prop := W.heap[b]? = some (.cells #[.slice none 0 0] 34 (0, 0))
theorem Cz.next {W W' : World} {b : Nat} (h : Cz W b) (hb : Below W.heap.size W W') : Cz W' b := (hb.block b (lt_of_block h)).trans h
/-- a memory in memory of its own -/
def Owns (W : World) (B : Nat) (p : Option Addr) (cap : Nat) (l : List Pg) : Prop := W.ownsRow B 86 3 (.slice p l.length cap) l.length (PV l)
theorem owns_nil (W : World) (B : Nat) : Owns W B none 0 [] := World.ownsRow_nil _ _ _ _
theorem Owns.other {W : World} {B : Nat} {p : Option Addr} {cap : Nat} {l : List Pg} (h : Owns W B p cap l) {b : Nat} (hb : b < B) (o : Nat) (v : Value) : Owns (W.setCell ⟨b, o, none⟩ v) B p cap l :=
  ownsRow_setCell_other h (fun e => by have := (h.lt _ e).1; simp at this; omega) _
set_option maxHeartbeats 400000 in
theorem asItWasC (p : Option Addr) (cap : Nat) (l : List Pg) (w : World) (hp : Ad p) (hs : Small l) (hr : Rd w p l) :
    Calls Tryz.prog 40 #[.agg #[.slice p l.length cap]] w fun e w' => ∃ p' cap', e = .returned (.agg #[.slice p' l.length cap']) ∧ Owns w' w.heap.size p' cap' l ∧ Below w.heap.size w w' := by
  obtain ⟨W, hW⟩ : ∃ W, W = (w.alloc (.cells #[.slice p l.length cap] 34)).alloc (.cells #[.slice none 0 0] 34) := ⟨_, rfl⟩
  have hWs : W.heap.size = w.heap.size + 1 + 1 := by rw [hW]; simp
  have L0 : Hid (Below w.heap.size w W) := Lib.hid (by rw [hW]; go_grown)
  have Z0 : Hid (Cz W (w.heap.size + 1)) := Lib.hid (by rw [hW]; unfold Cz; have := heap_alloc_new (w.alloc (.cells #[.slice p l.length cap] 34)) (.cells #[.slice none 0 0] 34); simpa using this)
  have C := Lib.hid (cloneC p l.length cap l W hp rfl hs.1 (hr.below L0.out))
  have HW := Lib.hid hW; have HWS := Lib.hid hWs
  clear hr hs hp hW hWs
  go_enter Tryz.func40, Tryz.ntmps40
  go_wp2_with fail
  rw [← HW.out]
  refine (C.out).mono ?_
  rintro e w1 ⟨p', cap', rfl, ho, b1⟩
  have L1 := Lib.hid (bthen L0.out b1); have Z1 := Z0.out.next b1
  have c1 := cell_of_one Z1; have f1 := free_of_one Z1
  have r1 (v : Value) := cellSame c1 v
  have HO1 : Hid (Owns w1 W.heap.size p' cap' l) := Lib.hid ho
  clear ho b1 Z1
  go_wp2
  refine bodyPost_ret (v := .agg #[.slice p' l.length cap']) (by simp [results, Tryz.results40, go_sem, r1]) rfl ?_
  have hs := HWS.out
  exact ⟨_, _, rfl, Joins.ownsRow_le (HO1.out.other (b := w.heap.size + 1) (by omega) 0 _) (by omega), L1.out.setCell (by simp) _⟩
theorem owns_rd {W : World} {B : Nat} {p : Option Addr} {cap : Nat} {l : List Pg} (h : Owns W B p cap l) : Rd W p l := Rd.of_own h
theorem form_ne {w : World} {base size n : Nat} {e : TypeId} {v : Value} {xs : List Value} (h : w.ownsRow base e size v n xs) (hne : v ≠ .slice none 0 0) : ∃ g cap, v = .slice (some ⟨g, 0, none⟩) n cap := by
  rcases Joins.ownsRow_forms h with ⟨h1, _⟩ | h2
  · exact absurd h1 hne
  · exact h2
set_option maxHeartbeats 400000 in
theorem l02OwnC (b off cap : Nat) (l : List Pg) (w : World) (hs : l.length ≤ 1048576) (hr : Rd w (some ⟨b, off, none⟩) l) :
    Calls Tryz.prog 31 #[.agg #[.slice (some ⟨b, off, none⟩) l.length cap]] w fun e w' => ∃ g' cap', e = .returned (.agg #[.slice (some ⟨g', 0, none⟩) l.length cap']) ∧ Owns w' w.heap.size (some ⟨g', 0, none⟩) cap' l ∧ Below w.heap.size w w' := by
  obtain ⟨i0, hi, hz0, hz1, hz2⟩ := info_parts infoP
  obtain ⟨W, hW⟩ : ∃ W, W = (w.alloc (.cells #[.slice (some ⟨b, off, none⟩) l.length cap] 34)).alloc (.cells #[.slice none 0 0] 34) := ⟨_, rfl⟩
  have hWs : W.heap.size = w.heap.size + 1 + 1 := by rw [hW]; simp
  have L0 : Hid (Below w.heap.size w W) := Lib.hid (by rw [hW]; go_grown)
  have Z0 : Hid (Cz W (w.heap.size + 1)) := Lib.hid (by rw [hW]; unfold Cz; have := heap_alloc_new (w.alloc (.cells #[.slice (some ⟨b, off, none⟩) l.length cap] 34)) (.cells #[.slice none 0 0] 34); simpa using this)
  have hnews : ∀ j u, (PV l)[j]? = some u → (W.alloc (.cells #[] 86)).cell? ((⟨b, off, none⟩ : Addr).add j) = some u := by
    intro j u hj
    obtain ⟨x, hx, hu⟩ := PV_of hj
    obtain ⟨b', off', e1, h0, a0, a1, a2⟩ := ((hr.below L0.out).below (below1 W (.cells #[] 86))) _ x hx
    cases e1
    have ea : (⟨b, off, none⟩ : Addr).add j = ⟨b, off + j, none⟩ := by unfold Addr.add; split <;> simp_all
    rw [ea]
    rcases (show j % 3 = 0 ∨ j % 3 = 1 ∨ j % 3 = 2 by omega) with e | e | e
    · rw [e] at hu; cases hu; rw [show off + j = off + j / 3 * 3 by omega]; exact a0
    · rw [e] at hu; cases hu; rw [show off + j = off + j / 3 * 3 + 1 by omega]; exact a1
    · rw [e] at hu; cases hu; rw [show off + j = off + j / 3 * 3 + 2 by omega]; exact a2
  have own0 := World.ownsRow_made (e := 86) (size := 3) (base := W.heap.size) W #[] 0 (Nat.le_refl _) (Nat.zero_le _) rfl
  rw [hW] at hnews
  have hWs' := hWs
  rw [hWs] at own0
  rw [hW] at own0
  have HN := Lib.hid hnews; have OW := Lib.hid own0
  have ze := Z0.out
  unfold Cz at ze
  rw [hW] at ze
  have ZE := Lib.hid ze
  clear ze
  have HW := Lib.hid hW; have HWS := Lib.hid hWs
  have hm1 : 0 + l.length ≤ maxLen := by unfold maxLen; omega
  have hb1 : (0 + l.length) * 32 ≤ 140737488355328 := by omega
  have hpl := PV_len l
  have HPL := Lib.hid hpl
  clear hr hW hWs hnews own0 hWs' hpl
  go_enter Tryz.func31, Tryz.ntmps31
  go_wp2_with (at_builtin; refine wpList_append_own _ rfl _ _ 32 rfl (w.heap.size + 1 + 1) 86 i0 _ 3 32 Tryz.underlying32 hi hz0 hz1 hz2 rfl (by decide) _ _ _ rfl OW.out ⟨b, off, none⟩ l.length cap (PV l) rfl HPL.out HN.out (PV_one l) hm1 hb1 (by simp) ?_; intro v' w1 hown hgrow hnil; obtain ⟨g', c', rfl⟩ := form_ne hown (fun e => by have := (hnil.1 e).1; simp [Act.eval] at this); have z1 : Cz w1 (w.heap.size + 1) := (hgrow.block _ (by simp) (by simp [Value.ownBlock, Act.eval])).trans ((Below.heap_alloc _ _ _ (lt_of_block ZE.out)).trans ZE.out); have c1 := cell_of_one z1; have f1 := free_of_one z1; have HG := Lib.hid hgrow; have HO := Lib.hid hown; clear hgrow hown hnil z1)
  have r1 (v : Value) := cellSame c1 v
  refine bodyPost_ret (v := .agg #[.slice (some ⟨g', 0, none⟩) l.length c']) (by simp [results, Tryz.results31, go_sem, r1]) rfl ?_
  have ho := HO.out
  simp only [Nat.zero_add, List.nil_append] at ho
  have ho' : Owns w1 (w.heap.size + 1 + 1) (some ⟨g', 0, none⟩) c' l := ho
  refine ⟨_, _, rfl, Joins.ownsRow_le (ho'.other (b := w.heap.size + 1) (by omega) 0 _) (by omega), ?_⟩
  refine Below.setCell (Below.grown ?_ HG.out (by simp; omega) (by intro k hk; simp [Value.ownBlock, Act.eval] at hk; omega)) (by simp) _
  go_grown
/-- the table's pointers lead to the pages of l, wherever these lie -/
def Ptrs (w : World) (q : Option Addr) (l : List Pg) : Prop := ∀ (k : Nat) x, l[k]? = some x → ∃ h ab ao, q = some ⟨h, 0, none⟩ ∧ h < w.heap.size ∧ ab < w.heap.size ∧ w.cell? ⟨h, k, none⟩ = some (.pointer (some ⟨ab, ao, none⟩)) ∧ w.cell? ⟨ab, ao, none⟩ = some (.int .i64 x.b) ∧ w.cell? ⟨ab, ao + 1, none⟩ = some (.int .i64 x.p) ∧ w.cell? ⟨ab, ao + 2, none⟩ = some (.string x.d)
theorem Ptrs.below {w w' : World} {q : Option Addr} {l : List Pg} (h : Ptrs w q l) (hb : Below w.heap.size w w') : Ptrs w' q l := by
  intro k x hk
  obtain ⟨a, ab, ao, rfl, h0, h1, h2, h3, h4, h5⟩ := h k x hk
  have hs := hb.size
  exact ⟨a, ab, ao, rfl, by omega, by omega, (hb.cell (p := ⟨a, _, none⟩) h0).trans h2, (hb.cell (p := ⟨ab, _, none⟩) h1).trans h3, (hb.cell (p := ⟨ab, _, none⟩) h1).trans h4, (hb.cell (p := ⟨ab, _, none⟩) h1).trans h5⟩
theorem Tab.ptrs {w : World} {q : Option Addr} {g : Nat} {l : List Pg} (h : Tab w q g l) : Ptrs w q l := by
  intro k x hk
  obtain ⟨a, rfl, h0, h1, h2, h3, h4, h5⟩ := h k x hk
  exact ⟨a, g, _, rfl, h0, h1, h2, h3, h4, h5⟩
theorem newsPg (w : World) (x : Pg) (t : TypeId) (j : Nat) (u : Value) (h : (pv x)[j]? = some u) :
    (w.alloc (.cells #[.int .i64 x.b, .int .i64 x.p, .string x.d] t)).cell? ((⟨w.heap.size, 0, none⟩ : Addr).add j) = some u :=
  World.news_of_block (w := w.alloc (.cells #[.int .i64 x.b, .int .i64 x.p, .string x.d] t)) (heap_alloc_new w _) j u (by simpa [pv] using h)
theorem take_snocP {l : List Pg} {k : Nat} {x : Pg} (h : l[k]? = some x) : PV (l.take k) ++ pv x = PV (l.take (k + 1)) := by
  have hk := (List.getElem?_eq_some_iff.1 h).1
  have he := (List.getElem?_eq_some_iff.1 h).2
  rw [List.take_succ_eq_append_getElem hk, PV_app, he]
  simp [PV, pv]
theorem pv_one (x : Pg) : ∀ u ∈ pv x, u.oneCell' = true := by
  intro u hu; simp only [pv, List.mem_cons, List.not_mem_nil, or_false] at hu
  rcases hu with rfl | rfl | rfl <;> rfl
/-- the memory while it is filled: the result's block, the variable's block -/
def MI (w wr : World) (l : List Pg) (k : Nat) (p : Option Addr) (c : Nat) : Prop :=
  Cz wr w.heap.size ∧ wr.heap[w.heap.size + 1]? = some (.cells #[.slice p k c] 34 (0, 0)) ∧ wr.ownsRow (w.heap.size + 1 + 1) 86 3 (.slice p k c) k (PV (l.take k)) ∧ Below w.heap.size w wr
theorem MI.step {w wr w1 : World} {l : List Pg} {k : Nat} {p : Option Addr} {c : Nat} {o : Obj} {g' cap' : Nat} {x : Pg} (h : MI w wr l k p c) (hx : l[k]? = some x) (hown1 : w1.ownsRow (w.heap.size + 1 + 1) 86 3 (.slice (some ⟨g', 0, none⟩) (k + 1) cap') (k + 1) (PV (l.take k) ++ pv x)) (hgrow : (wr.drew.alloc o).grownBy w1 (Value.slice p k c).ownBlock) :
    MI w (w1.setCell ⟨w.heap.size + 1, 0, none⟩ (.slice (some ⟨g', 0, none⟩) (k + 1) cap')) l (k + 1) (some ⟨g', 0, none⟩) cap' := by
  obtain ⟨h1, h2, h3, h5⟩ := h
  have hq : ∀ j, (Value.slice p k c).ownBlock = some j → w.heap.size + 1 + 1 ≤ j := fun j hj => (h3.lt j hj).1
  have l1 := lt_of_block h1
  have l2 := lt_of_block h2
  have tr (b : Nat) (hb : b < wr.heap.size) (hne : (Value.slice p k c).ownBlock ≠ some b) : w1.heap[b]? = wr.heap[b]? :=
    (hgrow.block b (by simp; omega) (fun e => hne e.symm)).trans (Below.heap_alloc wr.drew o b hb)
  have g1 : (Value.slice (some ⟨g', 0, none⟩) (k + 1) cap').ownBlock ≠ some (w.heap.size + 1) := by
    intro e; have := (hown1.lt _ e).1; omega
  refine ⟨?_, ?_, ?_, ?_⟩
  · unfold Cz; rw [Below.heap_setCell _ _ _ _ (by simp), tr _ l1 (fun e => by have := hq _ e; omega)]; exact h1
  · exact one_setCell ((tr _ l2 (fun e => by have := hq _ e; omega)).trans h2)
  · rw [← take_snocP hx]; exact ownsRow_setCell_other hown1 g1 _
  · exact (h5.trans ⟨hgrow.os, hgrow.tape, hgrow.output, by have := hgrow.size; simp at this; omega, fun b hb => tr b (by omega) (fun e => by have := hq _ e; omega)⟩).setCell (by simp) _
set_option maxHeartbeats 1000000 in
theorem memC (B0 c : Nat) (q : Option Addr) (l : List Pg) (w : World) (hn : l.length ≤ 64) (hB : w.cell? ⟨B0, 0, none⟩ = some (.slice q l.length c)) (hB0 : B0 < w.heap.size) (hp : Ptrs w q l) :
    Calls Tryz.prog 116 #[.pointer (some ⟨B0, 0, none⟩)] w fun e w' => ∃ p' cap', e = .returned (.agg #[.slice p' l.length cap']) ∧ Owns w' w.heap.size p' cap' l ∧ Below w.heap.size w w' := by
  have hm := mixed
  obtain ⟨i0, hi, hz0, hz1, hz2⟩ := info_parts infoP
  obtain ⟨W, hW⟩ : ∃ W, W = (w.alloc (.cells #[.slice none 0 0] 34)).alloc (.cells #[.slice none 0 0] 34) := ⟨_, rfl⟩
  have HI0 : Hid (MI w W l 0 none 0) := Lib.hid (by
    rw [hW]
    refine ⟨?_, ?_, World.ownsRow_nil _ _ _ _, by go_grown⟩
    · exact (Below.heap_alloc _ _ _ (by simp)).trans (heap_alloc_new w _)
    · have := heap_alloc_new (w.alloc (.cells #[.slice none 0 0] 34)) (.cells #[.slice none 0 0] 34); simpa using this)
  have HW := Lib.hid hW; have HP := Lib.hid hp
  clear hW hp
  go_enter Tryz.func116, Tryz.ntmps116
  go_wp2
  rw [← HW.out]
  go_loopw [12] (fun i wr => ∃ k : Nat, k ≤ l.length ∧ i = .int .i64 k ∧ ∃ p c', Hid (MI w wr l k p c')) (fun i _ => l.length - (intOf i).toNat)
  case atStart => exact ⟨0, Nat.zero_le _, rfl, none, 0, HI0⟩
  case round =>
    obtain ⟨k, hk, rfl, p, c', HI⟩ := hrel
    obtain ⟨h1, h2, h3, h5⟩ := HI.out
    by_cases hlt : k < l.length
    · obtain ⟨x, hx⟩ : ∃ x, l[k]? = some x := ⟨_, List.getElem?_eq_getElem hlt⟩
      obtain ⟨h, ab, ao, rfl, q0, q1, a0, a1, a2, a3⟩ := (HP.out.below h5) k x hx
      have HX := Lib.hid hx
      have cT := cell_of_one h2
      have l2 := lt_of_block h2
      have hq : ∀ j, (Value.slice p k c').ownBlock = some j → w.heap.size + 1 + 1 ≤ j := fun j hj => (h3.lt j hj).1
      have HQ := Lib.hid hq
      have hm1 : k + 1 ≤ maxLen := by unfold maxLen; omega
      have hb1 : (k + 1) * 32 ≤ 140737488355328 := by omega
      have hsz := h5.size
      have H2 := Lib.hid h2; have H3 := Lib.hid h3
      clear hx h1 h2 h3 h5 hq
      go_wp2
      go_region_law ((refine step_append_lies _ (by rfl) _ _ _ (by rfl) (w.heap.size + 1 + 1) 86 i0 _ 3 32 Tryz.underlying32 hi hz0 hz1 hz2 rfl (by omega) _ k (PV (l.take k)) (by rfl) (((H3.out).drew).alloc _) ⟨wr.heap.size, 0, none⟩ 1 1 (pv x) (by rfl) (by rfl) (by exact newsPg _ _ _) (pv_one x) (by omega) hm1 hb1 (by simp; omega) (wr.heap.size + 1) (by simp) ?_; intro g' cap'' w2 hown1 hgrow hat hlt1; have hT1 : w2.heap[w.heap.size + 1]? = some (.cells #[.slice p k c'] 34 (0, 0)) := (hgrow.block _ (by simp; omega) (fun e => by have := HQ.out _ e.symm; omega)).trans ((Below.heap_alloc _ _ _ l2).trans H2.out); have cT1 := cell_of_one hT1; have fT1 := free_of_one hT1; have HO1 := Lib.hid hown1; have HG1 := Lib.hid hgrow; clear hT1 hown1 hgrow hat))
      all_goals go_wp2
      all_goals go_roundw
      all_goals first | exact ⟨k + 1, by omega, by go_num, _, _, Lib.hid (MI.step HI.out HX.out HO1.out HG1.out)⟩ | (simp [intOf]; omega)
    · obtain rfl : k = l.length := by omega
      have cT := cell_of_one h2
      have cR := cell_of_one h1; have fR := free_of_one h1
      have r1 (v : Value) := cellSame cR v
      have H3 := Lib.hid h3; have H5 := Lib.hid h5
      clear h1 h2 h3 h5
      go_wp2
      refine bodyPost_ret (v := .agg #[.slice p l.length c']) (by simp [results, Tryz.results116, go_sem, r1]) rfl ?_
      have ho := H3.out
      rw [List.take_length] at ho
      have ho' : Owns wr (w.heap.size + 1 + 1) p c' l := ho
      exact ⟨_, _, rfl, Joins.ownsRow_le (ho'.other (b := w.heap.size) (by omega) 0 _) (by omega), H5.out.setCell (Nat.le_refl _) _⟩
end Go.Proofs.YtbkgmpkednkbcaaGreatDoor
