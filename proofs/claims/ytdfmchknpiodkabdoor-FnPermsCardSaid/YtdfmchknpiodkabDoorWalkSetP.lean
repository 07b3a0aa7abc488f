/-
  What impl.SetPerm and spec.SetPerm do: the memory with another Perm of one page, in new memory, and a code, changing nothing that was there; conditions: those in each head.
-/
import Derived.Test.YtdfmchknpiodkabDoorWalkOwn
import Derived.Test.YtdfmchknpiodkabDoorWalkFind
namespace Go.Proofs.YtdfmchknpiodkabDoor
open Go.RowKit Go.Sort
/-- what both SetPerm answer -/
def SetOut (l : List Pg) (base perm : Int) (l' : List Pg) (c : Int) : Prop :=
  (¬ MemOk l ∧ l' = [] ∧ c = 1) ∨ (MemOk l ∧ ¬ (BaseOk base ∧ PermOk perm) ∧ l' = [] ∧ c = 4) ∨ (MemOk l ∧ (BaseOk base ∧ PermOk perm) ∧ (∀ (k : Nat) x, l[k]? = some x → x.b ≠ base) ∧ l' = l ∧ c = 13) ∨ (MemOk l ∧ (BaseOk base ∧ PermOk perm) ∧ (∃ k x, l[k]? = some x ∧ x.b = base ∧ l' = l.set k ⟨x.b, perm, x.d⟩) ∧ c = 0)
theorem base_one {l : List Pg} (hm : MemOk l) {k j : Nat} {x y : Pg} (hk : l[k]? = some x) (hj : l[j]? = some y) (e : x.b = y.b) : k = j ∧ x = y := by
  have hkj : k = j := by
    rcases Nat.lt_trichotomy k j with h | h | h
    · have := hm.lt h hk hj; omega
    · exact h
    · have := hm.lt h hj hk; omega
  subst hkj
  rw [hk] at hj; cases hj; exact ⟨rfl, rfl⟩
theorem SetOut.one {l : List Pg} {base perm : Int} {l1 l2 : List Pg} {c1 c2 : Int} (h : SetOut l base perm l1 c1) (h' : SetOut l base perm l2 c2) : l1 = l2 ∧ c1 = c2 := by
  rcases h with ⟨h1, rfl, rfl⟩ | ⟨h1, h2, rfl, rfl⟩ | ⟨h1, h2, h3, rfl, rfl⟩ | ⟨h1, h2, ⟨k, x, hk, hb, rfl⟩, rfl⟩ <;> rcases h' with ⟨g1, rfl, rfl⟩ | ⟨g1, g2, rfl, rfl⟩ | ⟨g1, g2, g3, rfl, rfl⟩ | ⟨g1, g2, ⟨j, y, hj, hb', rfl⟩, rfl⟩ <;> first | exact ⟨rfl, rfl⟩ | exact absurd h1 g1 | exact absurd g1 h1 | exact absurd h2 g2 | exact absurd g2 h2 | exact absurd hb' (h3 _ _ hj) | exact absurd hb (g3 _ _ hk) | (obtain ⟨rfl, rfl⟩ := base_one h1 hk hj (by omega); exact ⟨rfl, rfl⟩)
theorem SetOut.small {l : List Pg} {base perm : Int} {l' : List Pg} {c : Int} (h : SetOut l base perm l' c) (hs : Small l) : Small l' := by
  rcases h with ⟨_, rfl, _⟩ | ⟨_, _, rfl, _⟩ | ⟨_, _, _, rfl, _⟩ | ⟨_, _, ⟨k, x, hk, _, rfl⟩, _⟩
  · exact ⟨by simp, fun k x hk => by simp at hk⟩
  · exact ⟨by simp, fun k x hk => by simp at hk⟩
  · exact hs
  · refine ⟨by simpa using hs.1, fun j y hj => ?_⟩
    rw [List.getElem?_set] at hj
    split at hj
    · split at hj
      · cases hj; exact hs.2 k x hk
      · cases hj
    · exact hs.2 j y hj
theorem PV_set1 {l : List Pg} {k : Nat} {x : Pg} (h : l[k]? = some x) (p : Int) : (PV l).set (k * 3 + 1) (.int .i64 p) = PV (l.set k ⟨x.b, p, x.d⟩) := by
  rw [← PV_set]
  have h0 := PV_at h 0 (by omega)
  have h2 := PV_at h 2 (by omega)
  have hl := PV_len l
  have hk := (List.getElem?_eq_some_iff.1 h).1
  apply List.ext_getElem?
  intro j
  simp only [List.getElem?_set, List.length_set]
  by_cases e0 : k * 3 = j
  · subst e0
    rw [if_neg (by omega), if_neg (by omega), if_neg (by omega), if_pos rfl, if_pos (by omega)]
    simpa [pv] using h0
  · by_cases e1 : k * 3 + 1 = j
    · subst e1; simp
    · by_cases e2 : k * 3 + 2 = j
      · subst e2
        rw [if_neg (by omega), if_pos rfl, if_pos (by omega)]
        simpa [pv] using h2
      · rw [if_neg e1, if_neg e2, if_neg e1, if_neg e0]
/-- box and result's block at the head of a call -/
theorem head2 (w : World) (v : Value) : Cz ((w.alloc (.cells #[v] 25)).alloc (.cells #[.slice none 0 0] 25)) (w.heap.size + 1) := by
  unfold Cz
  have := heap_alloc_new (w.alloc (.cells #[v] 25)) (.cells #[.slice none 0 0] 25)
  simpa using this
theorem head2_below (w : World) (v : Value) : Below w.heap.size w ((w.alloc (.cells #[v] 25)).alloc (.cells #[.slice none 0 0] 25)) := by go_grown
theorem head2_bx {w : World} {p : Option Addr} {l : List Pg} {cap : Nat} (hr : Rd w p l) : Bx ((w.alloc (.cells #[.slice p l.length cap] 25)).alloc (.cells #[.slice none 0 0] 25)) w.heap.size p cap l := (Bx.new _ hr).next (below1 _ _)
theorem TabOwn.below {W W' : World} {B : Nat} {q : Option Addr} {c g : Nat} {l : List Pg} (h : TabOwn W B q c g l) (hb : Below W.heap.size W W') : TabOwn W' B q c g l := by
  obtain ⟨h1, h2⟩ := h
  refine ⟨own_below h1 hb, ?_⟩
  rcases h2 with h2 | ⟨cap, h2⟩
  · exact .inl h2
  · exact .inr ⟨cap, own_below h2 hb⟩
theorem TabOwn.pages {W : World} {B : Nat} {q : Option Addr} {c g k : Nat} {l : List Pg} {x : Pg} (h : TabOwn W B q c g l) (hx : l[k]? = some x) : ∃ cap, W.ownsRow B 38 3 (.slice (some ⟨g, 0, none⟩) l.length cap) l.length (PV l) := by
  rcases h.2 with rfl | h2
  · simp at hx
  · exact h2
/-- a store into a page of the table -/
theorem TabOwn.store {W : World} {B : Nat} {q : Option Addr} {c g k : Nat} {l l' : List Pg} {x : Pg} (h : TabOwn W B q c g l) (hx : l[k]? = some x) (o : Nat) (v : Value) (hl : l'.length = l.length) (hs : (PV l).set o v = PV l') : TabOwn (W.setCell ⟨g, o, none⟩ v) B q c g l' := by
  obtain ⟨cap, hp⟩ := h.pages hx
  have hne : (Value.slice q l.length c).ownBlock ≠ some g := by
    intro e
    obtain ⟨c1, f1, e1⟩ := Lib.ownsRow_kind h.1 g e
    obtain ⟨c2, f2, e2⟩ := Lib.ownsRow_kind hp g rfl
    rw [e1] at e2
    simp at e2
  refine ⟨?_, .inr ⟨cap, ?_⟩⟩
  · rw [hl]; exact ownsRow_setCell_other h.1 hne _
  · have := (hp.stored o v).1
    rw [hs] at this
    rw [hl]; exact this
set_option maxHeartbeats 1000000 in
theorem setI (p : Option Addr) (cap : Nat) (l : List Pg) (base perm : Int) (w : World) (hp : Ad p) (hs : Small l) (hr : Rd w p l) :
    Calls Tryd.prog 17 #[.agg #[.slice p l.length cap], .int .i64 base, .int .i64 perm] w fun e w' => ∃ l' p' cap' c, e = .returned (.tuple #[.agg #[.slice p' l'.length cap'], .int .i64 c]) ∧ Hid (SetOut l base perm l' c) ∧ Hid (Owns w' w.heap.size p' cap' l') ∧ Below w.heap.size w w' := by
  obtain ⟨W, hW⟩ : ∃ W, W = (w.alloc (.cells #[.slice p l.length cap] 25)).alloc (.cells #[.slice none 0 0] 25) := ⟨_, rfl⟩
  have hWs : W.heap.size = w.heap.size + 1 + 1 := by rw [hW]; simp
  have L0 : Hid (Below w.heap.size w W) := Lib.hid (by rw [hW]; exact head2_below _ _)
  have Z0 : Hid (Cz W (w.heap.size + 1)) := Lib.hid (by rw [hW]; exact head2 _ _)
  have A0 : Hid (Bx W w.heap.size p cap l) := Lib.hid (by rw [hW]; exact head2_bx hr)
  have HW := Lib.hid hW; have HWS := Lib.hid hWs; have HS := Lib.hid hs; have HAD := Lib.hid hp
  clear hr hW hs hWs hp
  go_enter Tryd.func17, Tryd.ntmps17
  go_wp2_with fail
  rw [← HW.out]
  refine (openAll p cap l W HAD.out HS.out A0.out.2.2).mono ?_
  rintro e w1 ⟨ho, b1⟩
  have L1 := Lib.hid (bthen L0.out b1); have A1 := Lib.hid (A0.out.next b1); have Z1 := Lib.hid (Z0.out.next b1)
  have hw1 : w.heap.size + 1 + 1 ≤ w1.heap.size := by have := b1.size; have := HWS.out; omega
  clear b1 L0 A0 Z0
  rcases ho with ⟨hn, q, n, c, rfl⟩ | ⟨hy, q, c, g, rfl, htab⟩
  · have HM := Lib.hid hn
    have c1 := cell_of_one Z1.out; have f1 := free_of_one Z1.out
    have lz := lt_of_block Z1.out
    have r1 (v : Value) (o : Obj) : ((w1.setCell ⟨w.heap.size + 1, 0, none⟩ v).alloc o).cell? ⟨w.heap.size + 1, 0, none⟩ = some v := by
      rw [World.cell?_alloc_lt _ _ _ (by simp only [World.size_setCell]; exact lz)]; exact cellSame c1 _
    clear hn
    go_wp2
    refine bodyPost_ret (v := .tuple #[.agg #[.slice none 0 0], .int .i64 1]) (by simp [results, Tryd.results17, go_sem, r1]) rfl ?_
    exact ⟨[], _, _, _, rfl, Lib.hid (.inl ⟨HM.out, rfl, rfl⟩), Lib.hid (owns_nil _ _), Below.alloc (L1.out.setCell (by simp) _) (by have := L1.out.size; simp; omega) _⟩
  · obtain ⟨V, hV⟩ : ∃ V, V = w1.alloc (.cells #[.slice q l.length c] 54) := ⟨_, rfl⟩
    have L2 : Hid (Below w.heap.size w V) := Lib.hid (by rw [hV]; exact bbox L1.out _)
    have A2 : Hid (Bx V w.heap.size p cap l) := Lib.hid (by rw [hV]; exact A1.out.next (below1 _ _))
    have Z2 : Hid (Cz V (w.heap.size + 1)) := Lib.hid (by rw [hV]; exact Z1.out.next (below1 _ _))
    have T2 : Hid (TabOwn V W.heap.size q c g l) := Lib.hid (by rw [hV]; exact htab.below (below1 _ _))
    have hB : V.heap[w1.heap.size]? = some (.cells #[.slice q l.length c] 54 (0, 0)) := by rw [hV]; exact heap_alloc_new w1 _
    have hB0 : w1.heap.size < V.heap.size := by rw [hV]; simp
    have HB := Lib.hid hB; have HV := Lib.hid hV; have HM := Lib.hid hy
    have c1 := cell_of_one Z1.out; have f1 := free_of_one Z1.out
    have lz := lt_of_block Z1.out
    have r1 (v : Value) (o : Obj) : ((w1.setCell ⟨w.heap.size + 1, 0, none⟩ v).alloc o).cell? ⟨w.heap.size + 1, 0, none⟩ = some v := by
      rw [World.cell?_alloc_lt _ _ _ (by simp only [World.size_setCell]; exact lz)]; exact cellSame c1 _
    clear hB hV hy htab A1 Z1
    by_cases hbp : BaseOk base ∧ PermOk perm
    · have C := Lib.hid (fun W => ibaseYes base W hbp.1); have C2 := Lib.hid (fun W => ipermYes perm W hbp.2)
      have HBP := Lib.hid hbp
      clear hbp r1 c1 f1
      go_wp2_with (first | (go_at_call 39; refine (C.out _).mono ?_; rintro e wz ⟨rfl, rfl⟩) | (go_at_call 40; refine (C2.out _).mono ?_; rintro e wz ⟨rfl, rfl⟩))
      rw [← HV.out]
      refine (findC w1.heap.size c g q l base V HM.out (cell_of_one HB.out) hB0 T2.out.tab).mono ?_
      rintro e w2 ⟨ho, b2⟩
      have L3 := Lib.hid (bthen L2.out b2); have A3 := Lib.hid (A2.out.next b2); have Z3 := Lib.hid (Z2.out.next b2); have T3 := Lib.hid (T2.out.below b2)
      have B3 : Hid (w2.heap[w1.heap.size]? = some (.cells #[.slice q l.length c] 54 (0, 0))) := Lib.hid ((b2.block _ hB0).trans HB.out)
      have hw2 : w.heap.size + 1 + 1 ≤ w2.heap.size := by have := b2.size; omega
      have x3 := A3.out.2.1
      clear b2 C C2
      rcases ho with ⟨k, x, hx, hxb, rfl⟩ | ⟨hno, rfl⟩
      · obtain ⟨pc, hpg⟩ := T3.out.pages hx
        have hkl : k < l.length := (List.getElem?_eq_some_iff.1 hx).1
        obtain ⟨u1, d1⟩ := own_cell hpg (k * 3 + 1) (by omega)
        have e1 := hpg.frozenAt (k * 3 + 1)
        have hgb := (hpg.lt g rfl).1
        have hws := HWS.out
        obtain ⟨U, hU⟩ : ∃ U, U = w2.setCell ⟨g, k * 3 + 1, none⟩ (.int .i64 perm) := ⟨_, rfl⟩
        have T4 : Hid (TabOwn U W.heap.size q c g (l.set k ⟨x.b, perm, x.d⟩)) := Lib.hid (by rw [hU]; exact T3.out.store hx _ _ (by simp) (PV_set1 hx perm))
        have L4 : Hid (Below w.heap.size w U) := Lib.hid (by rw [hU]; exact L3.out.setCell (by simp; omega) _)
        have Z4 : Hid (Cz U (w.heap.size + 1)) := Lib.hid (by rw [hU]; unfold Cz; rw [Below.heap_setCell _ _ _ _ (by simp; omega)]; exact Z3.out)
        have hgw : w1.heap.size ≠ g := by
          intro e
          obtain ⟨c2, f2, e2⟩ := Lib.ownsRow_kind hpg g rfl
          have e3 := B3.out
          rw [e, e2] at e3
          simp at e3
        have B4 : Hid (U.cell? ⟨w1.heap.size, 0, none⟩ = some (.slice q (l.set k ⟨x.b, perm, x.d⟩).length c)) := Lib.hid (by rw [hU, List.length_set, cellOther (fun e => hgw (Addr.mk.inj e).1.symm)]; exact cell_of_one B3.out)
        have hU0 : w1.heap.size < U.heap.size := by rw [hU]; simp only [World.size_setCell]; exact lt_of_block B3.out
        have C5 := Lib.hid (memC w1.heap.size c q (l.set k ⟨x.b, perm, x.d⟩) U (by have := HM.out.1; simp; omega) B4.out hU0 T4.out.tab.ptrs)
        have HX := Lib.hid hx; have HXB := Lib.hid hxb; have HU := Lib.hid hU
        clear hx hxb hU hpg
        go_wp2_with fail
        rw [← HU.out]
        refine (C5.out).mono ?_
        rintro e w3 ⟨p', cap', rfl, ho, b3⟩
        have L5 := Lib.hid (bthen L4.out b3)
        have Z5 := Z4.out.next b3
        have c5 := cell_of_one Z5; have f5 := free_of_one Z5
        have r5 (v : Value) := cellSame c5 v
        have HO := Lib.hid ho
        have hUs : w.heap.size + 1 + 1 ≤ U.heap.size := by have := L4.out.size; have := lt_of_block Z4.out; omega
        clear b3 x3 Z5 ho d1 e1
        go_wp2
        refine bodyPost_ret (v := .tuple #[.agg #[.slice p' (l.set k ⟨x.b, perm, x.d⟩).length cap'], .int .i64 0]) (by simp [results, Tryd.results17, go_sem, r5]) rfl ?_
        exact ⟨_, _, _, _, rfl, Lib.hid (.inr (.inr (.inr ⟨HM.out, HBP.out, ⟨k, x, HX.out, HXB.out, rfl⟩, rfl⟩))), Lib.hid (Joins.ownsRow_le (HO.out.other (b := w.heap.size + 1) (by omega) 0 _) (by omega)), L5.out.setCell (by simp) _⟩
      · have HN := Lib.hid hno
        clear hno
        go_wp2_with fail
        refine (asItWasC p cap l w2 HAD.out HS.out A3.out.2.2).mono ?_
        rintro e w3 ⟨p', cap', rfl, ho, b3⟩
        have L4 := Lib.hid (bthen L3.out b3)
        have Z4 := Z3.out.next b3
        have c4 := cell_of_one Z4; have f4 := free_of_one Z4
        have r4 (v : Value) := cellSame c4 v
        have HO := Lib.hid ho
        clear b3 x3 Z4 ho
        go_wp2
        refine bodyPost_ret (v := .tuple #[.agg #[.slice p' l.length cap'], .int .i64 13]) (by simp [results, Tryd.results17, go_sem, r4]) rfl ?_
        exact ⟨_, _, _, _, rfl, Lib.hid (.inr (.inr (.inl ⟨HM.out, HBP.out, HN.out, rfl, rfl⟩))), Lib.hid (Joins.ownsRow_le (HO.out.other (b := w.heap.size + 1) (by omega) 0 _) (by omega)), L4.out.setCell (by simp) _⟩
    · have HBP := Lib.hid hbp
      by_cases hb : BaseOk base
      · have C := Lib.hid (fun W => ibaseYes base W hb); have C2 := Lib.hid (fun W => ipermNo perm W (fun h => hbp ⟨hb, h⟩))
        clear hbp hb
        go_wp2_with (first | (go_at_call 39; refine (C.out _).mono ?_; rintro e wz ⟨rfl, rfl⟩) | (go_at_call 40; refine (C2.out _).mono ?_; rintro e wz ⟨rfl, rfl⟩))
        refine bodyPost_ret (v := .tuple #[.agg #[.slice none 0 0], .int .i64 4]) (by simp [results, Tryd.results17, go_sem, r1]) rfl ?_
        exact ⟨[], _, _, _, rfl, Lib.hid (.inr (.inl ⟨HM.out, HBP.out, rfl, rfl⟩)), Lib.hid (owns_nil _ _), Below.alloc (L1.out.setCell (by simp) _) (by have := L1.out.size; simp; omega) _⟩
      · have C := Lib.hid (fun W => ibaseNo base W hb)
        clear hbp hb
        go_wp2_with (first | (go_at_call 39; refine (C.out _).mono ?_; rintro e wz ⟨rfl, rfl⟩))
        refine bodyPost_ret (v := .tuple #[.agg #[.slice none 0 0], .int .i64 4]) (by simp [results, Tryd.results17, go_sem, r1]) rfl ?_
        exact ⟨[], _, _, _, rfl, Lib.hid (.inr (.inl ⟨HM.out, HBP.out, rfl, rfl⟩)), Lib.hid (owns_nil _ _), Below.alloc (L1.out.setCell (by simp) _) (by have := L1.out.size; simp; omega) _⟩
end Go.Proofs.YtdfmchknpiodkabDoor
