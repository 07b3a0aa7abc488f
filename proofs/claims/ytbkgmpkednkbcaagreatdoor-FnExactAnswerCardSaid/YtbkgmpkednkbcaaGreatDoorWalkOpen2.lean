/-
  What impl.openMemory and impl.MemoryOK do: the first makes a table of its own of a memory's pages and tells whether the memory is right, changing nothing that was there; conditions: those in each head.
-/
import Derived.Test.YtbkgmpkednkbcaaGreatDoorWalkOpen
import Derived.Lib.OwnKind
namespace Go.Proofs.YtbkgmpkednkbcaaGreatDoor
open Go.RowKit Go.Sort
def PT (g n : Nat) : List Value := (List.range n).map fun k => .pointer (some ⟨g, k * 3, none⟩)
theorem PT_snoc (g n : Nat) : PT g n ++ [.pointer (some ⟨g, n * 3, none⟩)] = PT g (n + 1) := by simp [PT, List.range_succ]
theorem infoQ : (Tryz.prog.info? 121).map (fun i => (i.zero, i.size, i.bytes)) = some (some (.pointer none), 1, 8) := by kernel_rfl
theorem newsP (w : World) (v : Value) (t : TypeId) (j : Nat) (u : Value) (h : [v][j]? = some u) :
    (w.alloc (.cells #[v] t)).cell? ((⟨w.heap.size, 0, none⟩ : Addr).add j) = some u :=
  World.news_of_block (w := w.alloc (.cells #[v] t)) (heap_alloc_new w _) j u (by simpa using h)
/-- a table of pointers q to the pages of l, which lie in block g, all of it the call's own -/
def TabOwn (W : World) (B : Nat) (q : Option Addr) (c g : Nat) (l : List Pg) : Prop :=
  W.ownsRow B 121 1 (.slice q l.length c) l.length (PT g l.length) ∧ (l = [] ∨ ∃ cap, W.ownsRow B 86 3 (.slice (some ⟨g, 0, none⟩) l.length cap) l.length (PV l))
/-- what openMemory answers -/
def Opened (w w' : World) (l : List Pg) (e : Ending) : Prop :=
  (¬ MemOk l ∧ ∃ q n c, e = .returned (.tuple #[.agg #[.slice q n c], .bool false])) ∨ (MemOk l ∧ ∃ q c g, e = .returned (.tuple #[.agg #[.slice q l.length c], .bool true]) ∧ TabOwn w' w.heap.size q c g l)
theorem blk1 (w : World) (a b c : Obj) : (((w.alloc a).alloc b).alloc c).heap[w.heap.size + 1]? = some b := by
  rw [Below.heap_alloc _ _ _ (by simp)]
  have := heap_alloc_new (w.alloc a) b
  simpa using this
theorem blk2 (w : World) (a b c : Obj) : (((w.alloc a).alloc b).alloc c).heap[w.heap.size + 1 + 1]? = some c := by
  have := heap_alloc_new ((w.alloc a).alloc b) c
  simpa using this
theorem openLong (p : Option Addr) (cap : Nat) (l : List Pg) (w : World) (hs : Small l) (h : 32 < l.length) :
    Calls Tryz.prog 83 #[.agg #[.slice p l.length cap]] w fun e w' => e = .returned (.tuple #[.agg #[.slice none 0 0], .bool false]) ∧ Below w.heap.size w w' := by
  have hl := hs.1
  have h' : (32 : Int) < (l.length : Int) := by omega
  clear hs
  go_enter Tryz.func83, Tryz.ntmps83
  go_wp2
  go_returns
  exact ⟨rfl, by go_grown⟩
/-- the table while it is filled -/
def OI (w wr : World) (v : Value) (g k : Nat) (l : List Pg) (q : Option Addr) (c : Nat) : Prop :=
  wr.heap[w.heap.size + 1]? = some (.cells #[.slice none 0 0] 101 (0, 0)) ∧ wr.heap[w.heap.size + 1 + 1]? = some (.cells #[.slice q k c] 101 (0, 0)) ∧ wr.ownsRow (w.heap.size + 1 + 1 + 1) 121 1 (.slice q k c) k (PT g k) ∧ wr.ownsRow (w.heap.size + 1 + 1 + 1) 86 3 v l.length (PV l) ∧ Below w.heap.size w wr ∧ ∀ (j : Nat) x, j < k → l[j]? = some x → PgOk x
/-- behind the append and the store -/
theorem OI.step {w wr w1 : World} {v : Value} {g k : Nat} {l : List Pg} {q : Option Addr} {c : Nat} {o : Obj} {g' cap' : Nat} (h : OI w wr v g k l q c) (hown1 : w1.ownsRow (w.heap.size + 1 + 1 + 1) 121 1 (.slice (some ⟨g', 0, none⟩) (k + 1) cap') (k + 1) (PT g k ++ [.pointer (some ⟨g, k * 3, none⟩)])) (hgrow : (wr.drew.alloc o).grownBy w1 (Value.slice q k c).ownBlock) (hgv : ∀ b, v.ownBlock = some b → (Value.slice q k c).ownBlock ≠ some b) (hgg : ∀ b, v.ownBlock = some b → b < wr.heap.size)
    {x : Pg} (hx : l[k]? = some x) (hok : PgOk x) : OI w (w1.setCell ⟨w.heap.size + 1 + 1, 0, none⟩ (.slice (some ⟨g', 0, none⟩) (k + 1) cap')) v g (k + 1) l (some ⟨g', 0, none⟩) cap' := by
  obtain ⟨h1, h2, h3, h4, h5, h6⟩ := h
  have hq : ∀ j, (Value.slice q k c).ownBlock = some j → w.heap.size + 1 + 1 + 1 ≤ j := fun j hj => (h3.lt j hj).1
  have l1 := lt_of_block h1
  have l2 := lt_of_block h2
  have tr (b : Nat) (hb : b < wr.heap.size) (hne : (Value.slice q k c).ownBlock ≠ some b) : w1.heap[b]? = wr.heap[b]? :=
    (hgrow.block b (by simp; omega) (fun e => hne e.symm)).trans (Below.heap_alloc wr.drew o b hb)
  have g1 : (Value.slice (some ⟨g', 0, none⟩) (k + 1) cap').ownBlock ≠ some (w.heap.size + 1 + 1) := by
    intro e; have := (hown1.lt _ e).1; omega
  refine ⟨?_, ?_, ?_, ?_, ?_, ?_⟩
  · rw [Below.heap_setCell _ _ _ _ (by simp), tr _ l1 (fun e => by have := hq _ e; omega)]; exact h1
  · exact one_setCell ((tr _ l2 (fun e => by have := hq _ e; omega)).trans h2)
  · rw [← PT_snoc]; exact ownsRow_setCell_other hown1 g1 _
  · have hb : ∀ b, v.ownBlock = some b → w.heap.size + 1 + 1 + 1 ≤ b := fun b hb => (h4.lt b hb).1
    refine ownsRow_setCell_other ⟨h4.1, ?_⟩ (fun e => by have := hb _ e; simp at this; omega) _
    rcases h4.2 with h' | ⟨a, cc, cur, e1, e2, e3, e4⟩
    · exact .inl h'
    · have ea : v.ownBlock = some a := by rw [e1]; rfl
      exact .inr ⟨a, cc, cur, e1, e2, (tr a (hgg a ea) (hgv a ea)).trans e3, e4⟩
  · exact (h5.trans ⟨hgrow.os, hgrow.tape, hgrow.output, by have := hgrow.size; simp at this; omega, fun b hb => tr b (by omega) (fun e => by have := hq _ e; omega)⟩).setCell (by simp; omega) _
  · intro j y hj hy
    by_cases e : j = k
    · subst e; rw [hx] at hy; cases hy; exact hok
    · exact h6 j y (by omega) hy
theorem OI.apart {w wr : World} {v : Value} {g k : Nat} {l : List Pg} {q : Option Addr} {c : Nat} (h : OI w wr v g k l q c) : ∀ b, v.ownBlock = some b → (Value.slice q k c).ownBlock ≠ some b := by
  intro b hb e
  obtain ⟨_, _, h3, h4, _, _⟩ := h
  obtain ⟨c1, f1, e1⟩ := Lib.ownsRow_kind h3 b e
  obtain ⟨c2, f2, e2⟩ := Lib.ownsRow_kind h4 b hb
  rw [e1] at e2
  simp at e2
theorem OI.done {w wr : World} {p' : Option Addr} {cap' : Nat} {g : Nat} {l : List Pg} {q : Option Addr} {c : Nat} (h : OI w wr (.slice p' l.length cap') g l.length l q c) (h32 : l.length ≤ 32) (hg : 0 < l.length → p' = some ⟨g, 0, none⟩) (m : Nat) (v : Value) :
    Opened w ((wr.drewN m).setCell ⟨w.heap.size + 1, 0, none⟩ v) l (.returned (.tuple #[.agg #[.slice q l.length c], .bool (riseB l)])) ∧ Below w.heap.size w ((wr.drewN m).setCell ⟨w.heap.size + 1, 0, none⟩ v) := by
  obtain ⟨h1, h2, h3, h4, h5, h6⟩ := h
  refine ⟨?_, (h5.trans (below_draw m)).setCell (by simp) _⟩
  have a3 : (wr.drewN m).ownsRow (w.heap.size + 1 + 1 + 1) 121 1 (.slice q l.length c) l.length (PT g l.length) := h3
  have a4 : (wr.drewN m).ownsRow (w.heap.size + 1 + 1 + 1) 86 3 (.slice p' l.length cap') l.length (PV l) := h4
  by_cases hr : Rises l
  · rw [riseB_yes hr]
    refine .inr ⟨⟨h32, fun j x hj => h6 j x (List.getElem?_eq_some_iff.1 hj).1 hj, hr⟩, q, c, g, rfl, ?_, ?_⟩
    · exact ownsRow_setCell_other (Joins.ownsRow_le a3 (by omega)) (fun e => by have := (a3.lt _ e).1; simp at this; omega) _
    · by_cases hn : l = []
      · exact .inl hn
      · have hp : 0 < l.length := List.length_pos_iff.mpr hn
        obtain rfl := hg hp
        exact .inr ⟨cap', ownsRow_setCell_other (Joins.ownsRow_le a4 (by omega)) (fun e => by have := (a4.lt _ e).1; simp at this; omega) _⟩
  · rw [riseB_no hr]
    exact .inl ⟨fun h => hr h.2.2, _, _, _, rfl⟩
set_option maxHeartbeats 1000000 in
theorem openC (p : Option Addr) (cap : Nat) (l : List Pg) (w : World) (hp : Ad p) (hs : Small l) (hr : Rd w p l) (h32 : l.length ≤ 32) :
    Calls Tryz.prog 83 #[.agg #[.slice p l.length cap]] w fun e w' => Opened w w' l e ∧ Below w.heap.size w w' := by
  have hm := mixed
  obtain ⟨i0, hi, hz0, hz1, hz2⟩ := info_parts infoQ
  have hb0 : Below w.heap.size w (((w.alloc (.cells #[.slice p l.length cap] 34)).alloc (.cells #[.slice none 0 0] 101)).alloc (.cells #[.slice none 0 0] 101)) := by go_grown
  have C := Lib.hid (cloneC p l.length cap l _ hp rfl hs.1 (hr.below hb0))
  clear hs hr hp
  have h33 : decide (32 < (l.length : Int)) = false := decide_eq_false (by omega)
  go_enter Tryz.func83, Tryz.ntmps83
  go_wp2_with fail
  refine (C.out).mono ?_
  rintro e w1 ⟨p', cap', rfl, hown, hb1⟩
  simp only [World.size_alloc] at hown
  have hI0 : OI w w1 (.slice p' l.length cap') 0 0 l none 0 := ⟨(hb1.block _ (by simp)).trans (blk1 _ _ _ _), (hb1.block _ (by simp)).trans (blk2 _ _ _ _), World.ownsRow_nil _ _ _ _, hown, hb0.trans (hb1.mono hb0.size), fun j x h => by omega⟩
  obtain ⟨g, hg⟩ : ∃ g, 0 < l.length → p' = some ⟨g, 0, none⟩ := by
    by_cases hn : 0 < l.length
    · obtain ⟨g, c', e⟩ := Joins.ownsRow_form hown hn
      cases e
      exact ⟨g, fun _ => rfl⟩
    · exact ⟨0, fun h => absurd h hn⟩
  have HG := Lib.hid hg
  have HI0 := Lib.hid hI0
  clear hown hb1 hb0 hg hI0
  go_wp2
  go_loopw [17] (fun i wr => ∃ k : Nat, k ≤ l.length ∧ i = .int .i64 k ∧ ∃ q c, Hid (OI w wr (.slice p' l.length cap') g k l q c)) (fun i _ => l.length - (intOf i).toNat)
  case atStart => exact ⟨0, Nat.zero_le _, rfl, none, 0, Lib.hid (HI0.out)⟩
  case round =>
    obtain ⟨k, hk, rfl, q, c, HI⟩ := hrel
    by_cases hlt : k < l.length
    · obtain ⟨x, hx⟩ : ∃ x, l[k]? = some x := ⟨_, List.getElem?_eq_getElem hlt⟩
      obtain rfl := HG.out (by omega)
      obtain ⟨h1, h2, h3, h4, h5, h6⟩ := HI.out
      obtain ⟨c0, c1, c2⟩ := own_pg h4 hx
      have HX := Lib.hid hx
      by_cases hok : PgOk x
      · have C := Lib.hid (okYes x g (k * 3) wr hok c0 c1 c2)
        have HOK := Lib.hid hok
        clear hok c0 c1 c2 hx h6
        go_wp2_with fail
        refine (C.out).mono ?_
        rintro e wq ⟨rfl, rfl⟩
        go_wp2
        have hsz := h5.size
        have hm1 : k + 1 ≤ maxLen := by unfold maxLen; omega
        have hb1 : (k + 1) * 8 ≤ 140737488355328 := by omega
        have l2 := lt_of_block h2
        have hq : ∀ j, (Value.slice q k c).ownBlock = some j → w.heap.size + 1 + 1 + 1 ≤ j := fun j hj => (h3.lt j hj).1
        have HQ := Lib.hid hq
        have cT := cell_of_one h2
        have H2 := Lib.hid h2; have H3 := Lib.hid h3; have H4 := Lib.hid h4; have H5 := Lib.hid h5
        clear hq h1 h2 h3 h4 h5
        go_region_law ((refine step_append_lies _ (by rfl) _ _ _ (by rfl) (w.heap.size + 1 + 1 + 1) 121 i0 (.pointer none) 1 8 Tryz.underlying97 hi hz0 hz1 hz2 rfl (by omega) _ k (PT g k) (by rfl) (((H3.out).drew).alloc _) ⟨wq.heap.size, 0, none⟩ 1 1 [.pointer (some ⟨g, k * 3, none⟩)] (by rfl) (by rfl) (by exact newsP _ _ _) (by intro u hu; simp at hu; subst hu; rfl) (by omega) hm1 hb1 (by simp; omega) (wq.heap.size + 1) (by simp) ?_; intro g' cap'' w2 hown1 hgrow hat hlt1; have hT1 : w2.heap[w.heap.size + 1 + 1]? = some (.cells #[.slice q k c] 101 (0, 0)) := (hgrow.block _ (by simp; omega) (fun e => by have := HQ.out _ e.symm; omega)).trans ((Below.heap_alloc _ _ _ l2).trans H2.out); have cT1 := cell_of_one hT1; have fT1 := free_of_one hT1; have HT1 := Lib.hid hT1; have HO1 := Lib.hid hown1; have HG1 := Lib.hid hgrow; clear hT1 hown1 hgrow hat))
        all_goals go_wp2
        all_goals go_roundw
        case rel => exact ⟨k + 1, by omega, by go_num, _, _, Lib.hid (OI.step HI.out HO1.out HG1.out HI.out.apart (fun b hb => (H4.out.lt b hb).2) HX.out HOK.out)⟩
        case measure => simp [intOf]; omega
        case rel => exact ⟨k + 1, by omega, by go_num, _, _, Lib.hid (OI.step HI.out HO1.out HG1.out HI.out.apart (fun b hb => (H4.out.lt b hb).2) HX.out HOK.out)⟩
        case measure => simp [intOf]; omega
      · have C := Lib.hid (okNo x g (k * 3) wr hok c0 c1 c2)
        have HOK := Lib.hid hok
        clear hok c0 c1 c2 hx h6
        go_wp2_with fail
        refine (C.out).mono ?_
        rintro e wq ⟨rfl, rfl⟩
        have cR := cell_of_one h1
        have fR := free_of_one h1
        have rR (v : Value) := cellSame cR v
        have H5 := Lib.hid h5
        clear h1 h2 h3 h4 h5
        go_wp2
        refine bodyPost_ret (v := .tuple #[.agg #[.slice none 0 0], .bool false]) (by simp [results, Tryz.results83, go_sem, rR]) rfl ?_
        exact ⟨.inl ⟨fun h => HOK.out (h.2.1 k x HX.out), _, _, _, rfl⟩, H5.out.setCell (by simp) _⟩
    · obtain rfl : k = l.length := by omega
      obtain ⟨h1, h2, h3, h4, h5, h6⟩ := HI.out
      have hT : Tab wr q g l := by
        intro j x hj
        have hjl : j < l.length := (List.getElem?_eq_some_iff.1 hj).1
        obtain rfl := HG.out (by omega)
        obtain ⟨h, c', e⟩ := Joins.ownsRow_form h3 (by omega)
        cases e
        obtain ⟨c0, c1, c2⟩ := own_pg h4 hj
        refine ⟨h, rfl, (h3.lt h rfl).2, (h4.lt g rfl).2, ?_, c0, c1, c2⟩
        rw [h3.cellAt _ (by omega)]
        simp [PT, hjl]
      have C := Lib.hid (risesC (w.heap.size + 1 + 1) c g q l wr.drew h32 (cell_of_one h2) hT)
      have cT := cell_of_one h2
      have cR := cell_of_one h1
      have fR := free_of_one h1
      have HH := Lib.hid h3; have H4 := Lib.hid h4; have H5 := Lib.hid h5; have H6 := Lib.hid h6
      have rR (v : Value) (m : Nat) : ((wr.drewN m).setCell ⟨w.heap.size + 1, 0, none⟩ v).cell? ⟨w.heap.size + 1, 0, none⟩ = some v := cellSame (w := wr.drewN m) cR v
      clear h1 h2 h3 h4 h5 h6 hT
      go_wp2
      go_region_with (first | (go_at_call 103; refine (C.out).mono ?_; rintro e wz ⟨rfl, mz, rfl⟩))
      all_goals go_wp2
      all_goals refine bodyPost_ret (v := .tuple #[.agg #[.slice q l.length c], .bool (riseB l)]) (by simp [results, Tryz.results83, go_sem, rR]) rfl ?_
      all_goals exact OI.done HI.out h32 HG.out _ _
theorem openAll (p : Option Addr) (cap : Nat) (l : List Pg) (w : World) (hp : Ad p) (hs : Small l) (hr : Rd w p l) :
    Calls Tryz.prog 83 #[.agg #[.slice p l.length cap]] w fun e w' => Opened w w' l e ∧ Below w.heap.size w w' := by
  by_cases h : l.length ≤ 32
  · exact openC p cap l w hp hs hr h
  · exact (openLong p cap l w hs (by omega)).mono fun e w' ⟨he, hb⟩ => ⟨.inl ⟨fun hm => h hm.1, _, _, _, he⟩, hb⟩
theorem memOkC (p : Option Addr) (cap : Nat) (l : List Pg) (w : World) (hp : Ad p) (hs : Small l) (hr : Rd w p l) :
    Calls Tryz.prog 66 #[.agg #[.slice p l.length cap]] w fun e w' => e = .returned (.bool (okB l)) ∧ Below w.heap.size w w' := by
  have hb0 : Below w.heap.size w (w.alloc (.cells #[.slice p l.length cap] 34)) := by go_grown
  have C := Lib.hid (openAll p cap l _ hp hs (hr.below hb0))
  clear hr hs hp
  go_enter Tryz.func66, Tryz.ntmps66
  go_wp2_with fail
  refine (C.out).mono ?_
  rintro e w1 ⟨ho, hb1⟩
  have hb2 := hb0.trans (hb1.mono hb0.size)
  rcases ho with ⟨hn, q, n, c, rfl⟩ | ⟨hy, q, c, g, rfl, _⟩
  · clear hb0 hb1
    go_wp2
    go_ret
    exact ⟨ret_b (okB_no hn).symm, hb2.alloc hb2.size _⟩
  · clear hb0 hb1
    go_wp2
    go_ret
    exact ⟨ret_b (okB_yes hy).symm, hb2.alloc hb2.size _⟩
end Go.Proofs.YtbkgmpkednkbcaaGreatDoor
