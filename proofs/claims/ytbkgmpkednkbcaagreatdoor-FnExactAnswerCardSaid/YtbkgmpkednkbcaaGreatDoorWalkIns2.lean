/-
  What slices.Insert and the table's insert do for one pointer to a page: the table with it, in memory of the call's own; conditions: those in each head.
-/
import Derived.Test.YtbkgmpkednkbcaaGreatDoorWalkIns
import Derived.Test.YtbkgmpkednkbcaaGreatDoorWalkFind
import Derived.Test.YtbkgmpkednkbcaaGreatDoorWalkOwn
import Derived.Deep.RegionWith
namespace Go.Proofs.YtbkgmpkednkbcaaGreatDoor
open Go.RowKit Go.Sort
theorem insAll (n cap i B vb : Nat) (q : Option Addr) (xs : List Value) (p : Value) (w : World) (ho : w.ownsRow B 121 1 (.slice q n cap) n xs) (hB : B ≤ w.heap.size) (hi : i ≤ n) (hn : n ≤ 1000) (hv : w.heap[vb]? = some (.cells #[p] 121 (0, 0))) (hvg : ∀ g, (Value.slice q n cap).ownBlock = some g → vb ≠ g) (hp : p.oneCell' = true) (h1c : ∀ v ∈ xs, v.oneCell' = true) :
    Calls Tryz.prog 134 #[.slice q n cap, .int .i64 (i : Int), .slice (some ⟨vb, 0, none⟩) 1 1] w fun e w' => ∃ g' cap', e = .returned (.slice (some ⟨g', 0, none⟩) (n + 1) cap') ∧ w'.ownsRow B 121 1 (.slice (some ⟨g', 0, none⟩) (n + 1) cap') (n + 1) (insPV xs i p) ∧ w.grownBy w' (Value.slice q n cap).ownBlock := by
  have hxl : xs.length = n := by have := ho.1; omega
  by_cases e : i = n
  · subst e
    refine (insEnd i cap B vb q xs p w ho hB hn (cell_of_row w vb 0 _ _ (0, 0) hv) hp).mono ?_
    rintro e w' ⟨g', cap', rfl, h1, h2⟩
    refine ⟨g', cap', rfl, ?_, h2⟩
    have : insPV xs i p = xs ++ [p] := by unfold insPV; rw [List.take_of_length_le (by omega), List.drop_eq_nil_of_le (by omega)]
    rw [this]; exact h1
  · obtain ⟨g, c', hq⟩ := Joins.ownsRow_form ho (by omega)
    cases hq
    have hnc : n ≤ cap := by
      rcases ho.2 with ⟨e, h⟩ | ⟨g, c, cur, e, _, _, h1, h2, _⟩
      · cases e
      · cases e; exact h1
    by_cases hr : n + 1 ≤ cap
    · refine (insShift g n cap i B vb xs p w ho (by omega) hr hn hv (hvg g rfl) hp h1c).mono ?_
      rintro e w' ⟨rfl, h1, h2⟩
      exact ⟨g, _, rfl, h1, h2⟩
    · obtain rfl : cap = n := by omega
      have hlt : vb < w.heap.size := (Array.getElem?_eq_some_iff.1 hv).1
      refine (insGrow g _ i B vb xs p w ho hB (by omega) hn (cell_of_row w vb 0 _ _ (0, 0) hv) hlt hp h1c).mono ?_
      rintro e w' ⟨g', cap', rfl, h1, h2⟩
      exact ⟨g', cap', rfl, h1, grownB h2 _⟩
theorem grownT {w w1 w2 : World} {row : Option Nat} (h1 : w.grownBy w1 row) (h2 : w1.grownBy w2 row) : w.grownBy w2 row :=
  ⟨h2.os.trans h1.os, h2.tape.trans h1.tape, h2.output.trans h1.output, Nat.le_trans h1.size h2.size, fun k hk hne => (h2.block k (Nat.lt_of_lt_of_le hk h1.size) hne).trans (h1.block k hk hne)⟩
theorem alloc_keeps {w W : World} (h : Below w.heap.size w W) (o : Obj) : Below w.heap.size w (W.alloc o) := h.alloc h.size o
set_option maxHeartbeats 4000000 in
set_option maxRecDepth 100000 in
theorem insertC (B B0 c g gb : Nat) (q : Option Addr) (l : List Pg) (base perm : Int) (data : ByteArray) (w : World) (hm : MemOk l) (hT : TabOwn w B q c g l) (hB : B ≤ w.heap.size) (hl : l.length ≤ 31) (hb : w.heap[B0]? = some (.cells #[.slice q l.length c] 101 (0, 0))) (hg : w.heap[gb]? = some (.cells #[.int .i64 base, .int .i64 perm, .string data] 86 (0, 0))) :
    Calls Tryz.prog 130 #[.pointer (some ⟨B0, 0, none⟩), .pointer (some ⟨gb, 0, none⟩)] w fun e w' => e = .returned (.tuple #[]) ∧ ∃ g' cap' W3, w' = W3.setCell ⟨B0, 0, none⟩ (.slice (some ⟨g', 0, none⟩) (l.length + 1) cap') ∧ W3.ownsRow B 121 1 (.slice (some ⟨g', 0, none⟩) (l.length + 1) cap') (l.length + 1) (insPV (PT g l.length) (cnt l base) (.pointer (some ⟨gb, 0, none⟩))) ∧ w.grownBy W3 (Value.slice q l.length c).ownBlock := by
  have hmk := mKey
  have mixed := mixed
  have hB0 : B0 < w.heap.size := (Array.getElem?_eq_some_iff.1 hb).1
  have hgb : gb < w.heap.size := (Array.getElem?_eq_some_iff.1 hg).1
  have hcnt := (cnt_spec hm base).1
  obtain ⟨i, hi⟩ : ∃ i, i = cnt l base := ⟨_, rfl⟩
  have CK : Hid (∀ W, Below w.heap.size w W → Calls Tryz.prog 169 #[.pointer (some ⟨gb, 0, none⟩)] W fun e w' => e = .returned (.int .i64 base) ∧ W = w') := Lib.hid (fun W h => by
    refine (keyC base gb 0 W ((h.cell (p := ⟨gb, 0, none⟩) hgb).trans (cell_of_row w gb 0 _ _ (0, 0) hg))).mono ?_
    rintro e w' ⟨h1, h2⟩
    exact ⟨h1, by first | exact h2 | exact h2.symm⟩)
  have CP : Hid (∀ W, Below w.heap.size w W → Calls Tryz.prog 132 #[.pointer (some ⟨B0, 0, none⟩), .int .i64 base] W fun e w' => e = .returned (.int .i64 (i : Int)) ∧ Below W.heap.size W w') := Lib.hid (fun W h => by
    rw [hi]
    exact placeC B0 c g q l base W hm ((h.cell (p := ⟨B0, 0, none⟩) hB0).trans (cell_of_row w B0 0 _ _ (0, 0) hb)) (by have := h.size; omega) (hT.tab.below h))
  have CI : Hid (∀ W vb, Below w.heap.size w W → w.heap.size ≤ vb → W.heap[vb]? = some (.cells #[.pointer (some ⟨gb, 0, none⟩)] 121 (0, 0)) → Calls Tryz.prog 134 #[.slice q l.length c, .int .i64 (i : Int), .slice (some ⟨vb, 0, none⟩) 1 1] W fun e w' => ∃ g' cap', e = .returned (.slice (some ⟨g', 0, none⟩) (l.length + 1) cap') ∧ w'.ownsRow B 121 1 (.slice (some ⟨g', 0, none⟩) (l.length + 1) cap') (l.length + 1) (insPV (PT g l.length) i (.pointer (some ⟨gb, 0, none⟩))) ∧ W.grownBy w' (Value.slice q l.length c).ownBlock) := Lib.hid (fun W vb h hvb hv => by
    have ho := own_below hT.1 h
    refine insAll l.length c i B vb q (PT g l.length) _ W ho (by have := h.size; omega) (by rw [hi]; exact hcnt) (by omega) hv (fun g' e => ?_) rfl (fun v hv => ?_)
    · have := (hT.1.lt g' e).2; omega
    · simp only [PT, List.mem_map] at hv; obtain ⟨k, _, rfl⟩ := hv; rfl)
  have h0 : w.cell? ⟨B0, 0, none⟩ = some (.slice q l.length c) := cell_of_row w B0 0 _ _ (0, 0) hb
  have hne : (Value.slice q l.length c).ownBlock ≠ some B0 := fun e => by
    obtain ⟨c2, f2, e2⟩ := Lib.ownsRow_kind hT.1 B0 e
    rw [hb] at e2
    simp at e2
  have HB := Lib.hid hb; have HNE := Lib.hid hne; have HI := Lib.hid hi; have HLT := Lib.hid hB0
  rw [← hi]
  clear hb hne hi hT hg hm hcnt hB
  go_enter Tryz.func130, Tryz.ntmps130
  go_wp2
  go_region_with (first
    | (go_at_call 169; (with_reducible refine Calls.mono (CK.out _ ?_) ?_); (first | exact drewB w | exact alloc_keeps (drewB w) _); rintro e wz ⟨rfl, rfl⟩)
    | (go_at_call 132; (with_reducible refine Calls.mono (CP.out _ ?_) ?_); (first | exact drewB w | exact alloc_keeps (drewB w) _); rintro e w1 ⟨rfl, b1⟩; have L1 : Hid (Below w.heap.size w w1) := Lib.hid (by first | exact (drewB w).trans (b1.mono (drewB w).size) | exact (alloc_keeps (drewB w) _).trans (b1.mono (alloc_keeps (drewB w) _).size)); have h01 := (L1.out.cell (p := ⟨B0, 0, none⟩) HLT.out).trans h0; have lB1 : B0 < w1.heap.size := Nat.lt_of_lt_of_le HLT.out L1.out.size; (try have v1 : Hid (w1.heap[w.heap.size]? = some (.cells #[.pointer (some ⟨gb, 0, none⟩)] 121 (0, 0))) := Lib.hid ((b1.block w.heap.size (by simp)).trans (heap_alloc_new w _))); clear b1)
    | (go_at_call 134; (with_reducible refine Calls.mono (CI.out _ _ ?_ ?_ ?_) ?_); (first | exact alloc_keeps L1.out _ | exact L1.out); (first | exact L1.out.size | exact Nat.le_refl _); (first | exact heap_alloc_new w1 _ | exact v1.out); rintro e w3 ⟨g', cap', rfl, o3, g3⟩; have LG : Hid (w.grownBy w3 (Value.slice q l.length c).ownBlock) := Lib.hid (by first | exact grownT (grownB (alloc_keeps L1.out _) _) g3 | exact grownT (grownB L1.out _) g3); have O3 := Lib.hid o3; have hB3 := (LG.out.block B0 HLT.out (fun e => HNE.out e.symm)).trans HB.out; have c3 := cell_of_one hB3; have f3 := free_of_one hB3; clear o3 g3 hB3))
  all_goals
    go_wp2
    go_end0
    exact ⟨rfl, _, _, w3, rfl, O3.out, LG.out⟩
end Go.Proofs.YtbkgmpkednkbcaaGreatDoor
