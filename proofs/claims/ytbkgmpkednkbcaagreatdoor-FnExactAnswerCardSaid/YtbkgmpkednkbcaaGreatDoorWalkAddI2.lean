/-
  What impl.AddPage does: the memory with one page more, in new memory, and a code, changing nothing that was there; conditions: those in each head.
-/
import Derived.Test.YtbkgmpkednkbcaaGreatDoorWalkAddI
import Derived.Test.YtbkgmpkednkbcaaGreatDoorLawWrite
namespace Go.Proofs.YtbkgmpkednkbcaaGreatDoor
open Go.RowKit Go.Sort
set_option maxHeartbeats 1000000 in
theorem addI (p : Option Addr) (cap : Nat) (l : List Pg) (base perm : Int) (w : World) (hp : Ad p) (hs : Small l) (hr : Rd w p l) :
    Calls Tryz.prog 117 #[.agg #[.slice p l.length cap], .int .i64 base, .int .i64 perm] w fun e w' => ∃ l' p' cap' c, e = .returned (.tuple #[.agg #[.slice p' l'.length cap'], .int .i64 c]) ∧ Hid (AddOut l base perm l' c) ∧ Hid (Owns w' w.heap.size p' cap' l') ∧ Below w.heap.size w w' := by
  obtain ⟨W, hW⟩ : ∃ W, W = (w.alloc (.cells #[.slice p l.length cap] 34)).alloc (.cells #[.slice none 0 0] 34) := ⟨_, rfl⟩
  have hWs : W.heap.size = w.heap.size + 1 + 1 := by rw [hW]; simp
  have L0 : Hid (Below w.heap.size w W) := Lib.hid (by rw [hW]; exact head2_below _ _)
  have Z0 : Hid (Cz W (w.heap.size + 1)) := Lib.hid (by rw [hW]; exact head2 _ _)
  have A0 : Hid (Bx W w.heap.size p cap l) := Lib.hid (by rw [hW]; exact head2_bx hr)
  have HW := Lib.hid hW; have HWS := Lib.hid hWs; have HS := Lib.hid hs; have HAD := Lib.hid hp
  clear hr hW hs hWs hp
  go_enter Tryz.func117, Tryz.ntmps117
  go_wp2_with fail
  rw [← HW.out]
  refine (openAll p cap l W HAD.out HS.out A0.out.2.2).mono ?_
  rintro e w1 ⟨ho, b1⟩
  have L1 := Lib.hid (bthen L0.out b1); have A1 := Lib.hid (A0.out.next b1); have Z1 := Lib.hid (Z0.out.next b1)
  have hw1 : w.heap.size + 1 + 1 ≤ w1.heap.size := by have := b1.size; have := HWS.out; omega
  clear b1 L0 A0 Z0
  rcases ho with ⟨hn, q, n, c, rfl⟩ | ⟨hy, q, c, g, rfl, htab⟩
  · have HM := Lib.hid hn
    have c1 := cell_of_one Z1.out; have f1 := free_of_one Z1.out
    have lz := lt_of_block Z1.out
    have r1 (v : Value) (o : Obj) : ((w1.setCell ⟨w.heap.size + 1, 0, none⟩ v).alloc o).cell? ⟨w.heap.size + 1, 0, none⟩ = some v := by
      rw [World.cell?_alloc_lt _ _ _ (by simp only [World.size_setCell]; exact lz)]; exact cellSame c1 _
    clear hn
    go_wp2
    refine bodyPost_ret (v := .tuple #[.agg #[.slice none 0 0], .int .i64 1]) (by simp [results, Tryz.results117, go_sem, r1]) rfl ?_
    exact ⟨[], _, _, _, rfl, Lib.hid (.inl ⟨HM.out, rfl, rfl⟩), Lib.hid (owns_nil _ _), Below.alloc (L1.out.setCell (by simp) _) (by have := L1.out.size; simp; omega) _⟩
  · obtain ⟨V, hV⟩ : ∃ V, V = w1.alloc (.cells #[.slice q l.length c] 101) := ⟨_, rfl⟩
    have L2 : Hid (Below w.heap.size w V) := Lib.hid (by rw [hV]; exact bbox L1.out _)
    have A2 : Hid (Bx V w.heap.size p cap l) := Lib.hid (by rw [hV]; exact A1.out.next (below1 _ _))
    have Z2 : Hid (Cz V (w.heap.size + 1)) := Lib.hid (by rw [hV]; exact Z1.out.next (below1 _ _))
    have T2 : Hid (TabOwn V W.heap.size q c g l) := Lib.hid (by rw [hV]; exact htab.below (below1 _ _))
    have hB : V.heap[w1.heap.size]? = some (.cells #[.slice q l.length c] 101 (0, 0)) := by rw [hV]; exact heap_alloc_new w1 _
    have hB0 : w1.heap.size < V.heap.size := by rw [hV]; simp
    have HB := Lib.hid hB; have HV := Lib.hid hV; have HM := Lib.hid hy
    have c1 := cell_of_one Z1.out; have f1 := free_of_one Z1.out
    have lz := lt_of_block Z1.out
    have r1 (v : Value) (o : Obj) : ((w1.setCell ⟨w.heap.size + 1, 0, none⟩ v).alloc o).cell? ⟨w.heap.size + 1, 0, none⟩ = some v := by
      rw [World.cell?_alloc_lt _ _ _ (by simp only [World.size_setCell]; exact lz)]; exact cellSame c1 _
    clear hB hV hy htab A1 Z1
    by_cases hbp : BaseOk base ∧ PermOk perm
    · have C := Lib.hid (fun W => ibaseYes base W hbp.1); have C2 := Lib.hid (fun W => ipermYes perm W hbp.2)
      have HBP := Lib.hid hbp
      clear hbp r1 c1 f1
      go_wp2_with (first | (go_at_call 121; refine (C.out _).mono ?_; rintro e wz ⟨rfl, rfl⟩) | (go_at_call 122; refine (C2.out _).mono ?_; rintro e wz ⟨rfl, rfl⟩))
      rw [← HV.out]
      refine (findC w1.heap.size c g q l base V HM.out (cell_of_one HB.out) hB0 T2.out.tab).mono ?_
      rintro e w2 ⟨ho, b2⟩
      have L3 := Lib.hid (bthen L2.out b2); have A3 := Lib.hid (A2.out.next b2); have Z3 := Lib.hid (Z2.out.next b2); have T3 := Lib.hid (T2.out.below b2)
      have B3 : Hid (w2.heap[w1.heap.size]? = some (.cells #[.slice q l.length c] 101 (0, 0))) := Lib.hid ((b2.block _ hB0).trans HB.out)
      have hw2 : w.heap.size + 1 + 1 ≤ w2.heap.size := by have := b2.size; omega
      have x3 := A3.out.2.1
      clear b2 C C2
      rcases ho with ⟨k, x, hx, hxb, rfl⟩ | ⟨hno, rfl⟩
      · have HX := Lib.hid hx; have HXB := Lib.hid hxb
        clear hx hxb
        go_wp2_with fail
        refine (asItWasC p cap l w2 HAD.out HS.out A3.out.2.2).mono ?_
        rintro e w3 ⟨p', cap', rfl, ho, b3⟩
        have L4 := Lib.hid (bthen L3.out b3)
        have Z4 := Z3.out.next b3
        have c4 := cell_of_one Z4; have f4 := free_of_one Z4
        have r4 (v : Value) := cellSame c4 v
        have HO := Lib.hid ho
        clear b3 x3 Z4 ho
        go_wp2
        refine bodyPost_ret (v := .tuple #[.agg #[.slice p' l.length cap'], .int .i64 13]) (by simp [results, Tryz.results117, go_sem, r4]) rfl ?_
        exact ⟨_, _, _, _, rfl, Lib.hid (.inr (.inr (.inl ⟨HM.out, HBP.out, ⟨k, x, HX.out, HXB.out⟩, rfl, rfl⟩))), Lib.hid (Joins.ownsRow_le (HO.out.other (b := w.heap.size + 1) (by omega) 0 _) (by omega)), L4.out.setCell (by simp) _⟩
      · have HN := Lib.hid hno
        have hpl := cnt_spec HM.out base
        have HPL : Hid (PlaceAt l base (cnt l base)) := Lib.hid hpl
        clear hno hpl
        have hl32 : l.length ≤ 32 := HM.out.1
        by_cases h32 : l.length = 32
        · have hq : ((l.length : Int) == 32) = true := beq_iff_eq.2 (by omega)
          have H32 := Lib.hid h32
          clear h32
          go_wp2_with fail
          refine (asItWasC p cap l w2 HAD.out HS.out A3.out.2.2).mono ?_
          rintro e w3 ⟨p', cap', rfl, ho, b3⟩
          have L4 := Lib.hid (bthen L3.out b3)
          have Z4 := Z3.out.next b3
          have c4 := cell_of_one Z4; have f4 := free_of_one Z4
          have r4 (v : Value) := cellSame c4 v
          have HO := Lib.hid ho
          clear b3 x3 Z4 ho
          go_wp2
          refine bodyPost_ret (v := .tuple #[.agg #[.slice p' l.length cap'], .int .i64 7]) (by simp [results, Tryz.results117, go_sem, r4]) rfl ?_
          exact ⟨_, _, _, _, rfl, Lib.hid (.inr (.inr (.inr (.inl ⟨HM.out, HBP.out, HN.out, H32.out, rfl, rfl⟩)))), Lib.hid (Joins.ownsRow_le (HO.out.other (b := w.heap.size + 1) (by omega) 0 _) (by omega)), L4.out.setCell (by simp) _⟩
        · have hq : ((l.length : Int) == 32) = false := by simpa using (show ¬ ((l.length : Int) = 32) by omega)
          have H32 := Lib.hid h32
          have hl31 : l.length ≤ 31 := by omega
          clear h32
          go_wp2_with fail
          refine (repeatC w2).mono ?_
          rintro e w3 ⟨rfl, b3⟩
          have L4 := Lib.hid (bthen L3.out b3); have Z4 := Lib.hid (Z3.out.next b3); have T4 := Lib.hid (T3.out.below b3)
          have B4 : Hid (w3.heap[w1.heap.size]? = some (.cells #[.slice q l.length c] 101 (0, 0))) := Lib.hid ((b3.block _ (lt_of_block B3.out)).trans B3.out)
          have hw3 : w.heap.size + 1 + 1 ≤ w3.heap.size := by have := b3.size; omega
          clear b3
          obtain ⟨U, hU⟩ : ∃ U, U = w3.alloc (.cells #[.int .i64 base, .int .i64 perm, .string zeros256] 86) := ⟨_, rfl⟩
          have L5 : Hid (Below w.heap.size w U) := Lib.hid (by rw [hU]; exact bbox L4.out _)
          have Z5 : Hid (Cz U (w.heap.size + 1)) := Lib.hid (by rw [hU]; exact Z4.out.next (below1 _ _))
          have T5 : Hid (TabOwn U W.heap.size q c g l) := Lib.hid (by rw [hU]; exact T4.out.below (below1 _ _))
          have B5 : Hid (U.heap[w1.heap.size]? = some (.cells #[.slice q l.length c] 101 (0, 0))) := Lib.hid (by rw [hU]; exact ((below1 _ _).block _ (lt_of_block B4.out)).trans B4.out)
          have P5 : Hid (U.heap[w3.heap.size]? = some (.cells #[.int .i64 base, .int .i64 perm, .string zeros256] 86 (0, 0))) := Lib.hid (by rw [hU]; exact heap_alloc_new w3 _)
          have hU0 : w3.heap.size < U.heap.size := by rw [hU]; simp
          have CI := Lib.hid (insertC W.heap.size w1.heap.size c g w3.heap.size q l base perm zeros256 U HM.out T5.out (by have := HWS.out; omega) hl31 B5.out P5.out)
          have HU := Lib.hid hU
          clear hU
          go_wp2_with fail
          rw [← HU.out]
          refine (CI.out).mono ?_
          rintro e w4 ⟨rfl, g', cap', W3, rfl, o3, gr3⟩
          have hln := insL_len (l := l) (x := ⟨base, perm, zeros256⟩) HPL.out.1
          have PT6 : Hid (Ptrs (W3.setCell ⟨w1.heap.size, 0, none⟩ (.slice (some ⟨g', 0, none⟩) (l.length + 1) cap')) (some ⟨g', 0, none⟩) (insL l (cnt l base) ⟨base, perm, zeros256⟩)) := Lib.hid (ptrs_ins (x := ⟨base, perm, zeros256⟩) T5.out HPL.out.1 B5.out P5.out o3 gr3 _)
          have hk1 : ∀ b, U.heap.size ≤ b ∨ (Value.slice q l.length c).ownBlock = some b → W.heap.size ≤ b := fun b hb => by
            rcases hb with h | h
            · have := L5.out.size; have := HWS.out; have := lt_of_block Z5.out; omega
            · exact (T5.out.1.lt b h).1
          have nB : (Value.slice q l.length c).ownBlock ≠ some w1.heap.size := fun e => by
            obtain ⟨c2, f2, e2⟩ := Lib.ownsRow_kind T5.out.1 _ e
            rw [B5.out] at e2
            simp at e2
          have b4 : (W3.heap[w1.heap.size]?) = some (.cells #[.slice q l.length c] 101 (0, 0)) := (gr3.block _ (lt_of_block B5.out) (fun e => nB e.symm)).trans B5.out
          have z4 : W3.heap[w.heap.size + 1]? = U.heap[w.heap.size + 1]? := gr3.block _ (lt_of_block Z5.out) (fun e => by have := (T5.out.1.lt _ e.symm).1; have := HWS.out; omega)
          have hWw : W.heap.size ≤ w1.heap.size := by have := HWS.out; omega
          obtain ⟨X, hX⟩ : ∃ X, X = W3.setCell ⟨w1.heap.size, 0, none⟩ (.slice (some ⟨g', 0, none⟩) (l.length + 1) cap') := ⟨_, rfl⟩
          have Z6 : Hid (Cz X (w.heap.size + 1)) := Lib.hid (by rw [hX]; unfold Cz; rw [Below.heap_setCell _ _ _ _ (by simp; omega), z4]; exact Z5.out)
          have L6 : Hid (Below w.heap.size w X) := Lib.hid (by rw [hX]; exact (L5.out.grown gr3 L5.out.size (fun k hk => by have := (T5.out.1.lt k hk).1; have := HWS.out; omega)).setCell (by simp; omega) _)
          have B6 : Hid (X.cell? ⟨w1.heap.size, 0, none⟩ = some (.slice (some ⟨g', 0, none⟩) (insL l (cnt l base) ⟨base, perm, zeros256⟩).length cap')) := Lib.hid (by rw [hX, hln]; exact cellSame (cell_of_one b4) _)
          have hX0 : w1.heap.size < X.heap.size := by rw [hX]; simp only [World.size_setCell]; exact lt_of_block b4
          rw [← hX] at PT6 ⊢
          have C5 := Lib.hid (memC w1.heap.size cap' (some ⟨g', 0, none⟩) (insL l (cnt l base) ⟨base, perm, zeros256⟩) X (by rw [hln]; omega) B6.out hX0 PT6.out)
          clear hX hln z4 b4 nB hk1 gr3 o3 CI
          go_wp2_with fail
          refine (C5.out).mono ?_
          rintro e w5 ⟨p', cap2, rfl, ho, b5⟩
          have L7 := Lib.hid (bthen L6.out b5)
          have Z7 := Z6.out.next b5
          have c7 := cell_of_one Z7; have f7 := free_of_one Z7
          have r7 (v : Value) := cellSame c7 v
          have HO := Lib.hid ho
          have hXs : w.heap.size + 1 + 1 ≤ X.heap.size := by have := lt_of_block Z6.out; omega
          clear b5 x3 Z7 ho
          go_wp2
          refine bodyPost_ret (v := .tuple #[.agg #[.slice p' (insL l (cnt l base) ⟨base, perm, zeros256⟩).length cap2], .int .i64 0]) (by simp [results, Tryz.results117, go_sem, r7]) rfl ?_
          exact ⟨_, _, _, _, rfl, Lib.hid (.inr (.inr (.inr (.inr ⟨HM.out, HBP.out, HN.out, H32.out, ⟨_, HPL.out, rfl⟩, rfl⟩)))), Lib.hid (Joins.ownsRow_le (HO.out.other (b := w.heap.size + 1) (by omega) 0 _) (by omega)), L7.out.setCell (by simp) _⟩
    · have HBP := Lib.hid hbp
      by_cases hb : BaseOk base
      · have C := Lib.hid (fun W => ibaseYes base W hb); have C2 := Lib.hid (fun W => ipermNo perm W (fun h => hbp ⟨hb, h⟩))
        clear hbp hb
        go_wp2_with (first | (go_at_call 121; refine (C.out _).mono ?_; rintro e wz ⟨rfl, rfl⟩) | (go_at_call 122; refine (C2.out _).mono ?_; rintro e wz ⟨rfl, rfl⟩))
        refine bodyPost_ret (v := .tuple #[.agg #[.slice none 0 0], .int .i64 4]) (by simp [results, Tryz.results117, go_sem, r1]) rfl ?_
        exact ⟨[], _, _, _, rfl, Lib.hid (.inr (.inl ⟨HM.out, HBP.out, rfl, rfl⟩)), Lib.hid (owns_nil _ _), Below.alloc (L1.out.setCell (by simp) _) (by have := L1.out.size; simp; omega) _⟩
      · have C := Lib.hid (fun W => ibaseNo base W hb)
        clear hbp hb
        go_wp2_with (first | (go_at_call 121; refine (C.out _).mono ?_; rintro e wz ⟨rfl, rfl⟩))
        refine bodyPost_ret (v := .tuple #[.agg #[.slice none 0 0], .int .i64 4]) (by simp [results, Tryz.results117, go_sem, r1]) rfl ?_
        exact ⟨[], _, _, _, rfl, Lib.hid (.inr (.inl ⟨HM.out, HBP.out, rfl, rfl⟩)), Lib.hid (owns_nil _ _), Below.alloc (L1.out.setCell (by simp) _) (by have := L1.out.size; simp; omega) _⟩
end Go.Proofs.YtbkgmpkednkbcaaGreatDoor
