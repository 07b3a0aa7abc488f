/-
  What impl.PutBytes and spec.PutBytes do: the memory with bytes laid into its pages, in new memory, and a code, changing nothing that was there; conditions: those in each head.
-/
import Derived.Test.YtceoomihncchfaaWalkPutS
namespace Go.Proofs.Ytceoomihncchfaa
open Go.RowKit Go.Sort
/-- what both PutBytes answer -/
def PutOut (l : List Pg) (a : Int) (t : ByteArray) (l' : List Pg) (c : Int) : Prop :=
  (65536 < t.size ∧ l' = [] ∧ c = 2) ∨ (t.size ≤ 65536 ∧ ¬ MemOk l ∧ l' = [] ∧ c = 1) ∨ (t.size ≤ 65536 ∧ MemOk l ∧ 8192 < t.size ∧ l' = l ∧ c = 13) ∨ (MemOk l ∧ t.size ≤ 8192 ∧ ∃ c', FtOut l a t.size 0 c' ∧ ((c' ≠ 0 ∧ l' = l ∧ c = c') ∨ (c' = 0 ∧ LayR 0 l a t l' 0 ∧ c = 0)))
theorem PutOut.one {l : List Pg} {a : Int} {t : ByteArray} {l1 l2 : List Pg} {c1 c2 : Int} (h : PutOut l a t l1 c1) (h' : PutOut l a t l2 c2) : l1 = l2 ∧ c1 = c2 := by
  rcases h with ⟨h1, rfl, rfl⟩ | ⟨h1, h2, rfl, rfl⟩ | ⟨h1, h2, h3, rfl, rfl⟩ | ⟨h1, h2, k, hk, h3⟩ <;> rcases h' with ⟨g1, rfl, rfl⟩ | ⟨g1, g2, rfl, rfl⟩ | ⟨g1, g2, g3, rfl, rfl⟩ | ⟨g1, g2, k', hk', g3⟩ <;> first | exact ⟨rfl, rfl⟩ | omega | exact absurd g2 h2 | exact absurd h2 g2 | exact absurd g1 h2 | exact absurd h1 g2 | skip
  obtain rfl := FtOut.one h1 hk hk'
  rcases h3 with ⟨e1, rfl, rfl⟩ | ⟨e1, e2, rfl⟩ <;> rcases g3 with ⟨f1, rfl, rfl⟩ | ⟨f1, f2, rfl⟩ <;> first | exact ⟨rfl, rfl⟩ | exact absurd e1 f1 | exact absurd f1 e1 | exact ⟨LayR.one e2 h1 f2, rfl⟩
theorem Shape.small {l l' : List Pg} (h : Shape l l') (hm : MemOk l) : Small l' := by
  have hk := h.ok hm
  have h1 := hk.1
  refine ⟨by omega, fun k x hx => ?_⟩
  have := (hk.2.1 k x hx).2.2.2.2.2
  omega
theorem PutOut.small {l : List Pg} {a : Int} {t : ByteArray} {l' : List Pg} {c : Int} (h : PutOut l a t l' c) (hs : Small l) : Small l' := by
  rcases h with ⟨_, rfl, _⟩ | ⟨_, _, rfl, _⟩ | ⟨_, _, _, rfl, _⟩ | ⟨h1, _, _, _, ⟨_, rfl, _⟩ | ⟨_, h2, _⟩⟩
  · exact ⟨by simp, fun k x hk => by simp at hk⟩
  · exact ⟨by simp, fun k x hk => by simp at hk⟩
  · exact hs
  · exact hs
  · exact (h2.shape h1).small h1
set_option maxHeartbeats 1000000 in
theorem putS (b off cap : Nat) (l : List Pg) (a : Int) (t : ByteArray) (w : World) (hs : Small l) (hr : Rd w (some ⟨b, off, none⟩) l) (ht : t.size ≤ 9223372036854775807) :
    Calls Try.prog 28 #[.agg #[.slice (some ⟨b, off, none⟩) l.length cap], .int .i64 a, .string t] w fun e w' => ∃ l' p' cap' c, e = .returned (.tuple #[.agg #[.slice p' l'.length cap'], .int .i64 c]) ∧ Hid (PutOut l a t l' c) ∧ Hid (Owns w' w.heap.size p' cap' l') ∧ Below w.heap.size w w' := by
  obtain ⟨W, hW⟩ : ∃ W, W = (w.alloc (.cells #[.slice (some ⟨b, off, none⟩) l.length cap] 29)).alloc (.cells #[.slice none 0 0] 29) := ⟨_, rfl⟩
  have hWs : W.heap.size = w.heap.size + 1 + 1 := by rw [hW]; simp
  have L0 : Hid (Below w.heap.size w W) := Lib.hid (by rw [hW]; exact head2_below _ _)
  have Z0 : Hid (Cz W (w.heap.size + 1)) := Lib.hid (by rw [hW]; exact head2 _ _)
  have A0 : Hid (Bx W w.heap.size (some ⟨b, off, none⟩) cap l) := Lib.hid (by rw [hW]; exact head2_bx hr)
  have HW := Lib.hid hW; have HWS := Lib.hid hWs; have HS := Lib.hid hs
  have c0 := cell_of_one Z0.out; have f0 := free_of_one Z0.out
  clear hr hs hWs
  by_cases hbig : 65536 < t.size
  · have hb2 : (65536 : Int) < (t.size : Int) := by omega
    rw [hW] at c0 f0
    clear hW
    go_enter Try.func28, Try.ntmps28
    go_wp2
    refine bodyPost_ret (v := .tuple #[.agg #[.slice none 0 0], .int .i64 2]) (by simp [results, Try.results28, go_sem]) rfl ?_
    refine ⟨[], _, _, _, rfl, Lib.hid (.inl ⟨hbig, rfl, rfl⟩), Lib.hid (owns_nil _ _), ?_⟩
    rw [← HW.out]
    exact L0.out
  have hb1 : decide ((65536 : Int) < (t.size : Int)) = false := decide_eq_false (by omega)
  have hb3 : t.size ≤ 65536 := by omega
  clear hbig c0 f0 hW
  go_enter Try.func28, Try.ntmps28
  go_wp2_with fail
  rw [← HW.out]
  refine (specOk _ cap l W HS.out.fits A0.out.2.2).mono ?_
  rintro e w1 ⟨rfl, b1⟩
  have L1 := Lib.hid (bthen L0.out b1); have A1 := Lib.hid (A0.out.next b1); have Z1 := Lib.hid (Z0.out.next b1)
  have hw1 : w.heap.size + 1 + 1 ≤ w1.heap.size := by have := b1.size; have := HWS.out; omega
  have x1 := A1.out.2.1
  have c1 := cell_of_one Z1.out; have f1 := free_of_one Z1.out
  clear b1 L0 A0 Z0
  by_cases hm : MemOk l
  · have hy := okB_yes hm
    have HM := Lib.hid hm
    clear hm
    by_cases h8 : t.size ≤ 8192
    · have h81 : decide ((8192 : Int) < (t.size : Int)) = false := decide_eq_false (by omega)
      go_wp2_with fail
      refine (hasS _ cap l a t.size w1 HM.out A1.out.2.2 h8).mono ?_
      rintro e w2 ⟨ho, b2⟩
      have L2 := Lib.hid (bthen L1.out b2); have A2 := Lib.hid (A1.out.next b2); have Z2 := Lib.hid (Z1.out.next b2)
      have hw2 : w.heap.size + 1 + 1 ≤ w2.heap.size := by have := b2.size; omega
      have x2 := A2.out.2.1
      clear b2 x1 c1 f1 L1 A1 Z1
      rcases ho with ⟨rfl, hft⟩ | ⟨rfl, hft⟩
      · have hall : ∀ i : Nat, i < t.size → ∃ v, ByteAt l 0 (a + i) v := by
          rcases hft with ⟨_, h⟩ | ⟨i, _, _, hc⟩
          · exact h
          · have := code_pos hc; omega
        have HA := Lib.hid hall; have HFT := Lib.hid hft
        clear hall hft
        go_wp2_with fail
        refine (l02PutC b off cap l a t w2 HS.out.1 HM.out A2.out.2.2 HA.out).mono ?_
        rintro e w3 ⟨p', cap', l', rfl, HLR, ho, b3⟩
        have L3 := Lib.hid (bthen L2.out b3)
        have Z3 := Z2.out.next b3
        have c3 := cell_of_one Z3; have f3 := free_of_one Z3
        have r3 (v : Value) := cellSame c3 v
        have HO := Lib.hid ho
        clear b3 Z3 ho
        go_wp2
        refine bodyPost_ret (v := .tuple #[.agg #[.slice p' l'.length cap'], .int .i64 0]) (by simp [results, Try.results28, go_sem, r3]) rfl ?_
        exact ⟨_, _, _, _, rfl, Lib.hid (.inr (.inr (.inr ⟨HM.out, h8, 0, HFT.out, .inr ⟨rfl, HLR.out, rfl⟩⟩))), Lib.hid (Joins.ownsRow_le (HO.out.other (b := w.heap.size + 1) (by omega) 0 _) (by omega)), L3.out.setCell (by simp) _⟩
      · have HFT := Lib.hid hft
        clear hft
        go_wp2_with fail
        refine (l02OwnC b off cap l w2 HS.out.1 A2.out.2.2).mono ?_
        rintro e w3 ⟨g', cap', rfl, ho, b3⟩
        have L3 := Lib.hid (bthen L2.out b3)
        have Z3 := Z2.out.next b3
        have c3 := cell_of_one Z3; have f3 := free_of_one Z3
        have r3 (v : Value) := cellSame c3 v
        have HO := Lib.hid ho
        clear b3 Z3 ho
        go_wp2
        refine bodyPost_ret (v := .tuple #[.agg #[.slice (some ⟨g', 0, none⟩) l.length cap'], .int .i64 13]) (by simp [results, Try.results28, go_sem, r3]) rfl ?_
        exact ⟨_, _, _, _, rfl, Lib.hid (.inr (.inr (.inr ⟨HM.out, h8, 13, HFT.out, .inl ⟨by decide, rfl, rfl⟩⟩))), Lib.hid (Joins.ownsRow_le (HO.out.other (b := w.heap.size + 1) (by omega) 0 _) (by omega)), L3.out.setCell (by simp) _⟩
    · have h81 : (8192 : Int) < (t.size : Int) := by omega
      have h82 : 8192 < t.size := by omega
      go_wp2_with fail
      refine (l02OwnC b off cap l w1 HS.out.1 A1.out.2.2).mono ?_
      rintro e w3 ⟨g', cap', rfl, ho, b3⟩
      have L3 := Lib.hid (bthen L1.out b3)
      have Z3 := Z1.out.next b3
      have c3 := cell_of_one Z3; have f3 := free_of_one Z3
      have r3 (v : Value) := cellSame c3 v
      have HO := Lib.hid ho
      clear b3 Z3 ho
      go_wp2
      refine bodyPost_ret (v := .tuple #[.agg #[.slice (some ⟨g', 0, none⟩) l.length cap'], .int .i64 13]) (by simp [results, Try.results28, go_sem, r3]) rfl ?_
      exact ⟨_, _, _, _, rfl, Lib.hid (.inr (.inr (.inl ⟨hb3, HM.out, h82, rfl, rfl⟩))), Lib.hid (Joins.ownsRow_le (HO.out.other (b := w.heap.size + 1) (by omega) 0 _) (by omega)), L3.out.setCell (by simp) _⟩
  · have hn := okB_no hm
    have HM := Lib.hid hm
    have r1 (v : Value) := cellSame c1 v
    clear hm
    go_wp2
    refine bodyPost_ret (v := .tuple #[.agg #[.slice none 0 0], .int .i64 1]) (by simp [results, Try.results28, go_sem, r1]) rfl ?_
    exact ⟨[], _, _, _, rfl, Lib.hid (.inr (.inl ⟨hb3, HM.out, rfl, rfl⟩)), Lib.hid (owns_nil _ _), L1.out.setCell (by simp) _⟩
set_option maxHeartbeats 1000000 in
theorem putI (p : Option Addr) (cap : Nat) (l : List Pg) (a : Int) (t : ByteArray) (w : World) (hp : Ad p) (hs : Small l) (hr : Rd w p l) (h1 : -9223372036854775808 ≤ a) (h2 : a ≤ 9223372036854775807) (ht : t.size ≤ 9223372036854775807) :
    Calls Try.prog 29 #[.agg #[.slice p l.length cap], .int .i64 a, .string t] w fun e w' => ∃ l' p' cap' c, e = .returned (.tuple #[.agg #[.slice p' l'.length cap'], .int .i64 c]) ∧ Hid (PutOut l a t l' c) ∧ Hid (Owns w' w.heap.size p' cap' l') ∧ Below w.heap.size w w' := by
  obtain ⟨W, hW⟩ : ∃ W, W = (w.alloc (.cells #[.slice p l.length cap] 29)).alloc (.cells #[.slice none 0 0] 29) := ⟨_, rfl⟩
  have hWs : W.heap.size = w.heap.size + 1 + 1 := by rw [hW]; simp
  have L0 : Hid (Below w.heap.size w W) := Lib.hid (by rw [hW]; exact head2_below _ _)
  have Z0 : Hid (Cz W (w.heap.size + 1)) := Lib.hid (by rw [hW]; exact head2 _ _)
  have A0 : Hid (Bx W w.heap.size p cap l) := Lib.hid (by rw [hW]; exact head2_bx hr)
  have HW := Lib.hid hW; have HWS := Lib.hid hWs; have HS := Lib.hid hs; have HAD := Lib.hid hp
  have c0 := cell_of_one Z0.out; have f0 := free_of_one Z0.out
  have HR := Lib.hid hr
  clear hr hs hWs hp
  by_cases hbig : 65536 < t.size
  · have hb2 : (65536 : Int) < (t.size : Int) := by omega
    rw [hW] at c0 f0
    clear hW
    go_enter Try.func29, Try.ntmps29
    go_wp2
    refine bodyPost_ret (v := .tuple #[.agg #[.slice none 0 0], .int .i64 2]) (by simp [results, Try.results29, go_sem]) rfl ?_
    refine ⟨[], _, _, _, rfl, Lib.hid (.inl ⟨hbig, rfl, rfl⟩), Lib.hid (owns_nil _ _), ?_⟩
    rw [← HW.out]
    exact L0.out
  have hb1 : decide ((65536 : Int) < (t.size : Int)) = false := decide_eq_false (by omega)
  have hb3 : t.size ≤ 65536 := by omega
  clear hbig c0 f0 hW
  go_enter Try.func29, Try.ntmps29
  go_wp2_with fail
  rw [← HW.out]
  refine (openAll p cap l W HAD.out HS.out A0.out.2.2).mono ?_
  rintro e w1 ⟨ho, b1⟩
  have L1 := Lib.hid (bthen L0.out b1); have A1 := Lib.hid (A0.out.next b1); have Z1 := Lib.hid (Z0.out.next b1)
  have hw1 : w.heap.size + 1 + 1 ≤ w1.heap.size := by have := b1.size; have := HWS.out; omega
  have hW1 : W.heap.size ≤ w1.heap.size := b1.size
  clear b1 L0 A0 Z0
  have c1 := cell_of_one Z1.out; have f1 := free_of_one Z1.out
  have lz := lt_of_block Z1.out
  rcases ho with ⟨hn, q, n, c, rfl⟩ | ⟨hy, q, c, g, rfl, htab⟩
  · have HM := Lib.hid hn
    have r1 (v : Value) (o : Obj) : ((w1.setCell ⟨w.heap.size + 1, 0, none⟩ v).alloc o).cell? ⟨w.heap.size + 1, 0, none⟩ = some v := by
      rw [World.cell?_alloc_lt _ _ _ (by simp only [World.size_setCell]; exact lz)]; exact cellSame c1 _
    clear hn
    go_wp2
    refine bodyPost_ret (v := .tuple #[.agg #[.slice none 0 0], .int .i64 1]) (by simp [results, Try.results29, go_sem, r1]) rfl ?_
    exact ⟨[], _, _, _, rfl, Lib.hid (.inr (.inl ⟨hb3, HM.out, rfl, rfl⟩)), Lib.hid (owns_nil _ _), Below.alloc (L1.out.setCell (by simp) _) (by have := L1.out.size; simp; omega) _⟩
  · obtain ⟨V, hV⟩ : ∃ V, V = w1.alloc (.cells #[.slice q l.length c] 55) := ⟨_, rfl⟩
    have hVs : V.heap.size = w1.heap.size + 1 := by rw [hV]; simp
    have L2 : Hid (Below w.heap.size w V) := Lib.hid (by rw [hV]; exact bbox L1.out _)
    have A2 : Hid (Bx V w.heap.size p cap l) := Lib.hid (by rw [hV]; exact A1.out.next (below1 _ _))
    have Z2 : Hid (Cz V (w.heap.size + 1)) := Lib.hid (by rw [hV]; exact Z1.out.next (below1 _ _))
    have T2 : Hid (TabOwn V W.heap.size q c g l) := Lib.hid (by rw [hV]; exact htab.below (below1 _ _))
    have HB : Hid (V.heap[w1.heap.size]? = some (.cells #[.slice q l.length c] 55 (0, 0))) := Lib.hid (by rw [hV]; exact heap_alloc_new w1 _)
    have x1 := A1.out.2.1
    have hw0 : w.heap.size < w1.heap.size := A1.out.1
    have HV := Lib.hid hV; have HM := Lib.hid hy; have HVS := Lib.hid hVs
    clear hV hy htab A1 Z1 c1 f1 hVs
    by_cases h8 : t.size ≤ 8192
    · have h81 : decide ((8192 : Int) < (t.size : Int)) = false := decide_eq_false (by omega)
      go_wp2_with fail
      rw [← HV.out]
      refine (layC w1.heap.size W.heap.size c g q l a 0 t V HM.out HB.out T2.out (by have := HVS.out; omega) h1 h2 h8).mono ?_
      rintro e w2 ⟨c', lc, rfl, HLR, HT, b2⟩
      have L3 : Hid (Below w.heap.size w w2) := Lib.hid (L2.out.trans (b2.mono (by have := HWS.out; omega)))
      have Z3 : Hid (Cz w2 (w.heap.size + 1)) := Lib.hid ((b2.block _ (by have := HWS.out; omega)).trans Z2.out)
      have x3 : w2.cell? ⟨w.heap.size, 0, none⟩ = some (.slice p l.length cap) := (World.cell?_of_block (a := ⟨w.heap.size, 0, none⟩) (b2.block w.heap.size (by have := HWS.out; omega))).trans A2.out.2.1
      have R3 : Hid (Rd w2 p l) := Lib.hid (HR.out.below L3.out)
      have hw2 : w.heap.size + 1 + 1 ≤ w2.heap.size := by have := b2.size; have := HVS.out; omega
      clear b2 x1
      by_cases hc : c' = 0
      · subst hc
        have hlen : l.length = lc.length := HT.out.1.1
        have C5 := Lib.hid (memC w1.heap.size c q lc w2 (by have := HM.out.1; omega) (by rw [← hlen]; exact cell_of_one HT.out.2.2) (lt_of_block HT.out.2.2) HT.out.2.1.tab.ptrs)
        have HLEN := Lib.hid hlen
        clear hlen
        go_wp2_with fail
        refine (C5.out).mono ?_
        rintro e w3 ⟨p', cap', rfl, ho, b3⟩
        have L5 := Lib.hid (bthen L3.out b3)
        have Z5 := Z3.out.next b3
        have c5 := cell_of_one Z5; have f5 := free_of_one Z5
        have r5 (v : Value) := cellSame c5 v
        have HO := Lib.hid ho
        clear b3 x3 Z5 ho
        go_wp2
        refine bodyPost_ret (v := .tuple #[.agg #[.slice p' lc.length cap'], .int .i64 0]) (by simp [results, Try.results29, go_sem, r5]) rfl ?_
        exact ⟨_, _, _, _, rfl, Lib.hid (.inr (.inr (.inr ⟨HM.out, h8, 0, (HLR.out lc fun _ => rfl).ft HM.out, .inr ⟨rfl, HLR.out lc fun _ => rfl, rfl⟩⟩))), Lib.hid (Joins.ownsRow_le (HO.out.other (b := w.heap.size + 1) (by omega) 0 _) (by omega)), L5.out.setCell (by simp) _⟩
      · have hc2 : (c' != 0) = true := by rw [bne_iff_ne]; exact hc
        have HC := Lib.hid hc
        clear hc
        go_wp2_with fail
        refine (asItWasC p cap l w2 HAD.out HS.out R3.out).mono ?_
        rintro e w3 ⟨p', cap', rfl, ho, b3⟩
        have L4 := Lib.hid (bthen L3.out b3)
        have Z4 := Z3.out.next b3
        have c4 := cell_of_one Z4; have f4 := free_of_one Z4
        have r4 (v : Value) := cellSame c4 v
        have HO := Lib.hid ho
        clear b3 x3 Z4 ho
        go_wp2
        refine bodyPost_ret (v := .tuple #[.agg #[.slice p' l.length cap'], .int .i64 c']) (by simp [results, Try.results29, go_sem, r4]) rfl ?_
        exact ⟨_, _, _, _, rfl, Lib.hid (.inr (.inr (.inr ⟨HM.out, h8, c', (HLR.out [] fun h => absurd h HC.out).ft HM.out, .inl ⟨HC.out, rfl, rfl⟩⟩))), Lib.hid (Joins.ownsRow_le (HO.out.other (b := w.heap.size + 1) (by omega) 0 _) (by omega)), L4.out.setCell (by simp) _⟩
    · have h81 : (8192 : Int) < (t.size : Int) := by omega
      have h82 : 8192 < t.size := by omega
      go_wp2_with fail
      rw [← HV.out]
      refine (asItWasC p cap l V HAD.out HS.out A2.out.2.2).mono ?_
      rintro e w3 ⟨p', cap', rfl, ho, b3⟩
      have L4 := Lib.hid (bthen L2.out b3)
      have Z4 := Z2.out.next b3
      have c4 := cell_of_one Z4; have f4 := free_of_one Z4
      have r4 (v : Value) := cellSame c4 v
      have HO := Lib.hid ho
      have hv := HVS.out
      clear b3 x1 Z4 ho
      go_wp2
      refine bodyPost_ret (v := .tuple #[.agg #[.slice p' l.length cap'], .int .i64 13]) (by simp [results, Try.results29, go_sem, r4]) rfl ?_
      exact ⟨_, _, _, _, rfl, Lib.hid (.inr (.inr (.inl ⟨hb3, HM.out, h82, rfl, rfl⟩))), Lib.hid (Joins.ownsRow_le (HO.out.other (b := w.heap.size + 1) (by omega) 0 _) (by omega)), L4.out.setCell (by simp) _⟩
end Go.Proofs.Ytceoomihncchfaa
