/-
  What spec.l02Put does: bytes laid into a copy of a memory, page by page, changing nothing that was there; conditions: those in each head.
-/
import Derived.Test.YtcchcinnjahghaaDoorWalkLay
namespace Go.Proofs.YtcchcinnjahghaaDoor
open Go.RowKit Go.Sort
/-- the copy while bytes are laid: page by page -/
def PI (w wr : World) (Bk cap g : Nat) (l : List Pg) (a : Int) (t : ByteArray) (k : Nat) (A : Int) (T : ByteArray) (lc : List Pg) : Prop :=
  A = a + k ∧ T = t.extract k t.size ∧ k ≤ t.size ∧ Shape l lc ∧ (∀ l' c', LayR 0 lc (a + k) (t.extract k t.size) l' c' → LayR 0 l a t l' c') ∧ Owns wr Bk (some ⟨g, 0, none⟩) cap lc ∧ wr.heap[w.heap.size]? = some (.cells #[.slice (some ⟨g, 0, none⟩) l.length cap] 36 (0, 0)) ∧ Cz wr (w.heap.size + 1) ∧ Below w.heap.size w wr
theorem PI.step {w wr w1 : World} {Bk cap g : Nat} {l : List Pg} {a : Int} {t : ByteArray} {k : Nat} {A : Int} {T : ByteArray} {lc : List Pg} {j : Nat} {x : Pg} (h : PI w wr Bk cap g l a t k A T lc) (hm : MemOk l) (hBk : w.heap.size + 1 < Bk) (hk : 0 < T.size) (b1 : Below wr.heap.size wr w1) (hh : Has lc A j x) :
    PI w ((w1.setCell ⟨g, j * 3 + 2, none⟩ (.string (wrB x.d (A - x.b).toNat T (much x A T)))).drew) Bk cap g l a t (k + much x A T) (A + (much x A T : Nat)) (T.extract (much x A T) T.size) (lc.set j ⟨x.b, x.p, wrB x.d (A - x.b).toNat T (much x A T)⟩) := by
  obtain ⟨rfl, rfl, hkt, i1, i2, i3, i4, i5, i6⟩ := h
  have hmc := i1.ok hm
  have hcs := cut_size t k
  have hs := shape_set (t := t.extract k t.size) hmc hh hk
  have hmu := much_bounds (t := t.extract k t.size) hh hk
  have hT : Owns w1 Bk (some ⟨g, 0, none⟩) cap lc := own_below i3 b1
  have e4 := (b1.block _ (lt_of_block i4)).trans i4
  have e5 := i5.next b1
  have hg : Bk ≤ g := (hT.lt g rfl).1
  refine ⟨by omega, cut_cut t k _, by omega, i1.trans hs, fun l' c' hl => i2 l' c' (.step _ _ _ j x l' c' (by omega) hh (allow0 _) ?_), ?_, ?_, ?_, ?_⟩
  · rw [cut_cut]
    rw [show a + (k : Int) + ((much x (a + k) (t.extract k t.size) : Nat) : Int) = a + ((k + much x (a + k) (t.extract k t.size) : Nat) : Int) by omega]
    exact hl
  · have o1 := (hT.stored (j * 3 + 2) (.string (wrB x.d (a + k - x.b).toNat (t.extract k t.size) (much x (a + k) (t.extract k t.size))))).1
    rw [PV_set2 hh.1] at o1
    unfold Owns
    rw [List.length_set]
    exact own_below o1 (below_drew1 _)
  · exact (Below.heap_setCell _ _ _ _ (by simp; omega)).trans e4
  · exact (Below.heap_setCell _ _ _ _ (by simp; omega)).trans e5
  · exact ((bthen i6 b1).setCell (by simp; omega) _).trans (below_draw 1)
set_option maxHeartbeats 1000000 in
theorem l02PutG (b off cap : Nat) (l : List Pg) (a : Int) (t : ByteArray) (w : World) (hs : l.length ≤ 1048576) (hm : MemOk l) (hr : Rd w (some ⟨b, off, none⟩) l) (hft : ∀ i : Nat, i < t.size → ∃ v, ByteAt l 0 (a + i) v) :
    Calls Tryd.prog 52 #[.agg #[.slice (some ⟨b, off, none⟩) l.length cap], .int .i64 a, .string t] w fun e w' => ∃ g' cap' l', e = .returned (.agg #[.slice (some ⟨g', 0, none⟩) l'.length cap']) ∧ Hid (LayR 0 l a t l' 0) ∧ Owns w' w.heap.size (some ⟨g', 0, none⟩) cap' l' ∧ Below w.heap.size w w' := by
  obtain ⟨W, hW⟩ : ∃ W, W = (w.alloc (.cells #[.slice (some ⟨b, off, none⟩) l.length cap] 36)).alloc (.cells #[.slice none 0 0] 36) := ⟨_, rfl⟩
  have hWs : W.heap.size = w.heap.size + 1 + 1 := by rw [hW]; simp
  have L0 : Hid (Below w.heap.size w W) := Lib.hid (by rw [hW]; exact head2_below _ _)
  have Z0 : Hid (Cz W (w.heap.size + 1)) := Lib.hid (by rw [hW]; exact head2 _ _)
  have hM0 : W.heap[w.heap.size]? = some (.cells #[.slice (some ⟨b, off, none⟩) l.length cap] 36 (0, 0)) := by rw [hW]; exact (Below.heap_alloc _ _ _ (by simp)).trans (heap_alloc_new w _)
  have C := Lib.hid (l02OwnC b off cap l W hs (hr.below L0.out))
  have HW := Lib.hid hW; have HWS := Lib.hid hWs; have HM := Lib.hid hm; have HF := Lib.hid hft; have M0 := Lib.hid hM0
  clear hr hW hWs hm hft hM0
  go_enter Tryd.func52, Tryd.ntmps52
  go_wp2_with fail
  rw [← HW.out]
  refine (C.out).mono ?_
  rintro e w1 ⟨g, cap', rfl, ho, b1⟩
  have hM1 := (b1.block _ (lt_of_block M0.out)).trans M0.out
  have c1 := cell_of_one hM1; have f1 := free_of_one hM1
  have HI0 : Hid (PI w (w1.setCell ⟨w.heap.size, 0, none⟩ (.slice (some ⟨g, 0, none⟩) l.length cap')) W.heap.size cap' g l a t 0 a t l) := Lib.hid (by
    have hws := HWS.out
    refine ⟨by simp, (cut_all t).symm, Nat.zero_le _, Shape.refl l, fun l' c' h => by rw [cut_all] at h; simpa using h, ho.other (by omega) 0 _, one_setCell hM1, ?_, (bthen L0.out b1).setCell (by simp) _⟩
    exact (Below.heap_setCell _ _ _ _ (by simp)).trans (Z0.out.next b1))
  have hws1 : w.heap.size + 1 < W.heap.size := by have := HWS.out; omega
  clear ho b1 hM1 C
  go_wp2
  go_loopw [1, 2] (fun s1 s2 wr => ∃ A T, s1 = .int .i64 A ∧ s2 = .string T ∧ ∃ k lc, Hid (PI w wr W.heap.size cap' g l a t k A T lc)) (fun _ s2 _ => lenOf s2)
  case atStart => exact ⟨a, t, rfl, rfl, 0, l, HI0⟩
  case round =>
    obtain ⟨A, T, rfl, rfl, k, lc, HI⟩ := hrel
    have hTs : T.size = t.size - k := by rw [HI.out.2.1, cut_size]
    have x1 := cell_of_one HI.out.2.2.2.2.2.2.1
    have hlen : l.length = lc.length := HI.out.2.2.2.1.1
    have HMC := Lib.hid (HI.out.2.2.2.1.ok HM.out)
    by_cases hlt : 0 < T.size
    · have hlt2 : (0 : Int) < (T.size : Int) := by omega
      obtain ⟨j, x, hh⟩ : ∃ j x, Has lc A j x := by
        obtain ⟨v, j, x, hh, _⟩ := HI.out.2.2.2.1.byte' HM.out (HF.out k (by omega))
        exact ⟨j, x, by rw [HI.out.1]; exact hh⟩
      have C := Lib.hid (findHas (some ⟨g, 0, none⟩) cap' lc A j x wr HMC.out (Rd.of_own HI.out.2.2.2.2.2.1) hh)
      rw [← hlen] at C
      have HLEN := Lib.hid hlen; have HTS := Lib.hid hTs
      clear hlen hTs
      go_wp2_with fail
      refine (C.out).mono ?_
      rintro e w2 ⟨rfl, b2⟩
      have HN := Lib.hid (PI.step HI.out HM.out hws1 hlt b2 hh)
      have hT : Owns w2 W.heap.size (some ⟨g, 0, none⟩) cap' lc := own_below HI.out.2.2.2.2.2.1 b2
      obtain ⟨d0, d1, d2⟩ := own_pg hT hh.1
      have hfz := hT.frozenAt (j * 3 + 2)
      have hsz : x.d.size = 256 := (HMC.out.2.1 j x hh.1).2.2.2.2.2
      have hmu := much_bounds (t := T) hh hlt
      have hbd := has_bounds HMC.out hh
      have x2 := cell_of_one ((b2.block _ (lt_of_block HI.out.2.2.2.2.2.2.1)).trans HI.out.2.2.2.2.2.2.1)
      have hjl : j < l.length := by rw [HLEN.out]; exact (List.getElem?_eq_some_iff.1 hh.1).1
      have hl32 := HM.out.1
      obtain ⟨o, ho⟩ : ∃ o : Nat, A - x.b = (o : Int) := ⟨(A - x.b).toNat, by have := hh.2; omega⟩
      have ho2 : (A - x.b).toNat = o := by omega
      have ho3 : o < 256 := by have := hh.2; omega
      obtain ⟨n, hn⟩ : ∃ n : Nat, min (T.size : Int) (256 - (o : Int)) = (n : Int) := ⟨(min (T.size : Int) (256 - (o : Int))).toNat, by omega⟩
      have hmn : much x A T = n := by unfold much; omega
      rw [hmn] at HN hmu
      rw [ho2] at HN hmu
      have hxb := (HMC.out.2.1 j x hh.1)
      have hxb1 : 0 ≤ x.b := hxb.1
      have hxb2 : x.b ≤ 65535 := hxb.2.1
      have hn1 : 0 < n := by omega
      have hn2 : n ≤ T.size := by omega
      have hon : o + n ≤ 256 := by omega
      have hA1 : 0 ≤ A := hbd.1
      have hA2 : A ≤ 65535 := hbd.2
      clear hh b2 C hT hxb hbd hmu hmn ho2 x1
      have hwr : wrB x.d o T n = x.d.extract 0 o ++ T.extract 0 n ++ x.d.extract (o + n) 256 := by unfold wrB; rw [hsz]
      rw [hwr] at HN
      have S3 : Hid (lenOf (.string (T.extract n T.size)) < lenOf (.string T)) := Lib.hid (by show (T.extract n T.size).size < T.size; rw [cut_size]; omega)
      clear hwr
      go_wp2
      have ew : IntKind.i64.wrap ((o : Int) + (n : Int)) = ((o + n : Nat) : Int) := by rw [IntKind.wrap_i64]; omega
      have ho4 : o ≤ 256 := by omega
      have hn3 : (n : Int) ≤ (T.size : Int) := by omega
      have ho5 : (o : Int) ≤ 256 := by omega
      have hon2 : ((o + n : Nat) : Int) ≤ 256 := by omega
      clear hn ho hn1
      go_region
      go_wp2
      go_roundw
      case rel => exact ⟨_, _, rfl, rfl, k + n, _, HN⟩
      case measure => exact S3.out
    · have hT0 : T.size = 0 := by omega
      have HLEN := Lib.hid hlen; have HTS := Lib.hid hTs; have HT0 := Lib.hid hT0
      have Z1 := HI.out.2.2.2.2.2.2.2.1
      have c3 := cell_of_one Z1; have f3 := free_of_one Z1
      have r3 (v : Value) := cellSame c3 v
      clear hlen hTs Z1 hT0
      go_wp2
      refine bodyPost_ret (v := .agg #[.slice (some ⟨g, 0, none⟩) l.length cap']) (by simp [results, Tryd.results52, go_sem, r3]) rfl ?_
      refine ⟨_, _, lc, by rw [HLEN.out], Lib.hid (HI.out.2.2.2.2.1 lc 0 (.done _ _ _ (by rw [cut_size]; have := HTS.out; have := HT0.out; omega))), Joins.ownsRow_le (HI.out.2.2.2.2.2.1.other (b := w.heap.size + 1) (by omega) 0 _) (by omega), HI.out.2.2.2.2.2.2.2.2.setCell (by simp) _⟩
theorem l02PutC (b off cap : Nat) (l : List Pg) (a : Int) (t : ByteArray) (w : World) (hs : l.length ≤ 1048576) (hm : MemOk l) (hr : Rd w (some ⟨b, off, none⟩) l) (hft : ∀ i : Nat, i < t.size → ∃ v, ByteAt l 0 (a + i) v) :
    Calls Tryd.prog 52 #[.agg #[.slice (some ⟨b, off, none⟩) l.length cap], .int .i64 a, .string t] w fun e w' => ∃ p' cap' l', e = .returned (.agg #[.slice p' l'.length cap']) ∧ Hid (LayR 0 l a t l' 0) ∧ Owns w' w.heap.size p' cap' l' ∧ Below w.heap.size w w' :=
  (l02PutG b off cap l a t w hs hm hr hft).mono fun _ _ ⟨_, cap', l', h⟩ => ⟨_, cap', l', h⟩
end Go.Proofs.YtcchcinnjahghaaDoor
