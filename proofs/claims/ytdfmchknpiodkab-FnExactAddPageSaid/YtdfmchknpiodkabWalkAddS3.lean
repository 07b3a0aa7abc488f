/-
  What spec.AddPage does: the memory with one page more, in new memory, and a code, changing nothing that was there; conditions: those in each head.
-/
import Derived.Test.YtdfmchknpiodkabWalkAddS2
namespace Go.Proofs.Ytdfmchknpiodkab
open Go.RowKit Go.Sort
set_option maxHeartbeats 1000000 in
theorem addS (b off cap : Nat) (l : List Pg) (base perm : Int) (w : World) (hs : Small l) (hr : Rd w (some ⟨b, off, none⟩) l) (h1 : -9223372036854775808 ≤ base) (h2 : base ≤ 9223372036854775807) :
    Calls Try.prog 5 #[.agg #[.slice (some ⟨b, off, none⟩) l.length cap], .int .i64 base, .int .i64 perm] w fun e w' => ∃ l' p' cap' c, e = .returned (.tuple #[.agg #[.slice p' l'.length cap'], .int .i64 c]) ∧ Hid (AddOut l base perm l' c) ∧ Hid (Owns w' w.heap.size p' cap' l') ∧ Below w.heap.size w w' := by
  obtain ⟨W, hW⟩ : ∃ W, W = (w.alloc (.cells #[.slice (some ⟨b, off, none⟩) l.length cap] 28)).alloc (.cells #[.slice none 0 0] 28) := ⟨_, rfl⟩
  have hWs : W.heap.size = w.heap.size + 1 + 1 := by rw [hW]; simp
  have L0 : Hid (Below w.heap.size w W) := Lib.hid (by rw [hW]; exact head2_below _ _)
  have Z0 : Hid (Cz W (w.heap.size + 1)) := Lib.hid (by rw [hW]; exact head2 _ _)
  have A0 : Hid (Bx W w.heap.size (some ⟨b, off, none⟩) cap l) := Lib.hid (by rw [hW]; exact head2_bx hr)
  have HW := Lib.hid hW; have HWS := Lib.hid hWs; have HS := Lib.hid hs
  clear hr hW hs hWs
  go_enter Try.func5, Try.ntmps5
  go_wp2_with fail
  rw [← HW.out]
  refine (specOk _ cap l W HS.out.fits A0.out.2.2).mono ?_
  rintro e w1 ⟨rfl, b1⟩
  have L1 := Lib.hid (bthen L0.out b1); have A1 := Lib.hid (A0.out.next b1); have Z1 := Lib.hid (Z0.out.next b1)
  have hw1 : w.heap.size + 1 + 1 ≤ w1.heap.size := by have := b1.size; have := HWS.out; omega
  have x1 := A1.out.2.1
  have c1 := cell_of_one Z1.out; have f1 := free_of_one Z1.out
  clear b1 L0 A0 Z0
  by_cases hm : MemOk l
  · have hy := okB_yes hm
    have HM := Lib.hid hm
    clear hm
    by_cases hbp : BaseOk base ∧ PermOk perm
    · have C := Lib.hid (fun W => baseYes base W hbp.1); have C2 := Lib.hid (fun W => permYes perm W hbp.2)
      have HBP := Lib.hid hbp
      clear hbp
      go_wp2_with (first | (go_at_call 13; refine (C.out _).mono ?_; rintro e wz ⟨rfl, rfl⟩) | (go_at_call 14; refine (C2.out _).mono ?_; rintro e wz ⟨rfl, rfl⟩))
      refine (findS _ cap l base _ HM.out A1.out.2.2 h1 h2).mono ?_
      rintro e w2 ⟨r, rfl, HFd, b2⟩
      have L2 := Lib.hid (bthen L1.out b2); have A2 := Lib.hid (A1.out.next b2); have Z2 := Lib.hid (Z1.out.next b2)
      have hw2 : w.heap.size + 1 + 1 ≤ w2.heap.size := by have := b2.size; omega
      have x2 := A2.out.2.1
      clear b2 x1 c1 f1 C C2
      rcases HFd.out with ⟨k, x, hh, rfl⟩ | ⟨hno, rfl⟩
      · have HH := Lib.hid hh
        have hk0 : decide ((0 : Int) ≤ (k : Int)) = true := decide_eq_true (by omega)
        clear hh
        go_wp2_with fail
        refine (l02OwnC b off cap l w2 HS.out.1 A2.out.2.2).mono ?_
        rintro e w3 ⟨g', cap', rfl, ho, b3⟩
        have L3 := Lib.hid (bthen L2.out b3)
        have Z3 := Z2.out.next b3
        have c3 := cell_of_one Z3; have f3 := free_of_one Z3
        have r3 (v : Value) := cellSame c3 v
        have HO := Lib.hid ho
        clear b3 x2 Z3 ho
        go_wp2
        refine bodyPost_ret (v := .tuple #[.agg #[.slice (some ⟨g', 0, none⟩) l.length cap'], .int .i64 13]) (by simp [results, Try.results5, go_sem, r3]) rfl ?_
        refine ⟨_, _, _, _, rfl, Lib.hid (.inr (.inr (.inl ⟨HM.out, HBP.out, ⟨k, x, HH.out.1, ?_⟩, rfl, rfl⟩))), Lib.hid (Joins.ownsRow_le (HO.out.other (b := w.heap.size + 1) (by omega) 0 _) (by omega)), L3.out.setCell (by simp) _⟩
        have h3 := HBP.out.1.2.2
        have h4 := (HM.out.2.1 k x HH.out.1).2.2.1
        have h5 := HH.out.2
        omega
      · have hno2 : ∀ (k : Nat) x, l[k]? = some x → x.b ≠ base := fun k x hk e => hno k x ⟨hk, by omega, by omega⟩
        have HN := Lib.hid hno2
        have hpl := cnt_spec HM.out base
        have HPL : Hid (PlaceAt l base (cnt l base)) := Lib.hid hpl
        clear hno hno2 hpl
        have hl32 : l.length ≤ 32 := HM.out.1
        by_cases h32 : l.length = 32
        · have hq : ((l.length : Int) == 32) = true := beq_iff_eq.2 (by omega)
          have H32 := Lib.hid h32
          clear h32
          go_wp2_with fail
          refine (l02OwnC b off cap l w2 HS.out.1 A2.out.2.2).mono ?_
          rintro e w3 ⟨g', cap', rfl, ho, b3⟩
          have L3 := Lib.hid (bthen L2.out b3)
          have Z3 := Z2.out.next b3
          have c3 := cell_of_one Z3; have f3 := free_of_one Z3
          have r3 (v : Value) := cellSame c3 v
          have HO := Lib.hid ho
          clear b3 x2 Z3 ho
          go_wp2
          refine bodyPost_ret (v := .tuple #[.agg #[.slice (some ⟨g', 0, none⟩) l.length cap'], .int .i64 7]) (by simp [results, Try.results5, go_sem, r3]) rfl ?_
          exact ⟨_, _, _, _, rfl, Lib.hid (.inr (.inr (.inr (.inl ⟨HM.out, HBP.out, HN.out, H32.out, rfl, rfl⟩)))), Lib.hid (Joins.ownsRow_le (HO.out.other (b := w.heap.size + 1) (by omega) 0 _) (by omega)), L3.out.setCell (by simp) _⟩
        · have hq : ((l.length : Int) == 32) = false := by simpa using (show ¬ ((l.length : Int) = 32) by omega)
          have H32 := Lib.hid h32
          clear h32
          go_wp2_with fail
          refine (l02AddC (some ⟨b, off, none⟩) cap (cnt l base) l base perm w2 hl32 A2.out.2.2 HPL.out HN.out).mono ?_
          rintro e w3 ⟨p', cap', rfl, ho, b3⟩
          have L3 := Lib.hid (bthen L2.out b3)
          have Z3 := Z2.out.next b3
          have c3 := cell_of_one Z3; have f3 := free_of_one Z3
          have r3 (v : Value) := cellSame c3 v
          have HO := Lib.hid ho
          clear b3 x2 Z3 ho
          go_wp2
          refine bodyPost_ret (v := .tuple #[.agg #[.slice p' (insL l (cnt l base) ⟨base, perm, zeros256⟩).length cap'], .int .i64 0]) (by simp [results, Try.results5, go_sem, r3]) rfl ?_
          exact ⟨_, _, _, _, rfl, Lib.hid (.inr (.inr (.inr (.inr ⟨HM.out, HBP.out, HN.out, H32.out, ⟨_, HPL.out, rfl⟩, rfl⟩)))), Lib.hid (Joins.ownsRow_le (HO.out.other (b := w.heap.size + 1) (by omega) 0 _) (by omega)), L3.out.setCell (by simp) _⟩
    · have HBP := Lib.hid hbp
      have r1 (v : Value) := cellSame c1 v
      by_cases hb : BaseOk base
      · have C := Lib.hid (fun W => baseYes base W hb); have C2 := Lib.hid (fun W => permNo perm W (fun h => hbp ⟨hb, h⟩))
        clear hbp hb
        go_wp2_with (first | (go_at_call 13; refine (C.out _).mono ?_; rintro e wz ⟨rfl, rfl⟩) | (go_at_call 14; refine (C2.out _).mono ?_; rintro e wz ⟨rfl, rfl⟩))
        refine bodyPost_ret (v := .tuple #[.agg #[.slice none 0 0], .int .i64 4]) (by simp [results, Try.results5, go_sem, r1]) rfl ?_
        exact ⟨[], _, _, _, rfl, Lib.hid (.inr (.inl ⟨HM.out, HBP.out, rfl, rfl⟩)), Lib.hid (owns_nil _ _), L1.out.setCell (by simp) _⟩
      · have C := Lib.hid (fun W => baseNo base W hb)
        clear hbp hb
        go_wp2_with (first | (go_at_call 13; refine (C.out _).mono ?_; rintro e wz ⟨rfl, rfl⟩))
        refine bodyPost_ret (v := .tuple #[.agg #[.slice none 0 0], .int .i64 4]) (by simp [results, Try.results5, go_sem, r1]) rfl ?_
        exact ⟨[], _, _, _, rfl, Lib.hid (.inr (.inl ⟨HM.out, HBP.out, rfl, rfl⟩)), Lib.hid (owns_nil _ _), L1.out.setCell (by simp) _⟩
  · have hn := okB_no hm
    have HM := Lib.hid hm
    have r1 (v : Value) := cellSame c1 v
    clear hm
    go_wp2
    refine bodyPost_ret (v := .tuple #[.agg #[.slice none 0 0], .int .i64 1]) (by simp [results, Try.results5, go_sem, r1]) rfl ?_
    exact ⟨[], _, _, _, rfl, Lib.hid (.inl ⟨HM.out, rfl, rfl⟩), Lib.hid (owns_nil _ _), L1.out.setCell (by simp) _⟩
end Go.Proofs.Ytdfmchknpiodkab
