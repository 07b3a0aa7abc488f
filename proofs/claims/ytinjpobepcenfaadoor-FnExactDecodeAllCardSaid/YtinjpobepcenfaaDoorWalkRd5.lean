/-
  What memory and place of impl's reader do, as the document's places: the place that ModRM tells, or a panic at the text's end, changing nothing but the reader; conditions: those in each head.
-/
import Derived.Test.YtinjpobepcenfaaDoorWalkRd4
namespace Go.Proofs.YtinjpobepcenfaaDoor
open Go.RowKit Go.Sort
set_option linter.unusedVariables false
theorem dispD_some {s : ByteArray} {n k : Nat} {b i c : Int} {x : Opd} {n' : Nat} (h : dispD s n k b i c = some (x, n')) : n + k ≤ s.size ∧ x = memOpd b i c (if k = 0 then 0 else sgV s n k) ∧ n' = n + k := by
  unfold dispD at h
  split at h
  · rename_i hle
    simp only [Option.some.injEq, Prod.mk.injEq] at h
    exact ⟨hle, h.1.symm, h.2.symm⟩
  · cases h
theorem dispD_none {s : ByteArray} {n k : Nat} {b i c : Int} (h : dispD s n k b i c = none) : s.size < n + k := by
  unfold dispD at h
  split at h
  · cases h
  · omega
theorem modK0 : modK 0 = 0 := rfl
theorem modK1 : modK 1 = 1 := rfl
theorem modK2 : modK 2 = 4 := rfl
theorem Rd.same {R : Rd} {n' : Nat} (h : n' = R.n + 0) : ({ R with n := n' } : Rd) = R := by subst h; rfl
theorem memYes (g : Nat) (R : Rd) (W0 w : World) (h : At W0 w g R) (hx : R.rex < 80) (hmd : R.md < 3) (hrm : R.rm < 8) {x : Opd} {n' : Nat} (hd : memD R.t R.n R.md R.rm R.rex = some (x, n')) :
    Calls Tryd.prog 121 #[.pointer (some ⟨g, 0, none⟩)] w fun e w' => e = .returned (V7 x) ∧ Wr W0 w w' g { R with n := n' } := by
  unfold memD at hd
  by_cases h4 : R.rm = 4
  · rw [if_pos h4] at hd
    by_cases hn : R.n < R.t.size
    · rw [if_pos hn] at hd
      by_cases h5 : R.md = 0 ∧ nb R.t R.n % 8 = 5
      · rw [if_pos h5] at hd
        obtain ⟨hk, rfl, rfl⟩ := dispD_some hd
        rw [if_neg (by decide)]
        exact mem_1ip4 g R W0 w _ _ _ _ h hx h5.1 hrm h4 hn rfl rfl h5.2 rfl rfl hk
      · rw [if_neg h5] at hd
        obtain ⟨hk, rfl, rfl⟩ := dispD_some hd
        rcases (show R.md = 0 ∨ R.md = 1 ∨ R.md = 2 by omega) with hm | hm | hm
        · have e : modK R.md = 0 := by rw [hm]; rfl
          rw [e, if_pos rfl, Nat.add_zero]
          exact mem_1b0 g R W0 w _ _ _ h hx hm hrm h4 hn rfl rfl (fun e => h5 ⟨hm, e⟩) rfl
        · have e : modK R.md = 1 := by rw [hm]; rfl
          rw [e] at hk
          rw [e, if_neg (by decide)]
          exact mem_1b1 g R W0 w _ _ _ _ h hx hm hrm h4 hn rfl rfl rfl rfl hk
        · have e : modK R.md = 4 := by rw [hm]; rfl
          rw [e] at hk
          rw [e, if_neg (by decide)]
          exact mem_1b4 g R W0 w _ _ _ _ h hx hm hrm h4 hn rfl rfl rfl rfl hk
    · rw [if_neg hn] at hd; cases hd
  · rw [if_neg h4] at hd
    by_cases h5 : R.md = 0 ∧ R.rm = 5
    · rw [if_pos h5] at hd
      obtain ⟨hk, rfl, rfl⟩ := dispD_some hd
      rw [if_neg (by decide)]
      exact mem_0ip4 g R W0 w _ _ h hx h5.1 hrm h5.2 rfl rfl hk
    · rw [if_neg h5] at hd
      obtain ⟨hk, rfl, rfl⟩ := dispD_some hd
      rcases (show R.md = 0 ∨ R.md = 1 ∨ R.md = 2 by omega) with hm | hm | hm
      · have e : modK R.md = 0 := by rw [hm]; rfl
        rw [e, if_pos rfl, Nat.add_zero]
        exact mem_0b0 g R W0 w _ h hx hm hrm h4 (fun e => h5 ⟨hm, e⟩) rfl
      · have e : modK R.md = 1 := by rw [hm]; rfl
        rw [e] at hk
        rw [e, if_neg (by decide)]
        exact mem_0b1 g R W0 w _ _ h hx hm hrm h4 rfl rfl hk
      · have e : modK R.md = 4 := by rw [hm]; rfl
        rw [e] at hk
        rw [e, if_neg (by decide)]
        exact mem_0b4 g R W0 w _ _ h hx hm hrm h4 rfl rfl hk
set_option maxHeartbeats 400000 in
theorem memShort (g : Nat) (R : Rd) (W0 w : World) (aE aR : Addr) (hsn : Sent W0 aE aR) (h : At W0 w g R) (h4 : R.rm = 4) (hn : R.t.size ≤ R.n) :
    Calls Tryd.prog 121 #[.pointer (some ⟨g, 0, none⟩)] w fun e w' => e = endP ∧ Ch w w' g := by
  have M0 := MS.newX h 0 (-1) 1 0
  have CS := Lib.hid (fun q => sibNo g R W0 _ q aE aR hsn M0.at' hn)
  have hlt := h.lt
  have c12 := h.rb.cell 12
  simp only [rdA, List.getElem?_toArray, List.getElem?_cons_zero, List.getElem?_cons_succ] at c12
  rw [h4] at c12
  clear h hn hsn M0 h4
  unfold endP at *
  go_enter Tryd.func121, Tryd.ntmps121
  go_wp2_with fail
  refine Calls.mono (CS.out _) ?_
  rintro e w1 ⟨rfl, h1⟩
  go_wp2
  exact ⟨rfl, rfl, (ch_alloc w _ g).trans ((ch_alloc _ _ g).trans h1)⟩
theorem memNo (g : Nat) (R : Rd) (W0 w : World) (aE aR : Addr) (hsn : Sent W0 aE aR) (h : At W0 w g R) (hx : R.rex < 80) (hmd : R.md < 3) (hrm : R.rm < 8) (hd : memD R.t R.n R.md R.rm R.rex = none) :
    Calls Tryd.prog 121 #[.pointer (some ⟨g, 0, none⟩)] w fun e w' => e = endP ∧ Ch w w' g := by
  unfold memD at hd
  have hle := h.le
  by_cases h4 : R.rm = 4
  · rw [if_pos h4] at hd
    by_cases hn : R.n < R.t.size
    · rw [if_pos hn] at hd
      by_cases h5 : R.md = 0 ∧ nb R.t R.n % 8 = 5
      · rw [if_pos h5] at hd
        exact mem_1ip4n g R W0 w aE aR hsn _ _ _ h hx h5.1 hrm h4 hn rfl rfl h5.2 rfl (dispD_none hd)
      · rw [if_neg h5] at hd
        have hk := dispD_none hd
        rcases (show R.md = 0 ∨ R.md = 1 ∨ R.md = 2 by omega) with hm | hm | hm
        · rw [hm, modK0] at hk; omega
        · rw [hm, modK1] at hk
          exact mem_1b1n g R W0 w aE aR hsn _ _ _ h hx hm hrm h4 hn rfl rfl rfl hk
        · rw [hm, modK2] at hk
          exact mem_1b4n g R W0 w aE aR hsn _ _ _ h hx hm hrm h4 hn rfl rfl rfl hk
    · exact memShort g R W0 w aE aR hsn h h4 (by omega)
  · rw [if_neg h4] at hd
    by_cases h5 : R.md = 0 ∧ R.rm = 5
    · rw [if_pos h5] at hd
      exact mem_0ip4n g R W0 w aE aR hsn _ h hx h5.1 hrm h5.2 rfl (dispD_none hd)
    · rw [if_neg h5] at hd
      have hk := dispD_none hd
      rcases (show R.md = 0 ∨ R.md = 1 ∨ R.md = 2 by omega) with hm | hm | hm
      · rw [hm, modK0] at hk; omega
      · rw [hm, modK1] at hk
        exact mem_0b1n g R W0 w aE aR hsn _ h hx hm hrm h4 rfl hk
      · rw [hm, modK2] at hk
        exact mem_0b4n g R W0 w aE aR hsn _ h hx hm hrm h4 rfl hk
set_option maxHeartbeats 1000000 in
theorem place3 (g : Nat) (sz : Int) (R : Rd) (W0 w : World) (h : At W0 w g R) (hx : R.rex < 80) (hmd : R.md = 3) (hrm : R.rm < 8) :
    Calls Tryd.prog 97 #[.pointer (some ⟨g, 0, none⟩), .int .i64 sz] w fun e w' => e = .returned (V7 (bReg (R.rm + extB R.rex 0) sz R.rex)) ∧ Wr W0 w w' g R := by
  have c10 := h.rb.cell 10
  have c12 := h.rb.cell 12
  simp only [rdA, List.getElem?_toArray, List.getElem?_cons_zero, List.getElem?_cons_succ] at c10 c12
  rw [hmd] at c10
  have bz := bel_alloc w (.cells (opdL noOpd).toArray 25)
  have hz := Zo.new w
  have hlt := h.lt
  have A0 := h.below bz
  have CE := Lib.hid (extC0 g R.rm 0 1 R W0 _ A0 (by decide) (by decide) hx (by omega))
  have hle := extB_le R.rex 0
  have CS := Lib.hid (sizedC g (R.rm + extB R.rex 0) sz R W0 _ A0 (by omega))
  have H := Lib.hid h
  clear h A0 hx hle hrm hmd
  go_enter Tryd.func97, Tryd.ntmps97
  go_wp2_with fail
  refine Calls.mono CE.out ?_
  rintro e w1 ⟨rfl, rfl⟩
  go_wp2_with fail
  refine Calls.mono CS.out ?_
  rintro e w1 ⟨rfl, hb⟩
  have HB := Lib.hid (bthen' bz hb); have HZ := Lib.hid (hz.below hb)
  clear hb bz hz
  obtain ⟨x, hxx⟩ : ∃ x, x = bReg (R.rm + extB R.rex 0) sz R.rex := ⟨_, rfl⟩
  rw [← hxx]
  have HX := Lib.hid hxx
  clear hxx
  go_wp2_with (refine wpList_store_row rfl 25 (.tmp 4) (.tmp 18) rfl w.heap.size (opdL x).toArray rfl rfl 25 _ HZ.out (by kernel_rfl) rfl (opd_one _) ?_)
  refine bodyPost_ret (v := .agg (opdL x).toArray) (by exact results_cell_row Tryd.results97 _ _ w.heap.size 25 (opdL x).toArray (0, 0) _ rfl (setRow_heap _ _ _ _ _ _ HZ.out) Tryd.underlying25 rfl (by kernel_rfl)) (by rfl) ⟨by rw [← HX.out]; rfl, Wr.row H.out ⟨H.out.below HB.out, Ch.of_below HB.out⟩⟩
set_option maxHeartbeats 1000000 in
theorem placeM (g : Nat) (sz : Int) (R R' : Rd) (W0 w : World) (x : Opd) (h : At W0 w g R) (hmd : R.md < 3)
    (C : ∀ W, At W0 W g R → Calls Tryd.prog 121 #[.pointer (some ⟨g, 0, none⟩)] W fun e w' => e = .returned (V7 x) ∧ Wr W0 W w' g R') :
    Calls Tryd.prog 97 #[.pointer (some ⟨g, 0, none⟩), .int .i64 sz] w fun e w' => e = .returned (V7 x) ∧ Wr W0 w w' g R' := by
  have c10 := h.rb.cell 10
  simp only [rdA, List.getElem?_toArray, List.getElem?_cons_zero, List.getElem?_cons_succ] at c10
  have d3 : ((R.md : Int) == 3) = false := beq_eq_false_iff_ne.mpr (by omega)
  have bz := bel_alloc w (.cells (opdL noOpd).toArray 25)
  have hz := Zo.new w
  have hlt := h.lt
  have CM := Lib.hid (C _ (h.below bz))
  have H := Lib.hid h
  clear h hmd C
  go_enter Tryd.func97, Tryd.ntmps97
  go_wp2_with fail
  refine Calls.mono CM.out ?_
  rintro e w1 ⟨rfl, h1⟩
  have HW := Lib.hid (Wr.pre bz h1); have HZ := Lib.hid (hz.ch h1.2 (zne H.out))
  clear h1 bz hz
  go_wp2_with (refine wpList_store_row rfl 25 (.tmp 4) (.tmp 20) rfl w.heap.size (opdL x).toArray rfl rfl 25 _ HZ.out (by kernel_rfl) rfl (opd_one _) ?_)
  refine bodyPost_ret (v := .agg (opdL x).toArray) (by exact results_cell_row Tryd.results97 _ _ w.heap.size 25 (opdL x).toArray (0, 0) _ rfl (setRow_heap _ _ _ _ _ _ HZ.out) Tryd.underlying25 rfl (by kernel_rfl)) (by rfl) ⟨rfl, HW.out.row H.out⟩
set_option maxHeartbeats 400000 in
theorem placeMNo (g : Nat) (sz : Int) (R : Rd) (W0 w : World) (h : At W0 w g R) (hmd : R.md < 3)
    (C : ∀ W, At W0 W g R → Calls Tryd.prog 121 #[.pointer (some ⟨g, 0, none⟩)] W fun e w' => e = endP ∧ Ch W w' g) :
    Calls Tryd.prog 97 #[.pointer (some ⟨g, 0, none⟩), .int .i64 sz] w fun e w' => e = endP ∧ Ch w w' g := by
  have c10 := h.rb.cell 10
  simp only [rdA, List.getElem?_toArray, List.getElem?_cons_zero, List.getElem?_cons_succ] at c10
  have d3 : ((R.md : Int) == 3) = false := beq_eq_false_iff_ne.mpr (by omega)
  have hlt := h.lt
  have CM := Lib.hid (C _ (h.below (bel_alloc w (.cells (opdL noOpd).toArray 25))))
  clear h hmd C
  unfold endP at *
  go_enter Tryd.func97, Tryd.ntmps97
  go_wp2_with fail
  refine Calls.mono CM.out ?_
  rintro e w1 ⟨rfl, h1⟩
  go_wp2
  exact ⟨rfl, rfl, (ch_alloc w _ g).trans h1⟩
theorem placeYes (g : Nat) (sz : Int) (R : Rd) (W0 w : World) (h : At W0 w g R) (hx : R.rex < 80) (hmd : R.md < 4) (hrm : R.rm < 8) {x : Opd} {n' : Nat} (hd : placeD R.t R.n R.md R.rm R.rex sz = some (x, n')) :
    Calls Tryd.prog 97 #[.pointer (some ⟨g, 0, none⟩), .int .i64 sz] w fun e w' => e = .returned (V7 x) ∧ Wr W0 w w' g { R with n := n' } := by
  unfold placeD at hd
  by_cases h3 : R.md = 3
  · rw [if_pos h3] at hd
    simp only [Option.some.injEq, Prod.mk.injEq] at hd
    obtain ⟨rfl, rfl⟩ := hd
    exact place3 g sz R W0 w h hx h3 hrm
  · rw [if_neg h3] at hd
    exact placeM g sz R _ W0 w x h (by omega) fun W hW => memYes g R W0 W hW hx (by omega) hrm hd
theorem placeNo (g : Nat) (sz : Int) (R : Rd) (W0 w : World) (aE aR : Addr) (hsn : Sent W0 aE aR) (h : At W0 w g R) (hx : R.rex < 80) (hmd : R.md < 4) (hrm : R.rm < 8) (hd : placeD R.t R.n R.md R.rm R.rex sz = none) :
    Calls Tryd.prog 97 #[.pointer (some ⟨g, 0, none⟩), .int .i64 sz] w fun e w' => e = endP ∧ Ch w w' g := by
  unfold placeD at hd
  by_cases h3 : R.md = 3
  · rw [if_pos h3] at hd; cases hd
  · rw [if_neg h3] at hd
    exact placeMNo g sz R W0 w h (by omega) fun W hW => memNo g R W0 W aE aR hsn hW hx (by omega) hrm hd
end Go.Proofs.YtinjpobepcenfaaDoor
