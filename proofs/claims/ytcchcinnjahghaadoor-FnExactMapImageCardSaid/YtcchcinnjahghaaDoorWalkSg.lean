/-
  What laws.szImage, laws.toImage, laws.eqImage and their helpers do: the first answers -1 or a number that shows that the segments are few and their texts small, the second lays an image anew in memory of its own, the third answers true of images that are alike; none changes what was there; conditions: those in each head.
-/
import Derived.Test.YtcchcinnjahghaaDoorMathImg
import Derived.Shelf.SlSortCmp.QuietGrown
namespace Go.Proofs.YtcchcinnjahghaaDoor
open Go.RowKit Go.Sort
set_option linter.unusedVariables false
set_option linter.unusedSimpArgs false
def SmallS (l : List Sg) : Prop := l.length ≤ 1048576 ∧ ∀ (k : Nat) x, l[k]? = some x → x.d.size ≤ 1048576
/-- what is known of a list of pages that came in -/
def FitsS (l : List Sg) : Prop := l.length ≤ 9223372036854775807 ∧ ∀ (k : Nat) x, l[k]? = some x → x.d.size ≤ 9223372036854775807
set_option maxHeartbeats 400000 in
theorem szSgC (x : Sg) (left : Int) (w : World) (hw : x.d.size ≤ 9223372036854775807) (hl : 0 ≤ left) (hl2 : left ≤ 1048576) :
    Calls Tryd.prog 47 #[.agg #[.int .i64 x.f, .int .i64 x.v, .int .i64 x.m, .string x.d], .int .i64 left] w fun e w' => ∃ r : Int, e = .returned (.int .i64 r) ∧ Hid (-1 ≤ r ∧ r ≤ left ∧ (0 ≤ r → x.d.size ≤ 1048576)) ∧ Below w.heap.size w w' := by
  go_enter Tryd.func47, Tryd.ntmps47
  go_wp2
  · go_ret
    exact ⟨_, rfl, Lib.hid ⟨by omega, by omega, by omega⟩, (Below.refl _ _).alloc (Nat.le_refl _) _⟩
  · go_ret
    exact ⟨_, rfl, Lib.hid ⟨by omega, by omega, by omega⟩, (Below.refl _ _).alloc (Nat.le_refl _) _⟩
set_option maxHeartbeats 400000 in
theorem szSgSC (p : Option Addr) (cap : Nat) (l : List Sg) (left : Int) (w : World) (hr : RdS w p l) (hd : FitsS l) (hl : 0 ≤ left) (hl2 : left ≤ 1048576) :
    Calls Tryd.prog 23 #[.slice p l.length cap, .int .i64 left] w fun e w' => ∃ r : Int, e = .returned (.int .i64 r) ∧ Hid (-1 ≤ r ∧ r ≤ left ∧ (0 ≤ r → SmallS l)) ∧ Below w.heap.size w w' := by
  have HR := Lib.hid hr; have HD := Lib.hid hd.2
  have hn := hd.1
  clear hr hd
  by_cases h0 : left - (l.length : Int) < 0
  · go_enter Tryd.func23, Tryd.ntmps23
    go_wp2
    go_ret
    exact ⟨_, rfl, Lib.hid ⟨by omega, by omega, by omega⟩, Below.refl _ _⟩
  · have h1 : 0 ≤ left - (l.length : Int) := by omega
    clear h0
    go_enter Tryd.func23, Tryd.ntmps23
    go_wp2
    go_loopw [1, 5] (fun s i wr => ∃ (k : Nat) (r : Int), k ≤ l.length ∧ i = .int .i64 k ∧ s = .int .i64 r ∧ 0 ≤ r ∧ r ≤ left ∧ Hid (∀ (j : Nat) x, j < k → l[j]? = some x → x.d.size ≤ 1048576) ∧ Below w.heap.size w wr) (fun _ i _ => l.length - (intOf i).toNat)
    case atStart => exact ⟨0, _, Nat.zero_le _, rfl, rfl, h1, by omega, Lib.hid (fun j x h => by omega), Below.refl _ _⟩
    case round =>
      obtain ⟨k, r, hk, rfl, rfl, hr0, hr1, HS, hb⟩ := hrel
      by_cases hlt : k < l.length
      · obtain ⟨x, hx⟩ : ∃ x, l[k]? = some x := ⟨_, List.getElem?_eq_getElem hlt⟩
        obtain ⟨b, off, rfl, h0, c0, c1, c2, c3⟩ := HR.out k x hx
        have g0 := (hb.cell (p := ⟨b, off + k * 4, none⟩) h0).trans c0
        have g1 := (hb.cell (p := ⟨b, off + k * 4 + 1, none⟩) h0).trans c1
        have g2 := (hb.cell (p := ⟨b, off + k * 4 + 2, none⟩) h0).trans c2
        have g3 := (hb.cell (p := ⟨b, off + k * 4 + 3, none⟩) h0).trans c3
        have C := Lib.hid (fun w => szSgC x r w (HD.out k x hx) hr0 (by omega))
        have HX := Lib.hid hx
        clear hx c0 c1 c2 c3 h0
        go_wp2_with fail
        refine (C.out _).mono ?_
        rintro e w1 ⟨r1, rfl, HQ, hb1⟩
        have hb2 : Below w.heap.size w w1 := hb.trans (hb1.mono hb.size)
        clear g0 g1 g2 g3
        go_wp2
        · go_ret
          exact ⟨_, rfl, Lib.hid ⟨by omega, by omega, by omega⟩, hb2⟩
        · go_roundw
          case rel =>
            obtain ⟨q1, q2, q3⟩ := HQ.out
            refine ⟨k + 1, r1, by omega, by go_num, rfl, by omega, by omega, Lib.hid (fun j y hj hy => ?_), hb2⟩
            by_cases e : j = k
            · subst e
              rw [HX.out] at hy; cases hy
              exact q3 (by omega)
            · exact HS.out j y (by omega) hy
          case measure => simp [intOf]; omega
      · obtain rfl : k = l.length := by omega
        go_wp2
        go_ret
        exact ⟨_, rfl, Lib.hid ⟨by omega, by omega, fun _ => ⟨by omega, fun j x hj => HS.out j x (List.getElem?_eq_some_iff.1 hj).1 hj⟩⟩, hb⟩
set_option maxHeartbeats 400000 in
theorem toSgC (x : Sg) (w : World) :
    Calls Tryd.prog 57 #[.agg #[.int .i64 x.f, .int .i64 x.v, .int .i64 x.m, .string x.d]] w fun e w' => e = .returned (.agg #[.int .i64 x.f, .int .i64 x.v, .int .i64 x.m, .string x.d]) ∧ Below w.heap.size w w' := by
  go_enter Tryd.func57, Tryd.ntmps57
  go_wp2
  go_returns
  exact ⟨rfl, by go_grown⟩
theorem infoSg : (Tryd.prog.info? 61).map (fun i => (i.zero, i.size, i.bytes)) = some (some (.agg #[.int .i64 0, .int .i64 0, .int .i64 0, .string ⟨#[]⟩]), 4, 40) := by kernel_rfl
set_option maxHeartbeats 400000 in
theorem toSgSC (p : Option Addr) (cap : Nat) (l : List Sg) (w : World) (hr : RdS w p l) (hs : SmallS l) :
    Calls Tryd.prog 26 #[.slice p l.length cap] w fun e w' => e = .returned (.slice (some ⟨w.heap.size, 0, none⟩) l.length l.length) ∧ w'.ownsRow w.heap.size 61 4 (.slice (some ⟨w.heap.size, 0, none⟩) l.length l.length) l.length (SV l) ∧ Below w.heap.size w w' := by
  obtain ⟨i0, hi, hz0, hz1, hz2⟩ := info_parts infoSg
  have hn := hs.1
  have HR := Lib.hid hr
  clear hr hs
  go_enter Tryd.func26, Tryd.ntmps26
  go_wp2_with (at_make; refine wpList_make_full _ rfl _ _ 22 rfl w.heap.size 61 i0 _ 4 Tryd.underlying22 hi hz0 hz1 .i64 .i64 _ _ l.length rfl rfl rfl rfl (by rw [hz2]; omega) (by unfold maxLen; omega) (Nat.le_refl _) ?_; intro w0 hown0 hgrow0)
  have hb0 : Below w.heap.size w w0 := (Below.refl _ _).grown hgrow0 (Nat.le_refl _) (fun _ h => by cases h)
  clear hgrow0
  go_loopw [4] (fun i wr => ∃ k : Nat, k ≤ l.length ∧ i = .int .i64 k ∧ wr.ownsRow w.heap.size 61 4 (.slice (some ⟨w.heap.size, 0, none⟩) l.length l.length) l.length (SV (l.take k ++ List.replicate (l.length - k) zs)) ∧ Below w.heap.size w wr) (fun i _ => l.length - (intOf i).toNat)
  case atStart => exact ⟨0, Nat.zero_le _, rfl, by rw [made_zs] at hown0; simpa using hown0, hb0⟩
  case round =>
    obtain ⟨k, hk, rfl, hown, hb⟩ := hrel
    by_cases hlt : k < l.length
    · obtain ⟨x, hx⟩ : ∃ x, l[k]? = some x := ⟨_, List.getElem?_eq_getElem hlt⟩
      obtain ⟨b, off, rfl, h0, c0, c1, c2, c3⟩ := HR.out k x hx
      have g0 := (hb.cell (p := ⟨b, off + k * 4, none⟩) h0).trans c0
      have g1 := (hb.cell (p := ⟨b, off + k * 4 + 1, none⟩) h0).trans c1
      have g2 := (hb.cell (p := ⟨b, off + k * 4 + 2, none⟩) h0).trans c2
      have g3 := (hb.cell (p := ⟨b, off + k * 4 + 3, none⟩) h0).trans c3
      have C := Lib.hid (fun w => toSgC x w)
      have HX := Lib.hid hx
      clear hx c0 c1 c2 c3 h0
      go_wp2_with fail
      refine (C.out _).mono ?_
      rintro e w1 ⟨rfl, hb1⟩
      have hown1 := own_below hown hb1
      clear hown g0 g1 g2 g3
      obtain ⟨u0, d0⟩ := own_cell hown1 (k * 4) (by omega); obtain ⟨u1, d1⟩ := own_cell hown1 (k * 4 + 1) (by omega); obtain ⟨u2, d2⟩ := own_cell hown1 (k * 4 + 2) (by omega); obtain ⟨u3, d3⟩ := own_cell hown1 (k * 4 + 3) (by omega)
      have f0 := hown1.frozenAt (k * 4); have f1 := hown1.frozenAt (k * 4 + 1); have f2 := hown1.frozenAt (k * 4 + 2); have f3 := hown1.frozenAt (k * 4 + 3)
      go_wp2
      go_roundw
      case rel =>
        refine ⟨k + 1, by omega, by go_num, ?_, ((((hb.trans (hb1.mono hb.size)).setCell (Nat.le_refl _) _).setCell (Nat.le_refl _) _).setCell (Nat.le_refl _) _).setCell (Nat.le_refl _) _⟩
        have := own_setSg (k := k) hown1 x
        rw [fill_nextS HX.out] at this
        exact this
      case measure => simp [intOf]; omega
    · obtain rfl : k = l.length := by omega
      rw [List.take_length, Nat.sub_self, List.replicate_zero, List.append_nil] at hown
      go_wp2
      go_ret
      exact ⟨rfl, hown, hb⟩
theorem mixedS : Tryd.prog.follows .mixedOrders = true := by kernel_rfl
theorem below_growS {w : World} (q : Nat) (os : Array Obj) : Below w.heap.size w (grow (w.drewN q) os) :=
  ⟨rfl, rfl, rfl, by first | (simp [grow]; done) | (simp [grow]; omega), fun i hi => by
    show ((w.drewN q).heap ++ os)[i]? = _
    rw [Array.getElem?_append_left (by show i < w.heap.size; omega)]
    rfl⟩
theorem grow2S (w : World) (a b : Obj) : (w.alloc a).alloc b = grow (w.drewN 0) #[a, b] := by
  show _ = grow w #[a, b]
  rw [alloc_eq_grow, alloc_eq_grow, grow_grow]
  rfl
set_option maxHeartbeats 400000 in
theorem eqSgC (x : Sg) (w : World) :
    Calls Tryd.prog 45 #[.agg #[.int .i64 x.f, .int .i64 x.v, .int .i64 x.m, .string x.d], .agg #[.int .i64 x.f, .int .i64 x.v, .int .i64 x.m, .string x.d]] w fun e w' => e = .returned (.bool true) ∧ ∃ q os, w' = grow (w.drewN q) os := by
  go_enter Tryd.func45, Tryd.ntmps45
  go_wp2
  go_returns
  exact ⟨rfl, _, _, grow2S _ _ _⟩
set_option maxHeartbeats 400000 in
theorem eqSgSC (p q : Option Addr) (c1 c2 : Nat) (l : List Sg) (w : World) (hn : l.length ≤ 9223372036854775807) (hr : RdS w p l) (hq : RdS w q l) :
    Calls Tryd.prog 20 #[.slice p l.length c1, .slice q l.length c2] w fun e w' => e = .returned (.bool true) ∧ Below w.heap.size w w' := by
  have HR := Lib.hid hr; have HQ := Lib.hid hq
  have hm := mixedS
  clear hr hq
  go_enter Tryd.func20, Tryd.ntmps20
  go_wp2
  go_loopw [5] (fun i wr => ∃ k : Nat, k ≤ l.length ∧ i = .int .i64 k ∧ Below w.heap.size w wr) (fun i _ => l.length - (intOf i).toNat)
  case atStart => exact ⟨0, Nat.zero_le _, rfl, Below.refl _ _⟩
  case round =>
    obtain ⟨k, hk, rfl, hb⟩ := hrel
    by_cases hlt : k < l.length
    · obtain ⟨x, hx⟩ : ∃ x, l[k]? = some x := ⟨_, List.getElem?_eq_getElem hlt⟩
      obtain ⟨b, off, rfl, h0, a0, a1, a2, a3⟩ := HR.out k x hx
      obtain ⟨d, dff, rfl, j0, b0, b1, b2, b3⟩ := HQ.out k x hx
      have hs := hb.size
      have g0 := cell_grown (by simp; omega) ((hb.cell (p := ⟨b, off + k * 4, none⟩) h0).trans a0)
      have g1 := cell_grown (by simp; omega) ((hb.cell (p := ⟨b, off + k * 4 + 1, none⟩) h0).trans a1)
      have g2 := cell_grown (by simp; omega) ((hb.cell (p := ⟨b, off + k * 4 + 2, none⟩) h0).trans a2)
      have g3 := cell_grown (by simp; omega) ((hb.cell (p := ⟨b, off + k * 4 + 3, none⟩) h0).trans a3)
      have i0 := cell_grown (by simp; omega) ((hb.cell (p := ⟨d, dff + k * 4, none⟩) j0).trans b0)
      have i1 := cell_grown (by simp; omega) ((hb.cell (p := ⟨d, dff + k * 4 + 1, none⟩) j0).trans b1)
      have i2 := cell_grown (by simp; omega) ((hb.cell (p := ⟨d, dff + k * 4 + 2, none⟩) j0).trans b2)
      have i3 := cell_grown (by simp; omega) ((hb.cell (p := ⟨d, dff + k * 4 + 3, none⟩) j0).trans b3)
      clear hx a3 b3 a0 a1 a2 b0 b1 b2 h0 j0 hs
      go_wp2_with fail
      go_quiet_grown (first | (go_at_call 45; refine Calls.grown_of (eqSgC x _)))
      have hb1 := hb.trans ((below_growS (w := wr) nq osq).mono hb.size)
      clear g0 g1 g2 g3 i0 i1 i2 i3
      go_wp2
      go_roundw
      case rel => exact ⟨k + 1, by omega, by go_num, hb1⟩
      case measure => simp [intOf]; omega
    · obtain rfl : k = l.length := by omega
      go_wp2
      go_ret
      exact ⟨rfl, hb⟩
set_option maxHeartbeats 400000 in
theorem szImgC (n : Int) (p : Option Addr) (cap : Nat) (l : List Sg) (left : Int) (w : World) (hr : RdS w p l) (hd : FitsS l) (hl : 0 ≤ left) (hl2 : left ≤ 1048576) :
    Calls Tryd.prog 10 #[.agg #[.int .i64 n, .slice p l.length cap], .int .i64 left] w fun e w' => ∃ r : Int, e = .returned (.int .i64 r) ∧ Hid (-1 ≤ r ∧ r ≤ left ∧ (0 ≤ r → SmallS l)) ∧ Below w.heap.size w w' := by
  have hb0 : Below w.heap.size w (w.alloc (.cells #[.int .i64 n, .slice p l.length cap] 32)) := (Below.refl _ _).alloc (Nat.le_refl _) _
  have C := Lib.hid (szSgSC p cap l left _ (hr.below hb0) hd hl hl2)
  clear hr hd
  go_enter Tryd.func10, Tryd.ntmps10
  go_wp2_with fail
  refine (C.out).mono ?_
  rintro e w1 ⟨r1, rfl, HQ, hb1⟩
  have hb2 : Below w.heap.size w w1 := hb0.trans (hb1.mono hb0.size)
  go_wp2
  · go_ret
    obtain ⟨q1, q2, q3⟩ := HQ.out
    exact ⟨_, rfl, Lib.hid ⟨by omega, by omega, by omega⟩, hb2⟩
  · go_ret
    exact ⟨_, rfl, HQ, hb2⟩
set_option maxHeartbeats 1000000 in
theorem toImgC (n : Int) (p : Option Addr) (cap : Nat) (l : List Sg) (w : World) (hr : RdS w p l) (hs : SmallS l) :
    Calls Tryd.prog 12 #[.agg #[.int .i64 n, .slice p l.length cap]] w fun e w' => ∃ g, w.heap.size ≤ g ∧ e = .returned (.agg #[.int .i64 n, .slice (some ⟨g, 0, none⟩) l.length l.length]) ∧ w'.ownsRow w.heap.size 61 4 (.slice (some ⟨g, 0, none⟩) l.length l.length) l.length (SV l) ∧ Below w.heap.size w w' := by
  have hb0 : Below w.heap.size w (((w.alloc (.cells #[.int .i64 n, .slice p l.length cap] 32)).alloc (.cells #[.int .i64 0, .slice none 0 0] 24)).alloc (.cells #[.int .i64 n, .slice none 0 0] 24)) := by go_grown
  have C := Lib.hid (toSgSC p cap l _ (hr.below hb0) hs)
  clear hr
  go_enter Tryd.func12, Tryd.ntmps12
  go_wp2_with fail
  refine (C.out).mono ?_
  rintro e w1 ⟨rfl, hown, hb1⟩
  have c10 : w1.cell? ⟨w.heap.size + 1, 0, none⟩ = some (.int .i64 0) := (hb1.cell (p := ⟨w.heap.size + 1, 0, none⟩) (by simp)).trans (by go_cell)
  have c11 : w1.cell? ⟨w.heap.size + 1, 1, none⟩ = some (.slice none 0 0) := (hb1.cell (p := ⟨w.heap.size + 1, 1, none⟩) (by simp)).trans (by go_cell)
  have c20 : w1.cell? ⟨w.heap.size + 1 + 1, 0, none⟩ = some (.int .i64 n) := (hb1.cell (p := ⟨w.heap.size + 1 + 1, 0, none⟩) (by simp)).trans (by go_cell)
  have c21 : w1.cell? ⟨w.heap.size + 1 + 1, 1, none⟩ = some (.slice none 0 0) := (hb1.cell (p := ⟨w.heap.size + 1 + 1, 1, none⟩) (by simp)).trans (by go_cell)
  have f10 : w1.frozen? ⟨w.heap.size + 1, 0, none⟩ = false := (hb1.frozen (p := ⟨w.heap.size + 1, 0, none⟩) (by simp)).trans (by simp [go_sem])
  have f11 : w1.frozen? ⟨w.heap.size + 1, 1, none⟩ = false := (hb1.frozen (p := ⟨w.heap.size + 1, 1, none⟩) (by simp)).trans (by simp [go_sem])
  have f21 : w1.frozen? ⟨w.heap.size + 1 + 1, 1, none⟩ = false := (hb1.frozen (p := ⟨w.heap.size + 1 + 1, 1, none⟩) (by simp)).trans (by simp [go_sem])
  have hb2 : Below w.heap.size w w1 := hb0.trans (hb1.mono hb0.size)
  clear hb1 hb0
  simp only [World.size_alloc] at hown ⊢
  go_wp2
  obtain ⟨S, hS⟩ : ∃ S, S = Value.slice (some ⟨w.heap.size + 1 + 1 + 1, 0, none⟩) l.length l.length := ⟨_, rfl⟩
  have r0 : (((w1.setCell ⟨w.heap.size + 1 + 1, 1, none⟩ S).setCell ⟨w.heap.size + 1, 0, none⟩ (.int .i64 n)).setCell ⟨w.heap.size + 1, 1, none⟩ S).cell? ⟨w.heap.size + 1, 0, none⟩ = some (.int .i64 n) := (cellOther (by simp) _).trans (cellSame ((cellOther (by simp) _).trans c10) _)
  have r1 : (((w1.setCell ⟨w.heap.size + 1 + 1, 1, none⟩ S).setCell ⟨w.heap.size + 1, 0, none⟩ (.int .i64 n)).setCell ⟨w.heap.size + 1, 1, none⟩ S).cell? ⟨w.heap.size + 1, 1, none⟩ = some S := cellSame ((cellOther (by simp) _).trans ((cellOther (by simp) _).trans c11)) _
  rw [hS] at r0 r1
  refine bodyPost_ret (v := .agg #[.int .i64 n, .slice (some ⟨w.heap.size + 1 + 1 + 1, 0, none⟩) l.length l.length]) (by simp [results, Tryd.results12, go_sem, r0, r1]) rfl ?_
  refine ⟨_, ?_, rfl, ?_, ?_⟩
  · omega
  · exact ownsRow_setCell_other (ownsRow_setCell_other (ownsRow_setCell_other (Joins.ownsRow_le hown (by omega)) (by simp [Value.ownBlock]) _) (by simp [Value.ownBlock]; omega) _) (by simp [Value.ownBlock]; omega) _
  · exact ((hb2.setCell (by simp; omega) _).setCell (by simp) _).setCell (by simp) _
set_option maxHeartbeats 400000 in
theorem eqImgC (n : Int) (p q : Option Addr) (c1 c2 : Nat) (l : List Sg) (w : World) (hn : l.length ≤ 9223372036854775807) (hr : RdS w p l) (hq : RdS w q l) :
    Calls Tryd.prog 7 #[.agg #[.int .i64 n, .slice p l.length c1], .agg #[.int .i64 n, .slice q l.length c2]] w fun e w' => e = .returned (.bool true) ∧ Below w.heap.size w w' := by
  have hb0 : Below w.heap.size w ((w.alloc (.cells #[.int .i64 n, .slice p l.length c1] 24)).alloc (.cells #[.int .i64 n, .slice q l.length c2] 24)) := by go_grown
  have C := Lib.hid (eqSgSC p q c1 c2 l _ hn (hr.below hb0) (hq.below hb0))
  clear hr hq
  go_enter Tryd.func7, Tryd.ntmps7
  go_wp2_with fail
  refine (C.out).mono ?_
  rintro e w1 ⟨rfl, hb1⟩
  go_wp2
  go_ret
  exact ⟨rfl, hb0.trans (hb1.mono hb0.size)⟩
end Go.Proofs.YtcchcinnjahghaaDoor
