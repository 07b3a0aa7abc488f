/-
  What laws.szMemory, laws.toMemory and their helpers do: the first answers -1 or a number that shows that the pages are few and small, the second lays the pages anew in memory of its own, changing nothing that was there; conditions: those in each head.
-/
import Derived.Test.YtbkgmpkednkbcaaGreatDoorMathMem
namespace Go.Proofs.YtbkgmpkednkbcaaGreatDoor
open Go.RowKit
def Small (l : List Pg) : Prop := l.length ≤ 1048576 ∧ ∀ (k : Nat) x, l[k]? = some x → x.d.size ≤ 1048576
/-- what is known of a list of pages that came in -/
def Fits (l : List Pg) : Prop := l.length ≤ 9223372036854775807 ∧ ∀ (k : Nat) x, l[k]? = some x → x.d.size ≤ 9223372036854775807
set_option maxHeartbeats 400000 in
theorem szPageC (x : Pg) (left : Int) (w : World) (hw : x.d.size ≤ 9223372036854775807) (hl : 0 ≤ left) (hl2 : left ≤ 1048576) :
    Calls Tryz.prog 55 #[.agg #[.int .i64 x.b, .int .i64 x.p, .string x.d], .int .i64 left] w fun e w' => ∃ r : Int, e = .returned (.int .i64 r) ∧ Hid (-1 ≤ r ∧ r ≤ left ∧ (0 ≤ r → x.d.size ≤ 1048576)) ∧ Below w.heap.size w w' := by
  go_enter Tryz.func55, Tryz.ntmps55
  go_wp2
  · go_ret
    exact ⟨_, rfl, Lib.hid ⟨by omega, by omega, by omega⟩, (Below.refl _ _).alloc (Nat.le_refl _) _⟩
  · go_ret
    exact ⟨_, rfl, Lib.hid ⟨by omega, by omega, by omega⟩, (Below.refl _ _).alloc (Nat.le_refl _) _⟩
set_option maxHeartbeats 400000 in
theorem szPageSC (p : Option Addr) (cap : Nat) (l : List Pg) (left : Int) (w : World) (hr : Rd w p l) (hd : Fits l) (hl : 0 ≤ left) (hl2 : left ≤ 1048576) :
    Calls Tryz.prog 28 #[.slice p l.length cap, .int .i64 left] w fun e w' => ∃ r : Int, e = .returned (.int .i64 r) ∧ Hid (-1 ≤ r ∧ r ≤ left ∧ (0 ≤ r → Small l)) ∧ Below w.heap.size w w' := by
  have HR := Lib.hid hr; have HD := Lib.hid hd.2
  have hn := hd.1
  clear hr hd
  by_cases h0 : left - (l.length : Int) < 0
  · go_enter Tryz.func28, Tryz.ntmps28
    go_wp2
    go_ret
    exact ⟨_, rfl, Lib.hid ⟨by omega, by omega, by omega⟩, Below.refl _ _⟩
  · have h1 : 0 ≤ left - (l.length : Int) := by omega
    clear h0
    go_enter Tryz.func28, Tryz.ntmps28
    go_wp2
    go_loopw [1, 5] (fun s i wr => ∃ (k : Nat) (r : Int), k ≤ l.length ∧ i = .int .i64 k ∧ s = .int .i64 r ∧ 0 ≤ r ∧ r ≤ left ∧ Hid (∀ (j : Nat) x, j < k → l[j]? = some x → x.d.size ≤ 1048576) ∧ Below w.heap.size w wr) (fun _ i _ => l.length - (intOf i).toNat)
    case atStart => exact ⟨0, _, Nat.zero_le _, rfl, rfl, h1, by omega, Lib.hid (fun j x h => by omega), Below.refl _ _⟩
    case round =>
      obtain ⟨k, r, hk, rfl, rfl, hr0, hr1, HS, hb⟩ := hrel
      by_cases hlt : k < l.length
      · obtain ⟨x, hx⟩ : ∃ x, l[k]? = some x := ⟨_, List.getElem?_eq_getElem hlt⟩
        obtain ⟨b, off, rfl, h0, c0, c1, c2⟩ := HR.out k x hx
        have g0 := (hb.cell (p := ⟨b, off + k * 3, none⟩) h0).trans c0
        have g1 := (hb.cell (p := ⟨b, off + k * 3 + 1, none⟩) h0).trans c1
        have g2 := (hb.cell (p := ⟨b, off + k * 3 + 2, none⟩) h0).trans c2
        have C := Lib.hid (fun w => szPageC x r w (HD.out k x hx) hr0 (by omega))
        have HX := Lib.hid hx
        clear hx c0 c1 c2 h0
        go_wp2_with fail
        refine (C.out _).mono ?_
        rintro e w1 ⟨r1, rfl, HQ, hb1⟩
        have hb2 : Below w.heap.size w w1 := hb.trans (hb1.mono hb.size)
        clear g0 g1 g2
        go_wp2
        · go_ret
          exact ⟨_, rfl, Lib.hid ⟨by omega, by omega, by omega⟩, hb2⟩
        · go_roundw
          case rel =>
            obtain ⟨q1, q2, q3⟩ := HQ.out
            refine ⟨k + 1, r1, by omega, by go_num, rfl, by omega, by omega, Lib.hid (fun j y hj hy => ?_), hb2⟩
            by_cases e : j = k
            · subst e
              rw [HX.out] at hy; cases hy
              exact q3 (by omega)
            · exact HS.out j y (by omega) hy
          case measure => simp [intOf]; omega
      · obtain rfl : k = l.length := by omega
        go_wp2
        go_ret
        exact ⟨_, rfl, Lib.hid ⟨by omega, by omega, fun _ => ⟨by omega, fun j x hj => HS.out j x (List.getElem?_eq_some_iff.1 hj).1 hj⟩⟩, hb⟩
set_option maxHeartbeats 400000 in
theorem szMemoryC (p : Option Addr) (cap : Nat) (l : List Pg) (left : Int) (w : World) (hr : Rd w p l) (hd : Fits l) (hl : 0 ≤ left) (hl2 : left ≤ 1048576) :
    Calls Tryz.prog 14 #[.agg #[.slice p l.length cap], .int .i64 left] w fun e w' => ∃ r : Int, e = .returned (.int .i64 r) ∧ Hid (-1 ≤ r ∧ r ≤ left ∧ (0 ≤ r → Small l)) ∧ Below w.heap.size w w' := by
  have hb0 : Below w.heap.size w (w.alloc (.cells #[.slice p l.length cap] 27)) := (Below.refl _ _).alloc (Nat.le_refl _) _
  have C := Lib.hid (szPageSC p cap l left _ (hr.below hb0) hd hl hl2)
  clear hr hd
  go_enter Tryz.func14, Tryz.ntmps14
  go_wp2_with fail
  refine (C.out).mono ?_
  rintro e w1 ⟨r1, rfl, HQ, hb1⟩
  have hb2 : Below w.heap.size w w1 := hb0.trans (hb1.mono hb0.size)
  go_wp2
  · go_ret
    obtain ⟨q1, q2, q3⟩ := HQ.out
    exact ⟨_, rfl, Lib.hid ⟨by omega, by omega, by omega⟩, hb2⟩
  · go_ret
    exact ⟨_, rfl, HQ, hb2⟩
set_option maxHeartbeats 400000 in
theorem toPageC (x : Pg) (w : World) :
    Calls Tryz.prog 64 #[.agg #[.int .i64 x.b, .int .i64 x.p, .string x.d]] w fun e w' => e = .returned (.agg #[.int .i64 x.b, .int .i64 x.p, .string x.d]) ∧ Below w.heap.size w w' := by
  go_enter Tryz.func64, Tryz.ntmps64
  go_wp2
  go_returns
  exact ⟨rfl, by go_grown⟩
theorem infoP : (Tryz.prog.info? 86).map (fun i => (i.zero, i.size, i.bytes)) = some (some (.agg #[.int .i64 0, .int .i64 0, .string ⟨#[]⟩]), 3, 32) := by kernel_rfl
set_option maxHeartbeats 400000 in
theorem toPageSC (p : Option Addr) (cap : Nat) (l : List Pg) (w : World) (hr : Rd w p l) (hs : Small l) :
    Calls Tryz.prog 38 #[.slice p l.length cap] w fun e w' => e = .returned (.slice (some ⟨w.heap.size, 0, none⟩) l.length l.length) ∧ w'.ownsRow w.heap.size 86 3 (.slice (some ⟨w.heap.size, 0, none⟩) l.length l.length) l.length (PV l) ∧ Below w.heap.size w w' := by
  obtain ⟨i0, hi, hz0, hz1, hz2⟩ := info_parts infoP
  have hn := hs.1
  have HR := Lib.hid hr
  clear hr hs
  go_enter Tryz.func38, Tryz.ntmps38
  go_wp2_with (at_make; refine wpList_make_full _ rfl _ _ 32 rfl w.heap.size 86 i0 _ 3 Tryz.underlying32 hi hz0 hz1 .i64 .i64 _ _ l.length rfl rfl rfl rfl (by rw [hz2]; omega) (by unfold maxLen; omega) (Nat.le_refl _) ?_; intro w0 hown0 hgrow0)
  have hb0 : Below w.heap.size w w0 := (Below.refl _ _).grown hgrow0 (Nat.le_refl _) (fun _ h => by cases h)
  clear hgrow0
  go_loopw [4] (fun i wr => ∃ k : Nat, k ≤ l.length ∧ i = .int .i64 k ∧ wr.ownsRow w.heap.size 86 3 (.slice (some ⟨w.heap.size, 0, none⟩) l.length l.length) l.length (PV (l.take k ++ List.replicate (l.length - k) zp)) ∧ Below w.heap.size w wr) (fun i _ => l.length - (intOf i).toNat)
  case atStart => exact ⟨0, Nat.zero_le _, rfl, by rw [made_zp] at hown0; simpa using hown0, hb0⟩
  case round =>
    obtain ⟨k, hk, rfl, hown, hb⟩ := hrel
    by_cases hlt : k < l.length
    · obtain ⟨x, hx⟩ : ∃ x, l[k]? = some x := ⟨_, List.getElem?_eq_getElem hlt⟩
      obtain ⟨b, off, rfl, h0, c0, c1, c2⟩ := HR.out k x hx
      have g0 := (hb.cell (p := ⟨b, off + k * 3, none⟩) h0).trans c0
      have g1 := (hb.cell (p := ⟨b, off + k * 3 + 1, none⟩) h0).trans c1
      have g2 := (hb.cell (p := ⟨b, off + k * 3 + 2, none⟩) h0).trans c2
      have C := Lib.hid (fun w => toPageC x w)
      have HX := Lib.hid hx
      clear hx c0 c1 c2 h0
      go_wp2_with fail
      refine (C.out _).mono ?_
      rintro e w1 ⟨rfl, hb1⟩
      have hown1 := own_below hown hb1
      clear hown g0 g1 g2
      obtain ⟨u0, d0⟩ := own_cell hown1 (k * 3) (by omega); obtain ⟨u1, d1⟩ := own_cell hown1 (k * 3 + 1) (by omega); obtain ⟨u2, d2⟩ := own_cell hown1 (k * 3 + 2) (by omega)
      have f0 := hown1.frozenAt (k * 3); have f1 := hown1.frozenAt (k * 3 + 1); have f2 := hown1.frozenAt (k * 3 + 2)
      go_wp2
      go_roundw
      case rel =>
        refine ⟨k + 1, by omega, by go_num, ?_, (((hb.trans (hb1.mono hb.size)).setCell (Nat.le_refl _) _).setCell (Nat.le_refl _) _).setCell (Nat.le_refl _) _⟩
        have := own_setPg (k := k) hown1 x
        rw [fill_next HX.out] at this
        exact this
      case measure => simp [intOf]; omega
    · obtain rfl : k = l.length := by omega
      rw [List.take_length, Nat.sub_self, List.replicate_zero, List.append_nil] at hown
      go_wp2
      go_ret
      exact ⟨rfl, hown, hb⟩
set_option maxHeartbeats 400000 in
theorem toMemoryC (p : Option Addr) (cap : Nat) (l : List Pg) (w : World) (hr : Rd w p l) (hs : Small l) :
    Calls Tryz.prog 19 #[.agg #[.slice p l.length cap]] w fun e w' => ∃ g, w.heap.size ≤ g ∧ e = .returned (.agg #[.slice (some ⟨g, 0, none⟩) l.length l.length]) ∧ w'.ownsRow w.heap.size 86 3 (.slice (some ⟨g, 0, none⟩) l.length l.length) l.length (PV l) ∧ Below w.heap.size w w' := by
  have hb0 : Below w.heap.size w (((w.alloc (.cells #[.slice p l.length cap] 27)).alloc (.cells #[.slice none 0 0] 34)).alloc (.cells #[.slice none 0 0] 34)) := by go_grown
  have C := Lib.hid (toPageSC p cap l _ (hr.below hb0) hs)
  clear hr
  go_enter Tryz.func19, Tryz.ntmps19
  go_wp2_with fail
  refine (C.out).mono ?_
  rintro e w1 ⟨rfl, hown, hb1⟩
  have c1 : w1.cell? ⟨w.heap.size + 1, 0, none⟩ = some (.slice none 0 0) := (hb1.cell (p := ⟨w.heap.size + 1, 0, none⟩) (by simp)).trans (by go_cell)
  have c2 : w1.cell? ⟨w.heap.size + 1 + 1, 0, none⟩ = some (.slice none 0 0) := (hb1.cell (p := ⟨w.heap.size + 1 + 1, 0, none⟩) (by simp)).trans (by go_cell)
  have f1 : w1.frozen? ⟨w.heap.size + 1, 0, none⟩ = false := (hb1.frozen (p := ⟨w.heap.size + 1, 0, none⟩) (by simp)).trans (by simp [go_sem])
  have f2 : w1.frozen? ⟨w.heap.size + 1 + 1, 0, none⟩ = false := (hb1.frozen (p := ⟨w.heap.size + 1 + 1, 0, none⟩) (by simp)).trans (by simp [go_sem])
  have hb2 : Below w.heap.size w w1 := hb0.trans (hb1.mono hb0.size)
  clear hb1 hb0
  simp only [World.size_alloc] at hown ⊢
  have r1 (v : Value) : ((w1.setCell ⟨w.heap.size + 1 + 1, 0, none⟩ v).setCell ⟨w.heap.size + 1, 0, none⟩ v).cell? ⟨w.heap.size + 1, 0, none⟩ = some v := cellSame ((cellOther (by simp) _).trans c1) _
  go_wp2
  refine bodyPost_ret (v := .agg #[.slice (some ⟨w.heap.size + 1 + 1 + 1, 0, none⟩) l.length l.length]) (by simp [results, Tryz.results19, go_sem, r1]) rfl ?_
  refine ⟨_, ?_, rfl, ?_, ?_⟩
  · omega
  · exact ownsRow_setCell_other (ownsRow_setCell_other (Joins.ownsRow_le hown (by omega)) (by simp [Value.ownBlock]) _) (by simp [Value.ownBlock]; omega) _
  · exact (hb2.setCell (by simp; omega) _).setCell (by simp) _
end Go.Proofs.YtbkgmpkednkbcaaGreatDoor
