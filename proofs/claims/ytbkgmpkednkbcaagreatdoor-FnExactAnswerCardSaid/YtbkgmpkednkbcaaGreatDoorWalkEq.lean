/-
  What laws.eqMemory and its helpers do on two lists of pages that are alike: they answer true, changing nothing that was there; conditions: those in each head.
-/
import Derived.Test.YtbkgmpkednkbcaaGreatDoorWalkSz
import Derived.Shelf.SlSortCmp.QuietGrown
namespace Go.Proofs.YtbkgmpkednkbcaaGreatDoor
open Go.RowKit Go.Sort
theorem mixed : Tryz.prog.follows .mixedOrders = true := by kernel_rfl
theorem below_grow {w : World} (q : Nat) (os : Array Obj) : Below w.heap.size w (grow (w.drewN q) os) :=
  ⟨rfl, rfl, rfl, by first | (simp [grow]; done) | (simp [grow]; omega), fun i hi => by
    show ((w.drewN q).heap ++ os)[i]? = _
    rw [Array.getElem?_append_left (by show i < w.heap.size; omega)]
    rfl⟩
theorem grow2 (w : World) (a b : Obj) : (w.alloc a).alloc b = grow (w.drewN 0) #[a, b] := by
  show _ = grow w #[a, b]
  rw [alloc_eq_grow, alloc_eq_grow, grow_grow]
  rfl
set_option maxHeartbeats 400000 in
theorem eqPageC (x : Pg) (w : World) :
    Calls Tryz.prog 78 #[.agg #[.int .i64 x.b, .int .i64 x.p, .string x.d], .agg #[.int .i64 x.b, .int .i64 x.p, .string x.d]] w fun e w' => e = .returned (.bool true) ∧ ∃ q os, w' = grow (w.drewN q) os := by
  go_enter Tryz.func78, Tryz.ntmps78
  go_wp2
  go_returns
  exact ⟨rfl, _, _, grow2 _ _ _⟩
set_option maxHeartbeats 400000 in
theorem eqPageSC (p q : Option Addr) (c1 c2 : Nat) (l : List Pg) (w : World) (hn : l.length ≤ 9223372036854775807) (hr : Rd w p l) (hq : Rd w q l) :
    Calls Tryz.prog 43 #[.slice p l.length c1, .slice q l.length c2] w fun e w' => e = .returned (.bool true) ∧ Below w.heap.size w w' := by
  have HR := Lib.hid hr; have HQ := Lib.hid hq
  have hm := mixed
  clear hr hq
  go_enter Tryz.func43, Tryz.ntmps43
  go_wp2
  go_loopw [5] (fun i wr => ∃ k : Nat, k ≤ l.length ∧ i = .int .i64 k ∧ Below w.heap.size w wr) (fun i _ => l.length - (intOf i).toNat)
  case atStart => exact ⟨0, Nat.zero_le _, rfl, Below.refl _ _⟩
  case round =>
    obtain ⟨k, hk, rfl, hb⟩ := hrel
    by_cases hlt : k < l.length
    · obtain ⟨x, hx⟩ : ∃ x, l[k]? = some x := ⟨_, List.getElem?_eq_getElem hlt⟩
      obtain ⟨b, off, rfl, h0, a0, a1, a2⟩ := HR.out k x hx
      obtain ⟨d, dff, rfl, j0, b0, b1, b2⟩ := HQ.out k x hx
      have hs := hb.size
      have g0 := cell_grown (by simp; omega) ((hb.cell (p := ⟨b, off + k * 3, none⟩) h0).trans a0)
      have g1 := cell_grown (by simp; omega) ((hb.cell (p := ⟨b, off + k * 3 + 1, none⟩) h0).trans a1)
      have g2 := cell_grown (by simp; omega) ((hb.cell (p := ⟨b, off + k * 3 + 2, none⟩) h0).trans a2)
      have i0 := cell_grown (by simp; omega) ((hb.cell (p := ⟨d, dff + k * 3, none⟩) j0).trans b0)
      have i1 := cell_grown (by simp; omega) ((hb.cell (p := ⟨d, dff + k * 3 + 1, none⟩) j0).trans b1)
      have i2 := cell_grown (by simp; omega) ((hb.cell (p := ⟨d, dff + k * 3 + 2, none⟩) j0).trans b2)
      clear hx a0 a1 a2 b0 b1 b2 h0 j0 hs
      go_wp2_with fail
      go_quiet_grown (first | (go_at_call 78; refine Calls.grown_of (eqPageC x _)))
      have hb1 := hb.trans ((below_grow (w := wr) nq osq).mono hb.size)
      clear g0 g1 g2 i0 i1 i2
      go_wp2
      go_roundw
      case rel => exact ⟨k + 1, by omega, by go_num, hb1⟩
      case measure => simp [intOf]; omega
    · obtain rfl : k = l.length := by omega
      go_wp2
      go_ret
      exact ⟨rfl, hb⟩
set_option maxHeartbeats 400000 in
theorem eqMemoryC (p q : Option Addr) (c1 c2 : Nat) (l : List Pg) (w : World) (hn : l.length ≤ 9223372036854775807) (hr : Rd w p l) (hq : Rd w q l) :
    Calls Tryz.prog 23 #[.agg #[.slice p l.length c1], .agg #[.slice q l.length c2]] w fun e w' => e = .returned (.bool true) ∧ Below w.heap.size w w' := by
  have hb0 : Below w.heap.size w ((w.alloc (.cells #[.slice p l.length c1] 34)).alloc (.cells #[.slice q l.length c2] 34)) := by go_grown
  have C := Lib.hid (eqPageSC p q c1 c2 l _ hn (hr.below hb0) (hq.below hb0))
  clear hr hq
  go_enter Tryz.func23, Tryz.ntmps23
  go_wp2_with fail
  refine (C.out).mono ?_
  rintro e w1 ⟨rfl, hb1⟩
  go_wp2
  go_ret
  exact ⟨rfl, hb0.trans (hb1.mono hb0.size)⟩
end Go.Proofs.YtbkgmpkednkbcaaGreatDoor
