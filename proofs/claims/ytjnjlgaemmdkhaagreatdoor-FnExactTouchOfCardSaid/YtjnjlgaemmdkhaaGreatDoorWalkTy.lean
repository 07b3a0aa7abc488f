/-
  What the law's helpers over lists of ints do (eqIntS, markIntS, heldIntS); conditions: those in each head.
  What the law's helpers over a Touch do (eqTouch, markTouch, heldTouch); conditions: those in each head.
  How the laws over an instruction with several results are walked, from the contracts of what they call; conditions: those in each head.
  The law over TouchOf, by what it calls; conditions: those in each head.
-/
import Derived.Test.YtjnjlgaemmdkhaaGreatDoorProg
import Derived.WalkKit
import Derived.OwnWalk
import Derived.Lib.Hide
import Derived.Lib.SmallJoins
import Derived.Test.YtjnjlgaemmdkhaaGreatDoorWalkErr
import Derived.Test.YtjnjlgaemmdkhaaGreatDoorWalkOkT14
import Derived.Test.YtjnjlgaemmdkhaaGreatDoorWalkToI
import Derived.Laws.CopyOwn
namespace Go.Proofs.YtjnjlgaemmdkhaaGreatDoor
open Go.RowKit
set_option linter.unusedVariables false
set_option linter.unusedSimpArgs false
/-- the slice that begins at p holds the ints L -/
def RdZ (w : World) (p : Option Addr) (L : List Int) : Prop := ∀ k z, L[k]? = some z → ∃ b, p = some ⟨b, 0, none⟩ ∧ b < w.heap.size ∧ w.cell? ⟨b, k, none⟩ = some (.int .i64 z)
theorem RdZ.kept {w w' : World} {p : Option Addr} {L : List Int} (h : RdZ w p L) (hk : ∀ b, p = some ⟨b, 0, none⟩ → b < w.heap.size → w'.heap[b]? = w.heap[b]?) (hs : w.heap.size ≤ w'.heap.size) : RdZ w' p L := by
  intro k z hz
  obtain ⟨b, e, hb, hc⟩ := h k z hz
  have := hk b e hb
  exact ⟨b, e, by omega, by rw [← hc]; exact World.cell?_of_block (w := w) (a := ⟨b, k, none⟩) this⟩
theorem RdZ.below {w w' : World} {p : Option Addr} {L : List Int} (h : RdZ w p L) (hb : Below w.heap.size w w') : RdZ w' p L := h.kept (fun b _ hlt => hb.block b hlt) hb.size
theorem rdZ_own {w : World} {B n : Nat} {e : TypeId} {p : Option Addr} {c : Nat} {L : List Int} (h : w.ownsRow B e 1 (.slice p n c) n (L.map (fun i => .int .i64 i))) : RdZ w p L := by
  intro k z hz
  have hk : k < L.length := (List.getElem?_eq_some_iff.1 hz).1
  have hl := h.1
  rw [List.length_map] at hl
  rcases h.2 with ⟨_, h0⟩ | ⟨g, cap, cur, e1, _, h3, _⟩
  · omega
  · cases e1
    have hlt : g < w.heap.size := by
      rcases Nat.lt_or_ge g w.heap.size with h' | h'
      · exact h'
      · rw [Array.getElem?_eq_none h'] at h3; cases h3
    exact ⟨g, rfl, hlt, by rw [h.cellAt k (by omega), List.getElem?_map, hz]; rfl⟩
set_option maxHeartbeats 2000000 in
theorem eqIntsC (p q : Option Addr) (c d : Nat) (L : List Int) (w : World) (h1 : RdZ w p L) (h2 : RdZ w q L) (hm : L.length ≤ maxLen) :
    Calls Tryz.prog 18 #[.slice p L.length c, .slice q L.length d] w fun e w' => e = .returned (.bool true) ∧ Below w.heap.size w w' := by
  have H1 := Lib.hid h1; have H2 := Lib.hid h2
  unfold maxLen at hm
  clear h1 h2
  go_enter Tryz.func18, Tryz.ntmps18
  go_wp2
  go_loopw [5] (fun i wr => ∃ k : Nat, i = .int .i64 (k : Int) ∧ k ≤ L.length ∧ Hid (Below w.heap.size w wr)) (fun i _ => L.length - (intOf i).toNat)
  case atStart => exact ⟨0, rfl, Nat.zero_le _, Lib.hid (Below.refl _ _)⟩
  case round =>
    obtain ⟨k, rfl, hk, HB⟩ := hrel
    by_cases hlt : k < L.length
    · have hk' : (k : Int) < (L.length : Int) := by omega
      obtain ⟨z, hz⟩ : ∃ z, L[k]? = some z := ⟨_, List.getElem?_eq_getElem hlt⟩
      obtain ⟨a, rfl, ha, ca⟩ := (H1.out.below HB.out) k z hz
      obtain ⟨b, rfl, hb, cb⟩ := (H2.out.below HB.out) k z hz
      clear hz ha hb
      go_wp2
      go_region
      go_wp2
      go_roundw
      case rel => exact ⟨k + 1, by go_num, by omega, Lib.hid HB.out.drew⟩
      case measure => simp [intOf]; omega
    · obtain rfl : k = L.length := by omega
      go_wp2
      go_ret
      exact ⟨rfl, HB.out⟩
/-- block g holds the marks 1, 2, .. at its first n cells -/
def Mk (w : World) (g n : Nat) : Prop := ∀ j, j < n → w.cell? ⟨g, j, none⟩ = some (.int .i64 ((j : Int) + 1))
/-- a block of ints that may be written -/
def Wz (w : World) (g n : Nat) : Prop := g < w.heap.size ∧ ∀ j, j < n → (∃ z : Int, w.cell? ⟨g, j, none⟩ = some (.int .i64 z)) ∧ w.frozen? ⟨g, j, none⟩ = false
theorem World.grownBy_setCell (w : World) (a : Addr) (v : Value) : w.grownBy (w.setCell a v) (some a.block) :=
  ⟨rfl, rfl, rfl, by simp [World.setCell], fun k hk hne => Below.heap_setCell _ _ _ _ (fun e => hne (by rw [e]))⟩
theorem Wz.set {w : World} {g n k : Nat} {v : Int} (h : Wz w g n) : Wz (w.setCell ⟨g, k, none⟩ (.int .i64 v)) g n := by
  refine ⟨by rw [show (w.setCell ⟨g, k, none⟩ (.int .i64 v)).heap.size = w.heap.size from by simp [World.setCell]]; exact h.1, fun j hj => ?_⟩
  obtain ⟨⟨z, hz⟩, hf⟩ := h.2 j hj
  refine ⟨?_, ?_⟩
  · by_cases e : j = k
    · subst e; exact ⟨v, World.cell?_setCell_same _ _ _ hz⟩
    · exact ⟨z, (World.cell?_setCell_other _ _ _ _ (by intro e'; injection e' with _ e2 _; exact e e2.symm)).trans hz⟩
  · rw [World.frozen?_setCell]; exact hf
set_option maxHeartbeats 2000000 in
theorem markIntsC (g n c : Nat) (w : World) (hW : Wz w g n) (hn : n ≤ 4096) :
    Calls Tryz.prog 19 #[.slice (some ⟨g, 0, none⟩) n c, .int .i64 1] w fun e w' => e = .returned (.int .i64 ((n : Int) + 1)) ∧ Mk w' g n ∧ w.grownBy w' (some g) ∧ w'.heap.size = w.heap.size := by
  have HW := Lib.hid hW
  clear hW
  go_enter Tryz.func19, Tryz.ntmps19
  go_wp2
  go_loopw [1, 5] (fun m i wr => ∃ k : Nat, i = .int .i64 (k : Int) ∧ m = .int .i64 ((k : Int) + 1) ∧ k ≤ n ∧ Hid (Mk wr g k) ∧ Hid (Wz wr g n) ∧ Hid (w.grownBy wr (some g)) ∧ Hid (wr.heap.size = w.heap.size)) (fun _ i _ => n - (intOf i).toNat)
  case atStart => exact ⟨0, rfl, rfl, Nat.zero_le _, Lib.hid (fun j hj => by omega), HW, Lib.hid (World.grownBy.refl _ _), Lib.hid rfl⟩
  case round =>
    obtain ⟨k, rfl, rfl, hk, HM, HZ, HG, HS⟩ := hrel
    by_cases hlt : k < n
    · have hk' : (k : Int) < (n : Int) := by omega
      obtain ⟨⟨z, cz⟩, fz⟩ := HZ.out.2 k hlt
      have HM2 : Hid (Mk (wr.setCell ⟨g, k, none⟩ (.int .i64 ((k : Int) + 1))) g (k + 1)) := Lib.hid (fun j hj => by
        by_cases e : j = k
        · subst e; exact World.cell?_setCell_same _ _ _ cz
        · exact (World.cell?_setCell_other _ _ _ _ (by intro e'; injection e' with _ e2 _; exact e e2.symm)).trans (HM.out j (by omega)))
      have HZ2 := Lib.hid (HZ.out.set (k := k) (v := (k : Int) + 1))
      have HG2 : Hid (w.grownBy (wr.setCell ⟨g, k, none⟩ (.int .i64 ((k : Int) + 1))) (some g)) := Lib.hid (HG.out.andThen (World.grownBy_setCell wr ⟨g, k, none⟩ _) (fun j hj => Or.inr hj))
      have HS2 : Hid ((wr.setCell ⟨g, k, none⟩ (.int .i64 ((k : Int) + 1))).heap.size = w.heap.size) := Lib.hid (by rw [← HS.out]; simp [World.setCell])
      go_wp2
      go_roundw
      case rel => exact ⟨k + 1, by go_num, by go_num, by omega, HM2, HZ2, HG2, HS2⟩
      case measure => simp [intOf]; omega
    · obtain rfl : k = n := by omega
      go_wp2
      go_ret
      exact ⟨rfl, HM.out, HG.out, HS.out⟩
set_option maxHeartbeats 2000000 in
theorem heldIntsC (g n c : Nat) (w : World) (hM : Mk w g n) (hn : n ≤ 4096) :
    Calls Tryz.prog 20 #[.slice (some ⟨g, 0, none⟩) n c, .int .i64 1] w fun e w' => e = .returned (.int .i64 ((n : Int) + 1)) ∧ w' = w := by
  have HM := Lib.hid hM
  clear hM
  go_enter Tryz.func20, Tryz.ntmps20
  go_wp2
  go_loopw [1, 5] (fun m i wr => ∃ k : Nat, i = .int .i64 (k : Int) ∧ m = .int .i64 ((k : Int) + 1) ∧ k ≤ n ∧ wr = w) (fun _ i _ => n - (intOf i).toNat)
  case atStart => exact ⟨0, rfl, rfl, Nat.zero_le _, rfl⟩
  case round =>
    obtain ⟨k, rfl, rfl, hk, rfl⟩ := hrel
    by_cases hlt : k < n
    · have hk' : (k : Int) < (n : Int) := by omega
      have cz := HM.out k hlt
      go_wp2
      go_roundw
      case rel => exact ⟨k + 1, by go_num, by go_num, by omega, (by first | rfl | trivial)⟩
      case measure => simp [intOf]; omega
    · obtain rfl : k = n := by omega
      go_wp2
      go_ret
      exact ⟨rfl, rfl⟩
set_option maxHeartbeats 2000000 in
theorem markIntsNil (p : Option Addr) (c : Nat) (w : World) :
    Calls Tryz.prog 19 #[.slice p 0 c, .int .i64 1] w fun e w' => e = .returned (.int .i64 1) ∧ w' = w := by
  go_enter Tryz.func19, Tryz.ntmps19
  go_wp2
  refine wp_loop_rounds 1 ?_
  rw [rounds_succ]
  go_wp2
  go_ret
  exact ⟨rfl, rfl⟩
set_option maxHeartbeats 2000000 in
theorem heldIntsNil (p : Option Addr) (c : Nat) (w : World) :
    Calls Tryz.prog 20 #[.slice p 0 c, .int .i64 1] w fun e w' => e = .returned (.int .i64 1) ∧ w' = w := by
  go_enter Tryz.func20, Tryz.ntmps20
  go_wp2
  refine wp_loop_rounds 1 ?_
  rw [rounds_succ]
  go_wp2
  go_ret
  exact ⟨rfl, rfl⟩
end Go.Proofs.YtjnjlgaemmdkhaaGreatDoor
namespace Go.Proofs.YtjnjlgaemmdkhaaGreatDoor
open Go.RowKit
set_option linter.unusedVariables false
set_option linter.unusedSimpArgs false
/-- the slice at p of n ints may be written · holds the marks -/
def WzP (w : World) (p : Option Addr) (n : Nat) : Prop := n = 0 ∨ ∃ g, p = some ⟨g, 0, none⟩ ∧ Wz w g n
def MkP (w : World) (p : Option Addr) (n : Nat) : Prop := n = 0 ∨ ∃ g, p = some ⟨g, 0, none⟩ ∧ g < w.heap.size ∧ Mk w g n
theorem MkP.kept {w w' : World} {p : Option Addr} {n : Nat} (h : MkP w p n) (hb : Below w.heap.size w w') : MkP w' p n := by
  rcases h with h | ⟨g, e, hg, hm⟩
  · exact .inl h
  · exact .inr ⟨g, e, Nat.lt_of_lt_of_le hg hb.size, fun j hj => (hb.cell (p := ⟨g, j, none⟩) hg).trans (hm j hj)⟩
theorem Wz.kept {w w' : World} {g n : Nat} (h : Wz w g n) (hb : Below w.heap.size w w') : Wz w' g n := by
  refine ⟨Nat.lt_of_lt_of_le h.1 hb.size, fun j hj => ?_⟩
  obtain ⟨⟨z, hz⟩, hf⟩ := h.2 j hj
  exact ⟨⟨z, (hb.cell (p := ⟨g, j, none⟩) h.1).trans hz⟩, (World.frozen?_of_block (w := w) (a := ⟨g, j, none⟩) (hb.block g h.1)).trans hf⟩
theorem WzP.kept {w w' : World} {p : Option Addr} {n : Nat} (h : WzP w p n) (hb : Below w.heap.size w w') : WzP w' p n := by
  rcases h with h | ⟨g, e, hz⟩
  · exact .inl h
  · exact .inr ⟨g, e, hz.kept hb⟩
theorem wzP_own {w : World} {B n : Nat} {e : TypeId} {p : Option Addr} {c : Nat} {L : List Int} (h : w.ownsRow B e 1 (.slice p n c) n (L.map (fun i => .int .i64 i))) : WzP w p n := by
  by_cases hn : n = 0
  · exact .inl hn
  · refine .inr ?_
    have hl := h.1
    rw [List.length_map] at hl
    rcases h.2 with ⟨_, h0⟩ | ⟨g, cap, cur, e1, _, h3, _⟩
    · exact absurd h0 hn
    · cases e1
      refine ⟨g, rfl, lt_of_blk h3, fun j hj => ⟨⟨L[j]'(by omega), ?_⟩, h.frozenAt j⟩⟩
      rw [h.cellAt j (by omega), List.getElem?_map, List.getElem?_eq_getElem (by omega)]; rfl
def TC (p : Option Addr) (n c : Nat) (r wt st : Bool) : Array Value := #[.slice p n c, .bool r, .bool wt, .bool st]
set_option maxHeartbeats 2000000 in
theorem eqTouchC (p q : Option Addr) (c d n : Nat) (L : List Int) (r wt st : Bool) (w : World) (hn : n = L.length) (h1 : RdZ w p L) (h2 : RdZ w q L) (hm : L.length ≤ maxLen) :
    Calls Tryz.prog 7 #[.agg #[.slice p n c, .bool r, .bool wt, .bool st], .agg #[.slice q n d, .bool r, .bool wt, .bool st]] w fun e w' => e = .returned (.bool true) ∧ Below w.heap.size w w' := by
  subst hn
  have B0 : Below w.heap.size w ((w.alloc (.cells #[.slice p L.length c, .bool r, .bool wt, .bool st] 28)).alloc (.cells #[.slice q L.length d, .bool r, .bool wt, .bool st] 28)) := ((Below.refl _ _).alloc (Nat.le_refl _) _).alloc (by simp) _
  have CE := Lib.hid (eqIntsC p q c d L _ (h1.below B0) (h2.below B0) hm)
  have B0 := Lib.hid B0
  clear h1 h2 hm
  have hp := heap_alloc_new w (.cells #[.slice p L.length c, .bool r, .bool wt, .bool st] 28)
  have hq := heap_alloc_new (w.alloc (.cells #[.slice p L.length c, .bool r, .bool wt, .bool st] 28)) (.cells #[.slice q L.length d, .bool r, .bool wt, .bool st] 28)
  rw [show (w.alloc (.cells #[.slice p L.length c, .bool r, .bool wt, .bool st] 28)).heap.size = w.heap.size + 1 from by simp] at hq
  have hp' := (Below.heap_alloc (w.alloc (.cells #[.slice p L.length c, .bool r, .bool wt, .bool st] 28)) (.cells #[.slice q L.length d, .bool r, .bool wt, .bool st] 28) w.heap.size (by simp)).trans hp
  have HP := Lib.hid hp'; have HQ := Lib.hid hq
  clear hp hq hp'
  go_enter Tryz.func7, Tryz.ntmps7
  go_wp2_with fail
  refine CE.out.mono ?_
  rintro e w1 ⟨rfl, hb⟩
  have P1 := (hb.block _ (lt_of_blk HP.out)).trans HP.out
  have Q1 := (hb.block _ (lt_of_blk HQ.out)).trans HQ.out
  have p1 := cell_of_row _ _ 1 _ _ _ P1; have p2 := cell_of_row _ _ 2 _ _ _ P1; have p3 := cell_of_row _ _ 3 _ _ _ P1
  have q1 := cell_of_row _ _ 1 _ _ _ Q1; have q2 := cell_of_row _ _ 2 _ _ _ Q1; have q3 := cell_of_row _ _ 3 _ _ _ Q1
  simp only [List.getElem?_toArray, List.getElem?_cons_zero, List.getElem?_cons_succ] at p1 p2 p3 q1 q2 q3
  have B1 := Lib.hid (B0.out.trans (hb.mono B0.out.size))
  clear hb P1 Q1
  go_wp2
  go_ret
  exact ⟨rfl, B1.out⟩
set_option maxHeartbeats 2000000 in
theorem markTouchC (p : Option Addr) (n c : Nat) (r wt st : Bool) (w : World) (hw : WzP w p n) (hn : n ≤ 4096) :
    Calls Tryz.prog 8 #[.agg #[.slice p n c, .bool r, .bool wt, .bool st], .int .i64 1] w fun e w' => e = .returned (.int .i64 ((n : Int) + 1)) ∧ MkP w' p n ∧ w.grownBy w' (p.map (·.block)) := by
  have hw' := hw.kept (w' := w.alloc (.cells #[.slice p n c, .bool r, .bool wt, .bool st] 28)) ((Below.refl _ _).alloc (Nat.le_refl _) _)
  rcases hw' with rfl | ⟨g, rfl, hz⟩
  · have C := Lib.hid (markIntsNil p c)
    clear hw hn
    go_enter Tryz.func8, Tryz.ntmps8
    go_wp2_with fail
    refine (C.out _).mono ?_
    rintro e w1 ⟨rfl, rfl⟩
    go_wp2
    go_ret
    exact ⟨rfl, .inl rfl, World.grownBy_alloc _ _ _⟩
  · have C := Lib.hid (markIntsC g n c _ hz hn)
    clear hw hz
    go_enter Tryz.func8, Tryz.ntmps8
    go_wp2_with fail
    refine C.out.mono ?_
    rintro e w1 ⟨rfl, hm, hg, hs⟩
    go_wp2
    go_ret
    refine ⟨rfl, ?_, (World.grownBy_alloc w _ _).andThen hg (fun j hj => Or.inr hj)⟩
    by_cases h0 : n = 0
    · exact .inl h0
    · exact .inr ⟨g, rfl, by
        have hc := hm 0 (by omega)
        rcases Nat.lt_or_ge g w1.heap.size with h | h
        · exact h
        · simp [World.cell?, Array.getElem?_eq_none h] at hc, hm⟩
set_option maxHeartbeats 2000000 in
theorem heldTouchC (p : Option Addr) (n c : Nat) (r wt st : Bool) (w : World) (hw : MkP w p n) (hn : n ≤ 4096) :
    Calls Tryz.prog 9 #[.agg #[.slice p n c, .bool r, .bool wt, .bool st], .int .i64 1] w fun e w' => e = .returned (.int .i64 ((n : Int) + 1)) ∧ Below w.heap.size w w' := by
  have hw' := hw.kept (w' := w.alloc (.cells #[.slice p n c, .bool r, .bool wt, .bool st] 28)) ((Below.refl _ _).alloc (Nat.le_refl _) _)
  have B0 := Lib.hid (show Below w.heap.size w (w.alloc (.cells #[.slice p n c, .bool r, .bool wt, .bool st] 28)) from (Below.refl _ _).alloc (Nat.le_refl _) _)
  rcases hw' with rfl | ⟨g, rfl, _, hz⟩
  · have C := Lib.hid (heldIntsNil p c)
    clear hw hn
    go_enter Tryz.func9, Tryz.ntmps9
    go_wp2_with fail
    refine (C.out _).mono ?_
    rintro e w1 ⟨rfl, rfl⟩
    go_wp2
    go_ret
    exact ⟨rfl, B0.out⟩
  · have C := Lib.hid (heldIntsC g n c _ hz hn)
    have hneg : decide ((n : Int) + 1 < 0) = false := decide_eq_false (by omega)
    clear hw hz
    go_enter Tryz.func9, Tryz.ntmps9
    go_wp2_with fail
    refine C.out.mono ?_
    rintro e w1 ⟨rfl, rfl⟩
    go_wp2
    go_ret
    exact ⟨rfl, B0.out⟩
end Go.Proofs.YtjnjlgaemmdkhaaGreatDoor
namespace Go.Proofs.YtjnjlgaemmdkhaaGreatDoor
open Go.RowKit Go.Sort
set_option linter.unusedVariables false
set_option linter.unusedSimpArgs false
theorem maxL_of {W : World} (h : W.ShapedOpen Tryz.prog) : MaxL W :=
  Go.Proofs.cell_of_shapedOpen_int (zero := #[.int .i64 0]) (t := 3) h (of_decide_eq_true (by kernel_rfl)) (by kernel_rfl) rfl (by kernel_rfl) (by kernel_rfl) Tryz.underlying3
set_option maxRecDepth 100000 in
set_option maxHeartbeats 2000000 in
theorem toInsC (x : Ins) (w : World) : Calls Tryz.prog 5 #[.agg (insV x)] w fun e w' => e = .returned (.agg (insV x)) ∧ Below w.heap.size w w' := by
  have CT := Lib.hid toOpdC
  have T0 := Lib.hid (toI0 w x)
  obtain ⟨op, sz, cd, fr, d, s, ln⟩ := x
  simp only at T0
  unfold insV insA
  simp only
  go_enter Tryz.func5, Tryz.ntmps5
  go_wp2_with fail
  refine (CT.out d _).mono ?_
  rintro e w1 ⟨rfl, hb⟩
  have T1 := Lib.hid (T0.out.call hb)
  clear hb
  have T2h := Lib.hid (show ToI w (w1.setCells (w.heap.size + 1 + 1) 4 (opdL d).toArray.toList) _ _ from T1.out.dst d)
  have H2 := Lib.hid (T1.out.y.there 4 7 (by decide))
  have K11 := Lib.hid (show (w1.setCells (w.heap.size + 1 + 1) 4 (opdL d).toArray.toList).cell? ⟨w.heap.size, 11, none⟩ = some (.int .i64 s.k) from cell_of_row _ _ 11 _ _ _ T2h.out.a)
  have K12 := Lib.hid (show (w1.setCells (w.heap.size + 1 + 1) 4 (opdL d).toArray.toList).cell? ⟨w.heap.size, 12, none⟩ = some (.int .i64 s.r) from cell_of_row _ _ 12 _ _ _ T2h.out.a)
  have K13 := Lib.hid (show (w1.setCells (w.heap.size + 1 + 1) 4 (opdL d).toArray.toList).cell? ⟨w.heap.size, 13, none⟩ = some (.int .i64 s.b) from cell_of_row _ _ 13 _ _ _ T2h.out.a)
  have K14 := Lib.hid (show (w1.setCells (w.heap.size + 1 + 1) 4 (opdL d).toArray.toList).cell? ⟨w.heap.size, 14, none⟩ = some (.int .i64 s.i) from cell_of_row _ _ 14 _ _ _ T2h.out.a)
  have K15 := Lib.hid (show (w1.setCells (w.heap.size + 1 + 1) 4 (opdL d).toArray.toList).cell? ⟨w.heap.size, 15, none⟩ = some (.int .i64 s.s) from cell_of_row _ _ 15 _ _ _ T2h.out.a)
  have K16 := Lib.hid (show (w1.setCells (w.heap.size + 1 + 1) 4 (opdL d).toArray.toList).cell? ⟨w.heap.size, 16, none⟩ = some (.int .i64 s.d) from cell_of_row _ _ 16 _ _ _ T2h.out.a)
  have K17 := Lib.hid (show (w1.setCells (w.heap.size + 1 + 1) 4 (opdL d).toArray.toList).cell? ⟨w.heap.size, 17, none⟩ = some (.int .i64 s.m) from cell_of_row _ _ 17 _ _ _ T2h.out.a)
  go_wp2_with (first | (refine wpList_store_mid rfl 31 (.tmp 19) (.tmp 18) rfl (w.heap.size + 1 + 1) 4 (opdL d).toArray rfl rfl H2.out (by kernel_rfl) (by kernel_rfl) ?_; generalize w1.setCells (w.heap.size + 1 + 1) 4 (opdL d).toArray.toList = W2 at *; (have k11 := K11.out); (have k12 := K12.out); (have k13 := K13.out); (have k14 := K14.out); (have k15 := K15.out); (have k16 := K16.out); (have k17 := K17.out)))
  refine (CT.out s _).mono ?_
  rintro e w3 ⟨rfl, hb⟩
  have T3 := Lib.hid (T2h.out.call hb)
  clear hb
  have T4h := Lib.hid (show ToI w (w3.setCells (w.heap.size + 1 + 1) 11 (opdL s).toArray.toList) _ _ from T3.out.src s)
  have H4 := Lib.hid (T3.out.y.there 11 7 (by decide))
  have T5h := Lib.hid (show ToI w ((w3.setCells (w.heap.size + 1 + 1) 11 (opdL s).toArray.toList).setCell ⟨w.heap.size + 1 + 1, 18, none⟩ (.int .i64 ln)) ⟨op, sz, cd, fr, d, s, ln⟩ ⟨op, sz, cd, fr, d, s, ln⟩ from T4h.out.len ln)
  have K18 := Lib.hid (show (w3.setCells (w.heap.size + 1 + 1) 11 (opdL s).toArray.toList).cell? ⟨w.heap.size, 18, none⟩ = some (.int .i64 ln) from cell_of_row _ _ 18 _ _ _ T4h.out.a)
  have F18 := Lib.hid (show (w3.setCells (w.heap.size + 1 + 1) 11 (opdL s).toArray.toList).frozen? ⟨w.heap.size + 1 + 1, 18, none⟩ = false from T4h.out.y.free 18)
  have S18 := Lib.hid (show (w3.setCells (w.heap.size + 1 + 1) 11 (opdL s).toArray.toList).cell? ⟨w.heap.size + 1 + 1, 18, none⟩ = some (.int .i64 0) from T4h.out.y.cell 18)
  have D6 := Lib.hid (show Below w.heap.size w (((w3.setCells (w.heap.size + 1 + 1) 11 (opdL s).toArray.toList).setCell ⟨w.heap.size + 1 + 1, 18, none⟩ (.int .i64 ln)).setRow (w.heap.size + 1) (insA op sz cd fr d s ln)) from Go.below_setRow T5h.out.be (by omega) _)
  have Z6 := Lib.hid (show (((w3.setCells (w.heap.size + 1 + 1) 11 (opdL s).toArray.toList).setCell ⟨w.heap.size + 1 + 1, 18, none⟩ (.int .i64 ln)).setRow (w.heap.size + 1) (insA op sz cd fr d s ln)).heap[w.heap.size + 1]? = some (.cells (insA op sz cd fr d s ln) 33 (0, 0)) from setRow_heap _ _ _ _ _ _ T5h.out.z)
  have R5 := Lib.hid (show ((w3.setCells (w.heap.size + 1 + 1) 11 (opdL s).toArray.toList).setCell ⟨w.heap.size + 1 + 1, 18, none⟩ (.int .i64 ln)).heap[w.heap.size + 1 + 1]? = some (.cells (insA op sz cd fr d s ln) 33 (0, 0)) from T5h.out.y)
  have Z5 := Lib.hid (show ((w3.setCells (w.heap.size + 1 + 1) 11 (opdL s).toArray.toList).setCell ⟨w.heap.size + 1 + 1, 18, none⟩ (.int .i64 ln)).heap[w.heap.size + 1]? = some (.cells zIns 33 (0, 0)) from T5h.out.z)
  clear T5h CT T0 T1 T2h T3 T4h H2 K11 k11 K12 k12 K13 k13 K14 k14 K15 k15 K16 k16 K17 k17
  go_upto_region 9 with ((refine wpList_store_mid rfl 31 (.tmp 23) (.tmp 22) rfl (w.heap.size + 1 + 1) 11 (opdL s).toArray rfl rfl H4.out (by kernel_rfl) (by kernel_rfl) ?_; generalize w3.setCells (w.heap.size + 1 + 1) 11 (opdL s).toArray.toList = W4 at *; (have k18 := K18.out); (have g18 := F18.out); (have h18 := S18.out)))
  go_wp2_with (first | (refine wpList_load_row rfl 33 (.tmp 3) rfl (w.heap.size + 1 + 1) rfl 33 (insA op sz cd fr d s ln) (0, 0) _ R5.out Tryz.underlying33 rfl (by kernel_rfl) ?_) | (refine wpList_store_row rfl 33 (.tmp 2) (.tmp 27) rfl (w.heap.size + 1) (insA op sz cd fr d s ln) rfl rfl 33 _ Z5.out (by kernel_rfl) rfl (ins_one _ _ _ _ _ _ _) ?_))
  refine bodyPost_ret (v := .agg (insA op sz cd fr d s ln)) (by exact results_cell_row Tryz.results5 _ _ (w.heap.size + 1) 33 (insA op sz cd fr d s ln) (0, 0) _ rfl Z6.out Tryz.underlying33 rfl (by kernel_rfl)) (by rfl) ⟨rfl, D6.out⟩
end Go.Proofs.YtjnjlgaemmdkhaaGreatDoor
namespace Go.Proofs.YtjnjlgaemmdkhaaGreatDoor
open Go.RowKit Go.Sort
set_option linter.unusedVariables false
set_option linter.unusedSimpArgs false
set_option maxRecDepth 100000 in
set_option maxHeartbeats 8000000 in
theorem bothTouchOf (x : Ins) (w : World) (L : List Int) (r wt st : Bool) (k : Int) (hL : L.length ≤ 16) (C1 : Hid (∀ W, Calls Tryz.prog 4 #[.agg (insV x)] W fun e w' => ∃ p c, e = .returned (.tuple #[.agg #[.slice p L.length c, .bool r, .bool wt, .bool st], .int .i64 k]) ∧ w'.ownsRow W.heap.size 3 1 (.slice p L.length c) L.length (L.map (fun i => .int .i64 i)) ∧ Below W.heap.size W w')) (C2 : Hid (∀ W, Below w.heap.size w W → Calls Tryz.prog 6 #[.agg (insV x)] W fun e w' => ∃ p c, e = .returned (.tuple #[.agg #[.slice p L.length c, .bool r, .bool wt, .bool st], .int .i64 k]) ∧ w'.ownsRow W.heap.size 3 1 (.slice p L.length c) L.length (L.map (fun i => .int .i64 i)) ∧ Below W.heap.size W w')) :
    Calls Tryz.prog 3 #[.agg (insV x)] w fun e w' => e = .returned (.bool true) ∧ Below w.heap.size w w' := by
  have CT := Lib.hid (toInsC x)
  generalize hV : insV x = V at *
  have hS : V.size = 19 := by rw [← hV]; rfl
  have HS := Lib.hid hS
  clear hV hS
  obtain ⟨n, hn⟩ : ∃ n, n = L.length := ⟨_, rfl⟩
  rw [← hn] at C1 C2
  have HN := Lib.hid hn
  have hn16 : n ≤ 16 := by omega
  clear hn hL
  have R0 := Lib.hid (heap_alloc_new w (.cells V 25))
  have B0 := Lib.hid (show Below w.heap.size w (w.alloc (.cells V 25)) from (Below.refl _ _).alloc (Nat.le_refl _) _)
  have I19 := Lib.hid (show (Tryz.prog.info? 25).map (·.size) = some 19 by kernel_rfl)
  go_enter Tryz.func3, Tryz.ntmps3
  go_wp2_with (refine wpList_load_row rfl 25 (.tmp 1) rfl w.heap.size rfl 25 V (0, 0) _ R0.out Tryz.underlying25 rfl (by rw [HS.out]; exact I19.out) ?_)
  refine (CT.out _).mono ?_
  rintro e w1 ⟨rfl, hb1⟩
  go_wp2_with fail
  refine (C1.out _).mono ?_
  rintro e w2 ⟨p1, c1, rfl, ho1, hb2⟩
  have B2 := Lib.hid (ins_nest (ins_nest B0.out hb1) hb2)
  have R2 := Lib.hid ((hb2.block _ (Nat.lt_of_lt_of_le (lt_of_blk R0.out) hb1.size)).trans ((hb1.block _ (lt_of_blk R0.out)).trans R0.out))
  have Z1 := Lib.hid (rdZ_own ho1)
  have hp1 : ∀ q, p1 = some ⟨q, 0, none⟩ → q < w2.heap.size := fun q e => by subst e; exact (ho1.lt q rfl).2
  clear ho1 hb1 hb2
  have R3 := Lib.hid ((Below.heap_alloc w2 (.cells #[.slice p1 n c1, .bool r, .bool wt, .bool st] 28) _ (lt_of_blk R2.out)).trans R2.out)
  have B3 := Lib.hid (B2.out.alloc B2.out.size (.cells #[.slice p1 n c1, .bool r, .bool wt, .bool st] 28))
  have P3 := Lib.hid (heap_alloc_new w2 (.cells #[.slice p1 n c1, .bool r, .bool wt, .bool st] 28))
  have Z3 := Lib.hid (Z1.out.below (w' := w2.alloc (.cells #[.slice p1 n c1, .bool r, .bool wt, .bool st] 28)) ((Below.refl _ _).alloc (Nat.le_refl _) _))
  have hs2 := B2.out.size
  clear R2 B2 Z1
  go_wp2_with (refine wpList_load_row rfl 25 (.tmp 1) rfl w.heap.size rfl 25 V (0, 0) _ R3.out Tryz.underlying25 rfl (by rw [HS.out]; exact I19.out) ?_)
  refine (CT.out _).mono ?_
  rintro e w3 ⟨rfl, hb3⟩
  have B4 := Lib.hid (ins_nest B3.out hb3)
  have hz3 := hb3.size
  have zz3 : w2.heap.size + 1 = (w2.alloc (.cells #[.slice p1 n c1, .bool r, .bool wt, .bool st] 28)).heap.size := by simp
  go_wp2_with fail
  refine (C2.out _ B4.out).mono ?_
  rintro e w4 ⟨p2, c2, rfl, ho2, hb4⟩
  have B5 := Lib.hid (ins_nest B4.out hb4)
  have hb34 := hb3.trans (hb4.mono hb3.size)
  have R5 := Lib.hid ((hb34.block _ (lt_of_blk R3.out)).trans R3.out)
  have P5 := Lib.hid ((hb34.block _ (lt_of_blk P3.out)).trans P3.out)
  have Z5 := Lib.hid (Z3.out.below hb34)
  have O5 := Lib.hid ho2
  have hsz4 := hb4.size
  clear ho2 hb3 hb4 hb34 R3 B3 P3 Z3
  have a5 : Below w4.heap.size w4 (w4.alloc (.cells #[.slice p2 n c2, .bool r, .bool wt, .bool st] 28)) := (Below.refl _ _).alloc (Nat.le_refl _) _
  have R6 := Lib.hid ((a5.block _ (lt_of_blk R5.out)).trans R5.out)
  have P6 := Lib.hid ((a5.block _ (lt_of_blk P5.out)).trans P5.out)
  have Z6 := Lib.hid (Z5.out.below a5)
  have B6 := Lib.hid (B5.out.alloc B5.out.size (.cells #[.slice p2 n c2, .bool r, .bool wt, .bool st] 28))
  have Q6 := Lib.hid (heap_alloc_new w4 (.cells #[.slice p2 n c2, .bool r, .bool wt, .bool st] 28))
  have Y6 := Lib.hid ((rdZ_own O5.out).below a5)
  have W6 := Lib.hid ((wzP_own O5.out).kept a5)
  clear a5 R5 P5 Z5 B5
  have CE := Lib.hid (fun W (h1 : RdZ W p2 L) (h2 : RdZ W p1 L) => eqTouchC p2 p1 c2 c1 n L r wt st W HN.out h1 h2 (by have := HN.out; unfold maxLen; omega))
  go_wp2_with (first | (refine wpList_load_row rfl 28 (.tmp 5) rfl w4.heap.size rfl 28 #[.slice p2 n c2, .bool r, .bool wt, .bool st] (0, 0) _ Q6.out Tryz.underlying28 rfl (by kernel_rfl) ?_) | (refine wpList_load_row rfl 28 (.tmp 3) rfl w2.heap.size rfl 28 #[.slice p1 n c1, .bool r, .bool wt, .bool st] (0, 0) _ P6.out Tryz.underlying28 rfl (by kernel_rfl) ?_))
  refine (CE.out _ Y6.out Z6.out).mono ?_
  rintro e w5 ⟨rfl, hb⟩
  have R7 := Lib.hid ((hb.block _ (lt_of_blk R6.out)).trans R6.out)
  have P7 := Lib.hid ((hb.block _ (lt_of_blk P6.out)).trans P6.out)
  have Q7 := Lib.hid ((hb.block _ (lt_of_blk Q6.out)).trans Q6.out)
  have Z7 := Lib.hid (Z6.out.below hb)
  have W7 := Lib.hid (W6.out.kept hb)
  have B7 := Lib.hid (ins_nest B6.out hb)
  clear hb R6 P6 Q6 Z6 W6 B6 Y6
  have CM := Lib.hid (markTouchC p2 n c2 r wt st w5 W7.out (by omega))
  go_wp2_with (refine wpList_load_row rfl 28 (.tmp 5) rfl w4.heap.size rfl 28 #[.slice p2 n c2, .bool r, .bool wt, .bool st] (0, 0) _ Q7.out Tryz.underlying28 rfl (by kernel_rfl) ?_)
  refine CM.out.mono ?_
  rintro e w6 ⟨rfl, hm, hg⟩
  have hrow : ∀ k, p2.map (·.block) = some k → w2.heap.size + 1 ≤ k ∧ k < w4.heap.size := by
    intro k hk
    cases p2 with
    | none => cases hk
    | some a =>
      have := O5.out.lt k (by simpa [Value.ownBlock] using hk)
      omega
  have R8 := Lib.hid ((hg.block _ (lt_of_blk R7.out) (fun e => by have := (hrow _ e.symm).1; omega)).trans R7.out)
  have P8 := Lib.hid ((hg.block _ (lt_of_blk P7.out) (fun e => by have := (hrow _ e.symm).1; omega)).trans P7.out)
  have Q8 := Lib.hid ((hg.block _ (lt_of_blk Q7.out) (fun e => by have := (hrow _ e.symm).2; omega)).trans Q7.out)
  have Z8 : Hid (RdZ w6 p1 L) := Lib.hid (Z7.out.kept (fun b e hlt => hg.block b hlt (fun e2 => by have h1 := (hrow _ e2.symm).1; have h2 := hp1 b e; omega)) hg.size)
  have B8 := Lib.hid (B7.out.grown hg B7.out.size (fun k hk => by have := (hrow _ hk).1; omega))
  have M8 := Lib.hid hm
  clear hm hg R7 P7 Q7 Z7 W7 B7 CM
  have CH7 := Lib.hid (heldTouchC p2 n c2 r wt st w6 M8.out (by omega))
  go_wp2_with (refine wpList_load_row rfl 28 (.tmp 5) rfl w4.heap.size rfl 28 #[.slice p2 n c2, .bool r, .bool wt, .bool st] (0, 0) _ Q8.out Tryz.underlying28 rfl (by kernel_rfl) ?_)
  refine CH7.out.mono ?_
  rintro e w7 ⟨rfl, hb⟩
  have R9 := Lib.hid ((hb.block _ (lt_of_blk R8.out)).trans R8.out)
  have P9 := Lib.hid ((hb.block _ (lt_of_blk P8.out)).trans P8.out)
  have Q9 := Lib.hid ((hb.block _ (lt_of_blk Q8.out)).trans Q8.out)
  have Z9 := Lib.hid (Z8.out.below hb)
  have M9 := Lib.hid (M8.out.kept hb)
  have B9 := Lib.hid (ins_nest B8.out hb)
  clear hb R8 P8 Q8 Z8 M8 B8
  go_wp2_with (refine wpList_load_row rfl 25 (.tmp 1) rfl w.heap.size rfl 25 V (0, 0) _ R9.out Tryz.underlying25 rfl (by rw [HS.out]; exact I19.out) ?_)
  refine (CT.out _).mono ?_
  rintro e w8 ⟨rfl, hb⟩
  have R10 := Lib.hid ((hb.block _ (lt_of_blk R9.out)).trans R9.out)
  have P10 := Lib.hid ((hb.block _ (lt_of_blk P9.out)).trans P9.out)
  have Q10 := Lib.hid ((hb.block _ (lt_of_blk Q9.out)).trans Q9.out)
  have Z10 := Lib.hid (Z9.out.below hb)
  have M10 := Lib.hid (M9.out.kept hb)
  have B10 := Lib.hid (ins_nest B9.out hb)
  clear hb R9 P9 Q9 Z9 M9 B9
  go_wp2_with fail
  refine (C2.out _ B10.out).mono ?_
  rintro e w9 ⟨p3, c3, rfl, ho3, hb⟩
  have R11 := Lib.hid ((hb.block _ (lt_of_blk R10.out)).trans R10.out)
  have P11 := Lib.hid ((hb.block _ (lt_of_blk P10.out)).trans P10.out)
  have Q11 := Lib.hid ((hb.block _ (lt_of_blk Q10.out)).trans Q10.out)
  have Z11 := Lib.hid (Z10.out.below hb)
  have M11 := Lib.hid (M10.out.kept hb)
  have B11 := Lib.hid (ins_nest B10.out hb)
  clear hb R10 P10 Q10 Z10 M10 B10
  have Y11 := Lib.hid (rdZ_own ho3)
  clear ho3
  have hb : Below w9.heap.size w9 (w9.alloc (.cells #[.slice p3 n c3, .bool r, .bool wt, .bool st] 28)) := (Below.refl _ _).alloc (Nat.le_refl _) _
  have S12 := Lib.hid (heap_alloc_new w9 (.cells #[.slice p3 n c3, .bool r, .bool wt, .bool st] 28))
  have Y12 := Lib.hid (Y11.out.below hb)
  have R12 := Lib.hid ((hb.block _ (lt_of_blk R11.out)).trans R11.out)
  have P12 := Lib.hid ((hb.block _ (lt_of_blk P11.out)).trans P11.out)
  have Q12 := Lib.hid ((hb.block _ (lt_of_blk Q11.out)).trans Q11.out)
  have Z12 := Lib.hid (Z11.out.below hb)
  have M12 := Lib.hid (M11.out.kept hb)
  have B12 := Lib.hid (ins_nest B11.out hb)
  clear hb R11 P11 Q11 Z11 M11 B11
  have CE2 := Lib.hid (fun W (h1 : RdZ W p3 L) (h2 : RdZ W p1 L) => eqTouchC p3 p1 c3 c1 n L r wt st W HN.out h1 h2 (by have := HN.out; unfold maxLen; omega))
  go_wp2_with (first | (refine wpList_load_row rfl 28 (.tmp 9) rfl w9.heap.size rfl 28 #[.slice p3 n c3, .bool r, .bool wt, .bool st] (0, 0) _ S12.out Tryz.underlying28 rfl (by kernel_rfl) ?_) | (refine wpList_load_row rfl 28 (.tmp 3) rfl w2.heap.size rfl 28 #[.slice p1 n c1, .bool r, .bool wt, .bool st] (0, 0) _ P12.out Tryz.underlying28 rfl (by kernel_rfl) ?_))
  refine (CE2.out _ Y12.out Z12.out).mono ?_
  rintro e w10 ⟨rfl, hb⟩
  have R13 := Lib.hid ((hb.block _ (lt_of_blk R12.out)).trans R12.out)
  have P13 := Lib.hid ((hb.block _ (lt_of_blk P12.out)).trans P12.out)
  have Q13 := Lib.hid ((hb.block _ (lt_of_blk Q12.out)).trans Q12.out)
  have Z13 := Lib.hid (Z12.out.below hb)
  have M13 := Lib.hid (M12.out.kept hb)
  have B13 := Lib.hid (ins_nest B12.out hb)
  clear hb R12 P12 Q12 Z12 M12 B12
  have CH11 := Lib.hid (heldTouchC p2 n c2 r wt st w10 M13.out (by omega))
  go_wp2_with (refine wpList_load_row rfl 28 (.tmp 5) rfl w4.heap.size rfl 28 #[.slice p2 n c2, .bool r, .bool wt, .bool st] (0, 0) _ Q13.out Tryz.underlying28 rfl (by kernel_rfl) ?_)
  refine CH11.out.mono ?_
  rintro e w11 ⟨rfl, hb⟩
  have B14 := Lib.hid (ins_nest B13.out hb)
  clear hb
  go_wp2
  go_ret
  exact ⟨rfl, B14.out⟩
end Go.Proofs.YtjnjlgaemmdkhaaGreatDoor
