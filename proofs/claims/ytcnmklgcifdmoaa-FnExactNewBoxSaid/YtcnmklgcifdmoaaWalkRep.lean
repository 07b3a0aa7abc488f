/-
  What the laws' helpers over a report do (szReport, toReport, eqReport), and MayGo of both; conditions: those in each head.
-/
import Derived.Test.YtcnmklgcifdmoaaOpenRep
import Derived.Test.YtcnmklgcifdmoaaWalkZone
import Derived.OwnWalk
import Derived.WalkLawsBesides
import Derived.IntWalk
namespace Go.Proofs.Ytcnmklgcifdmoaa
open Go.RowKit
set_option linter.unusedVariables false
set_option linter.unusedSimpArgs false
theorem szIntsYes (q : Option Addr) (n c : Nat) (left : Int) (w : World) (h : (n : Int) ≤ left) (h1 : left ≤ 1048576) :
    Calls Try.prog 60 #[.slice q n c, .int .i64 left] w fun e w' => e = .returned (.int .i64 (left - n)) ∧ w = w' := by
  have h0 : 0 ≤ left - (n : Int) := by omega
  have hd : decide (left - (n : Int) < 0) = false := decide_eq_false (by omega)
  have hd2 : decide (left < (n : Int)) = false := decide_eq_false (by omega)
  go_enter Try.func60, Try.ntmps60
  go_wp2
  go_ret
  exact ⟨rfl, rfl⟩
theorem szIntsNo (q : Option Addr) (n c : Nat) (left : Int) (w : World) (h : left < (n : Int)) (h0 : 0 ≤ left) (h1 : left ≤ 1048576) (hn : (n : Int) ≤ 9223372036854775807) :
    Calls Try.prog 60 #[.slice q n c, .int .i64 left] w fun e w' => e = .returned (.int .i64 (-1)) ∧ w = w' := by
  have hx : left - (n : Int) < 0 := by omega
  go_enter Try.func60, Try.ntmps60
  go_wp2
  go_ret
  exact ⟨rfl, rfl⟩
set_option maxHeartbeats 1000000 in
theorem szRepYes (q0 q1 q2 : Option Addr) (n0 n1 n2 c0 c1 c2 : Nat) (n : Int) (w : World) (h : n0 + n1 + n2 ≤ 1048576) :
    Calls Try.prog 27 #[.agg #[.slice q0 n0 c0, .slice q1 n1 c1, .slice q2 n2 c2, .int .i64 n], .int .i64 1048576] w fun e w' => e = .returned (.int .i64 (1048576 - n0 - n1 - n2)) ∧ Below w.heap.size w w' := by
  have C0 := Lib.hid (fun w => szIntsYes q0 n0 c0 1048576 w (by omega) (by omega))
  have C1 := Lib.hid (fun w => szIntsYes q1 n1 c1 (1048576 - n0) w (by omega) (by omega))
  have C2 := Lib.hid (fun w => szIntsYes q2 n2 c2 (1048576 - n0 - n1) w (by omega) (by omega))
  have h0 : decide (1048576 - (n0 : Int) < 0) = false := decide_eq_false (by omega)
  have h0' : decide ((1048576 : Int) < (n0 : Int)) = false := decide_eq_false (by omega)
  have h1 : decide (1048576 - (n0 : Int) - (n1 : Int) < 0) = false := decide_eq_false (by omega)
  have h2 : decide (1048576 - (n0 : Int) - (n1 : Int) - (n2 : Int) < 0) = false := decide_eq_false (by omega)
  have g1 : 0 ≤ 1048576 - (n0 : Int) := by omega
  have g2 : 0 ≤ 1048576 - (n0 : Int) - (n1 : Int) := by omega
  have g3 : 0 ≤ 1048576 - (n0 : Int) - (n1 : Int) - (n2 : Int) := by omega
  clear h
  go_enter Try.func27, Try.ntmps27
  go_wp2_with fail
  refine (C0.out _).mono ?_
  rintro e w1 ⟨rfl, rfl⟩
  go_wp2_with fail
  refine (C1.out _).mono ?_
  rintro e w1 ⟨rfl, rfl⟩
  go_wp2_with fail
  refine (C2.out _).mono ?_
  rintro e w1 ⟨rfl, rfl⟩
  go_wp2
  go_ret
  exact ⟨rfl, (Below.refl _ _).alloc (Nat.le_refl _) _⟩
set_option maxHeartbeats 1000000 in
theorem szRepNo (q0 q1 q2 : Option Addr) (n0 n1 n2 c0 c1 c2 : Nat) (n : Int) (w : World) (h : ¬ n0 + n1 + n2 ≤ 1048576) (m0 : n0 ≤ maxLen) (m1 : n1 ≤ maxLen) (m2 : n2 ≤ maxLen) :
    Calls Try.prog 27 #[.agg #[.slice q0 n0 c0, .slice q1 n1 c1, .slice q2 n2 c2, .int .i64 n], .int .i64 1048576] w fun e w' => e = .returned (.int .i64 (-1)) ∧ Below w.heap.size w w' := by
  unfold maxLen at m0 m1 m2
  by_cases h0 : n0 ≤ 1048576
  · have C0 := Lib.hid (fun w => szIntsYes q0 n0 c0 1048576 w (by omega) (by omega))
    have d0 : decide (1048576 - (n0 : Int) < 0) = false := decide_eq_false (by omega)
    have g1 : 0 ≤ 1048576 - (n0 : Int) := by omega
    by_cases h1 : n0 + n1 ≤ 1048576
    · have C1 := Lib.hid (fun w => szIntsYes q1 n1 c1 (1048576 - n0) w (by omega) (by omega))
      have C2 := Lib.hid (fun w => szIntsNo q2 n2 c2 (1048576 - n0 - n1) w (by omega) (by omega) (by omega) (by omega))
      have d1 : decide (1048576 - (n0 : Int) - (n1 : Int) < 0) = false := decide_eq_false (by omega)
      have g2 : 0 ≤ 1048576 - (n0 : Int) - (n1 : Int) := by omega
      clear h h0 h1 m0 m1 m2
      go_enter Try.func27, Try.ntmps27
      go_wp2_with fail
      refine (C0.out _).mono ?_
      rintro e w1 ⟨rfl, rfl⟩
      go_wp2_with fail
      refine (C1.out _).mono ?_
      rintro e w1 ⟨rfl, rfl⟩
      go_wp2_with fail
      refine (C2.out _).mono ?_
      rintro e w1 ⟨rfl, rfl⟩
      go_wp2
      go_ret
      exact ⟨rfl, (Below.refl _ _).alloc (Nat.le_refl _) _⟩
    · have C1 := Lib.hid (fun w => szIntsNo q1 n1 c1 (1048576 - n0) w (by omega) (by omega) (by omega) (by omega))
      clear h h0 h1 m0 m1 m2
      go_enter Try.func27, Try.ntmps27
      go_wp2_with fail
      refine (C0.out _).mono ?_
      rintro e w1 ⟨rfl, rfl⟩
      go_wp2_with fail
      refine (C1.out _).mono ?_
      rintro e w1 ⟨rfl, rfl⟩
      go_wp2
      go_ret
      exact ⟨rfl, (Below.refl _ _).alloc (Nat.le_refl _) _⟩
  · have C0 := Lib.hid (fun w => szIntsNo q0 n0 c0 1048576 w (by omega) (by omega) (by omega) (by omega))
    clear h h0 m0 m1 m2
    go_enter Try.func27, Try.ntmps27
    go_wp2_with fail
    refine (C0.out _).mono ?_
    rintro e w1 ⟨rfl, rfl⟩
    go_wp2
    go_ret
    exact ⟨rfl, (Below.refl _ _).alloc (Nat.le_refl _) _⟩
theorem infoZ : (Try.prog.info? 3).map (fun i => (i.zero, i.size, i.bytes)) = some (some (.int .i64 0), 1, 8) := by kernel_rfl
/-- a list of which k elements are laid, then noughts -/
def mixZ (L : List Int) (k : Nat) : List Value := (L.take k ++ List.replicate (L.length - k) 0).map (fun z => .int .i64 z)
theorem mixZ_zero (L : List Int) : (madeCells (Value.int .i64 0).cells (L.length * 1)).toList = mixZ L 0 := by
  simp [madeCells, mixZ, Value.cells, Nat.mod_one]
  exact List.eq_replicate_iff.mpr ⟨by simp, by simp⟩
theorem mixZ_set (L : List Int) (k : Nat) (z : Int) (h : L[k]? = some z) : (mixZ L k).set k (.int .i64 z) = mixZ L (k + 1) := by
  obtain ⟨hk, hz⟩ := List.getElem?_eq_some_iff.1 h
  unfold mixZ
  apply List.ext_getElem?
  intro i
  rw [List.getElem?_set]
  simp only [List.getElem?_map, List.length_map, List.length_append, List.length_take, List.length_replicate, List.getElem?_append, List.getElem?_take, List.getElem?_replicate, Nat.min_eq_left (show k ≤ L.length by omega), Nat.min_eq_left (show k + 1 ≤ L.length by omega)]
  by_cases e : k = i
  · subst e
    rw [if_pos rfl, if_pos (by omega), if_pos (by omega), if_pos (by omega), h]
    rfl
  · rw [if_neg e]
    by_cases h1 : i < k
    · rw [if_pos h1, if_pos h1, if_pos (by omega), if_pos (by omega)]
    · rw [if_neg h1, if_neg (show ¬ i < k + 1 by omega)]
      by_cases h2 : i < L.length
      · rw [if_pos (by omega), if_pos (by omega)]
      · rw [if_neg (by omega), if_neg (by omega)]
theorem mixZ_all (L : List Int) : mixZ L L.length = L.map (fun z => .int .i64 z) := by simp [mixZ]
set_option maxHeartbeats 1000000 in
theorem toIntsC (p : Option Addr) (cap : Nat) (L : List Int) (w : World) (hr : RdA w p L) (hn : L.length ≤ 1048576) :
    Calls Try.prog 61 #[.slice p L.length cap] w fun e w' => e = .returned (.slice (some ⟨w.heap.size, 0, none⟩) L.length L.length) ∧ RdZ w' (some ⟨w.heap.size, 0, none⟩) L ∧ Below w.heap.size w w' := by
  obtain ⟨i0, hi, hz0, hz1, hz2⟩ := info_parts infoZ
  have HR := Lib.hid hr
  clear hr
  go_enter Try.func61, Try.ntmps61
  go_wp2_with (at_make; refine wpList_make_full _ rfl _ _ 25 rfl w.heap.size 3 i0 _ 1 Try.underlying25 hi hz0 hz1 .i64 .i64 _ _ L.length rfl rfl rfl rfl (by rw [hz2]; omega) (by unfold maxLen; omega) (Nat.le_refl _) ?_; intro w0 hown0 hgrow0)
  have hb0 : Below w.heap.size w w0 := (Below.refl _ _).grown hgrow0 (Nat.le_refl _) (fun _ h => by cases h)
  clear hgrow0
  rw [mixZ_zero] at hown0
  go_loopw [4] (fun i wr => ∃ k : Nat, k ≤ L.length ∧ i = .int .i64 k ∧ Hid (wr.ownsRow w.heap.size 3 1 (.slice (some ⟨w.heap.size, 0, none⟩) L.length L.length) L.length (mixZ L k)) ∧ Hid (Below w.heap.size w wr)) (fun i _ => L.length - (intOf i).toNat)
  case atStart => exact ⟨0, Nat.zero_le _, rfl, Lib.hid hown0, Lib.hid hb0⟩
  case round =>
    obtain ⟨k, hk, rfl, HO, HB⟩ := hrel
    by_cases hlt : k < L.length
    · obtain ⟨z, hz⟩ : ∃ z, L[k]? = some z := ⟨_, List.getElem?_eq_getElem hlt⟩
      obtain ⟨b, o, rfl, hbl, hc⟩ : ∃ b o, p = some ⟨b, o, none⟩ ∧ b < w.heap.size ∧ ∀ k z, L[k]? = some z → w.cell? ⟨b, o + k, none⟩ = some (.int .i64 z) := by
        rcases HR.out.1 with h | h
        · rw [h] at hlt; simp at hlt
        · exact h
      have c0 := (HB.out.cell (p := ⟨b, o + k, none⟩) hbl).trans (hc k z hz)
      obtain ⟨u0, d0⟩ : ∃ u, wr.cell? ⟨w.heap.size, k, none⟩ = some u := by
        rw [HO.out.cellAt k (by omega)]; exact ⟨_, List.getElem?_eq_getElem (by rw [HO.out.1]; omega)⟩
      have f0 := HO.out.frozenAt k
      have HZ := Lib.hid hz
      clear hz hc
      go_wp2
      go_roundw
      case rel => exact ⟨k + 1, by omega, by go_num, Lib.hid (by rw [← mixZ_set L k z HZ.out]; exact (HO.out.stored k _).1), Lib.hid (HB.out.setCell (Nat.le_refl _) _)⟩
      case measure => simp [intOf]; omega
    · obtain rfl : k = L.length := by omega
      have hrz : RdZ wr (some ⟨w.heap.size, 0, none⟩) L := rdZ_own (B := w.heap.size) (e := 3) (c := L.length) (n := L.length) (by have := HO.out; rw [mixZ_all] at this; exact this)
      go_wp2
      go_ret
      exact ⟨rfl, hrz, HB.out⟩
/-- what is answered of a report of lists -/
def RepOut (L0 L1 L2 : List Int) (n : Int) (w : World) (e : Ending) (w' : World) : Prop :=
  ∃ a0 a1 a2 : Addr, e = .returned (.agg #[.slice (some a0) L0.length L0.length, .slice (some a1) L1.length L1.length, .slice (some a2) L2.length L2.length, .int .i64 n]) ∧ RdZ w' (some a0) L0 ∧ RdZ w' (some a1) L1 ∧ RdZ w' (some a2) L2 ∧ Below w.heap.size w w'
/-- a list of ints is copied -/
def IntsOut (L : List Int) (w : World) (e : Ending) (w' : World) : Prop := ∃ a : Addr, e = .returned (.slice (some a) L.length L.length) ∧ RdZ w' (some a) L ∧ w.heap.size ≤ a.block ∧ Below w.heap.size w w'
theorem toIntsO (p : Option Addr) (cap : Nat) (L : List Int) (w : World) (hr : RdA w p L) (hn : L.length ≤ 1048576) :
    Calls Try.prog 61 #[.slice p L.length cap] w (IntsOut L w) :=
  (toIntsC p cap L w hr hn).mono fun e w' ⟨h1, h2, h3⟩ => ⟨_, h1, h2, Nat.le_refl _, h3⟩
theorem below_setRowR {n : Nat} {w0 W : World} {b : Nat} (h : Below n w0 W) (hle : n ≤ b) (hn : n ≤ w0.heap.size) (c : Array Value) : Below n w0 (W.setRow b c) :=
  ⟨h.os, h.tape, h.output, by simpa using h.size, fun k hk => (setRow_other W b k c (by omega)).trans (h.block k hk)⟩
/-- the three blocks that a report is copied with: what came, the result, what is put together -/
structure TR (w W : World) (A : Array Value) (x0 x1 x2 x3 : Value) : Prop where
  a : W.heap[w.heap.size]? = some (.cells A 27 (0, 0))
  z : W.heap[w.heap.size + 1]? = some (.cells #[.slice none 0 0, .slice none 0 0, .slice none 0 0, .int .i64 0] 41 (0, 0))
  y : W.heap[w.heap.size + 1 + 1]? = some (.cells #[x0, x1, x2, x3] 41 (0, 0))
  be : Below w.heap.size w W
theorem lt_of_heap {w : World} {b : Nat} {o : Obj} (h : w.heap[b]? = some o) : b < w.heap.size := (Array.getElem?_eq_some_iff.1 h).1
theorem TR.call {w W W1 : World} {A : Array Value} {x0 x1 x2 x3 : Value} (h : TR w W A x0 x1 x2 x3) (hb : Below W.heap.size W W1) : TR w W1 A x0 x1 x2 x3 :=
  ⟨(hb.block _ (lt_of_heap h.a)).trans h.a, (hb.block _ (lt_of_heap h.z)).trans h.z, (hb.block _ (lt_of_heap h.y)).trans h.y, h.be.trans (hb.mono h.be.size)⟩
theorem TR.free {w W : World} {A : Array Value} {x0 x1 x2 x3 : Value} (h : TR w W A x0 x1 x2 x3) (j : Nat) : W.frozen? ⟨w.heap.size + 1 + 1, j, none⟩ = false := by
  simp only [World.frozen?, h.y]; simp
theorem TR.set {w W : World} {A : Array Value} {x0 x1 x2 x3 : Value} (h : TR w W A x0 x1 x2 x3) (j : Nat) (v : Value) : TR w (W.setCell ⟨w.heap.size + 1 + 1, j, none⟩ v) A (if j = 0 then v else x0) (if j = 1 then v else x1) (if j = 2 then v else x2) (if j = 3 then v else x3) := by
  refine ⟨?_, ?_, ?_, h.be.setCell (by simp only; omega) _⟩
  · rw [Below.heap_setCell _ _ _ _ (by simp; omega)]; exact h.a
  · rw [Below.heap_setCell _ _ _ _ (by simp)]; exact h.z
  · rw [setCell_eq_setRow W (w.heap.size + 1 + 1) j _ _ _ v h.y, setRow_heap W _ _ _ _ _ h.y]
    congr 2
    match j with
    | 0 => rfl
    | 1 => rfl
    | 2 => rfl
    | 3 => rfl
    | (k + 4) => simp
theorem RdZ.kset {w W : World} {A : Array Value} {x0 x1 x2 x3 : Value} {a : Addr} {L : List Int} (h : RdZ W (some a) L) (T : TR w W A x0 x1 x2 x3) (ha : w.heap.size + 1 + 1 < a.block) (j : Nat) (v : Value) : RdZ (W.setCell ⟨w.heap.size + 1 + 1, j, none⟩ v) (some a) L :=
  h.kept (fun b e hb => Below.heap_setCell _ _ _ _ (by rintro rfl; cases e; simp at ha)) (by simp)
set_option maxHeartbeats 2000000 in
theorem toRepC (q0 q1 q2 : Option Addr) (L0 L1 L2 : List Int) (p0 p1 p2 : Nat) (n : Int) (w : World) (r0 : RdA w q0 L0) (r1 : RdA w q1 L1) (r2 : RdA w q2 L2) (h : L0.length + L1.length + L2.length ≤ 1048576) :
    Calls Try.prog 32 #[.agg #[.slice q0 L0.length p0, .slice q1 L1.length p1, .slice q2 L2.length p2, .int .i64 n]] w (RepOut L0 L1 L2 n w) := by
  have T0 : TR w (((w.alloc (.cells #[.slice q0 L0.length p0, .slice q1 L1.length p1, .slice q2 L2.length p2, .int .i64 n] 27)).alloc (.cells #[.slice none 0 0, .slice none 0 0, .slice none 0 0, .int .i64 0] 41)).alloc (.cells #[.slice none 0 0, .slice none 0 0, .slice none 0 0, .int .i64 0] 41)) #[.slice q0 L0.length p0, .slice q1 L1.length p1, .slice q2 L2.length p2, .int .i64 n] (.slice none 0 0) (.slice none 0 0) (.slice none 0 0) (.int .i64 0) := by
    refine ⟨?_, ?_, ?_, (((Below.refl _ _).alloc (Nat.le_refl _) _).alloc (by simp) _).alloc (by simp; omega) _⟩
    · rw [Below.heap_alloc _ _ _ (by simp; omega), Below.heap_alloc _ _ _ (by simp)]; exact heap_alloc_new _ _
    · rw [Below.heap_alloc _ _ _ (by simp)]
      have := heap_alloc_new (w.alloc (.cells #[.slice q0 L0.length p0, .slice q1 L1.length p1, .slice q2 L2.length p2, .int .i64 n] 27)) (.cells #[.slice none 0 0, .slice none 0 0, .slice none 0 0, .int .i64 0] 41)
      simpa using this
    · have := heap_alloc_new ((w.alloc (.cells #[.slice q0 L0.length p0, .slice q1 L1.length p1, .slice q2 L2.length p2, .int .i64 n] 27)).alloc (.cells #[.slice none 0 0, .slice none 0 0, .slice none 0 0, .int .i64 0] 41)) (.cells #[.slice none 0 0, .slice none 0 0, .slice none 0 0, .int .i64 0] 41)
      simpa using this
  have R0 := Lib.hid r0; have R1 := Lib.hid r1; have R2 := Lib.hid r2; have T0 := Lib.hid T0
  have l0 : L0.length ≤ 1048576 := by omega
  have l1 : L1.length ≤ 1048576 := by omega
  have l2 : L2.length ≤ 1048576 := by omega
  clear r0 r1 r2 h
  go_enter Try.func32, Try.ntmps32
  go_wp2_with fail
  refine (toIntsO q0 p0 L0 _ (R0.out.below T0.out.be) l0).mono ?_
  rintro e w1 ⟨a0, rfl, z0, g0, b1⟩
  have T1 := Lib.hid (T0.out.call b1)
  have G0 : w.heap.size + 1 + 1 < a0.block := Nat.lt_of_lt_of_le (lt_of_heap T0.out.y) g0
  have c1 := cell_of_row _ _ 1 _ _ _ T1.out.a
  have d0 := cell_of_row _ _ 0 _ _ _ T1.out.y
  have f0 := T1.out.free 0
  simp only [List.getElem?_toArray, List.getElem?_cons_zero, List.getElem?_cons_succ] at c1 d0
  have S1 := Lib.hid (T1.out.set 0 (.slice (some a0) L0.length L0.length))
  have Z0 := Lib.hid (z0.kset T1.out G0 0 (.slice (some a0) L0.length L0.length))
  clear b1 z0 T0 g0
  go_wp2_with fail
  refine (toIntsO q1 p1 L1 _ (R1.out.below S1.out.be) l1).mono ?_
  rintro e w2 ⟨a1, rfl, z1, g1, b2⟩
  have T2 := Lib.hid (S1.out.call b2)
  have G1 : w.heap.size + 1 + 1 < a1.block := Nat.lt_of_lt_of_le (lt_of_heap S1.out.y) g1
  have Z02 := Lib.hid ((Z0.out.below b2).kset T2.out G0 1 (.slice (some a1) L1.length L1.length))
  have Z12 := Lib.hid (z1.kset T2.out G1 1 (.slice (some a1) L1.length L1.length))
  clear c1 d0 f0
  have c2 := cell_of_row _ _ 2 _ _ _ T2.out.a
  have d1 := cell_of_row _ _ 1 _ _ _ T2.out.y
  have f1 := T2.out.free 1
  simp only [List.getElem?_toArray, List.getElem?_cons_zero, List.getElem?_cons_succ] at c2 d1
  have S2 := Lib.hid (T2.out.set 1 (.slice (some a1) L1.length L1.length))
  clear b2 z1 Z0 S1 T1 g1
  go_wp2_with fail
  refine (toIntsO q2 p2 L2 _ (R2.out.below S2.out.be) l2).mono ?_
  rintro e w3 ⟨a2, rfl, z2, g2, b3⟩
  have T3 := Lib.hid (S2.out.call b3)
  have G2 : w.heap.size + 1 + 1 < a2.block := Nat.lt_of_lt_of_le (lt_of_heap S2.out.y) g2
  have Z03 := (Z02.out.below b3).kset T3.out G0 2 (.slice (some a2) L2.length L2.length)
  have Z13 := (Z12.out.below b3).kset T3.out G1 2 (.slice (some a2) L2.length L2.length)
  have Z23 := z2.kset T3.out G2 2 (.slice (some a2) L2.length L2.length)
  have S3 := T3.out.set 2 (.slice (some a2) L2.length L2.length)
  have Z04 := Lib.hid (Z03.kset S3 G0 3 (.int .i64 n)); have Z14 := Lib.hid (Z13.kset S3 G1 3 (.int .i64 n)); have Z24 := Lib.hid (Z23.kset S3 G2 3 (.int .i64 n))
  have S4 := Lib.hid (S3.set 3 (.int .i64 n))
  have S3 := Lib.hid S3
  clear c2 d1 f1 b3 z2 Z03 Z13 Z23 g2 Z02 Z12 S2 T2
  have d2 := cell_of_row _ _ 2 _ _ _ T3.out.y
  have f2 := T3.out.free 2
  have c3 := cell_of_row _ _ 3 _ _ _ S3.out.a
  have d3 := cell_of_row _ _ 3 _ _ _ S3.out.y
  have f3 := S3.out.free 3
  simp only [List.getElem?_toArray, List.getElem?_cons_zero, List.getElem?_cons_succ] at d2 c3 d3
  have Y4 := S4.out.y; have Z4 := S4.out.z
  simp only [if_true, if_false, Nat.zero_ne_one, reduceIte, Nat.reduceEqDiff] at Y4
  have t1 : (#[.slice (some a0) L0.length L0.length, .slice (some a1) L1.length L1.length, .slice (some a2) L2.length L2.length, .int .i64 n] : Array Value).all (·.oneCell') = true := by kernel_rfl
  have t2 : (Try.prog.info? 41).map (·.size) = some (#[.slice (some a0) L0.length L0.length, .slice (some a1) L1.length L1.length, .slice (some a2) L2.length L2.length, .int .i64 n] : Array Value).size := by kernel_rfl
  go_wp2_with ((refine wpList_load_row rfl 41 (.tmp 3) rfl (w.heap.size + 1 + 1) rfl 41 _ (0, 0) _ Y4 Try.underlying41 rfl (by kernel_rfl) ?_); (refine wpList_store_row rfl 41 (.tmp 2) (.tmp 19) rfl (w.heap.size + 1) #[.slice (some a0) L0.length L0.length, .slice (some a1) L1.length L1.length, .slice (some a2) L2.length L2.length, .int .i64 n] rfl rfl 41 _ Z4 t2 rfl t1 ?_))
  refine bodyPost_ret (v := .agg #[.slice (some a0) L0.length L0.length, .slice (some a1) L1.length L1.length, .slice (some a2) L2.length L2.length, .int .i64 n]) (by exact results_cell_row Try.results32 _ _ (w.heap.size + 1) 41 _ (0, 0) _ rfl (setRow_heap _ _ _ _ _ _ Z4) Try.underlying41 rfl (by kernel_rfl)) (by rfl) ?_
  have k (V : World) (a : Addr) (L : List Int) (G : w.heap.size + 1 + 1 < a.block) (z : RdZ V (some a) L) (c : Array Value) := z.kept (w' := World.setRow V (w.heap.size + 1) c) (fun b e hb => setRow_other _ _ b _ (by cases e; simp at G; omega)) (by simp)
  exact ⟨a0, a1, a2, rfl, k _ a0 L0 G0 Z04.out _, k _ a1 L1 G1 Z14.out _, k _ a2 L2 G2 Z24.out _, below_setRowR S4.out.be (by omega) (Nat.le_refl _) _⟩
theorem ret_bb {a b : Bool} (h : a = b) : Ending.returned (.bool a) = .returned (.bool b) := by rw [h]
/-- three lists that lie in memory -/
structure Rz (w : World) (a0 a1 a2 : Addr) (L0 L1 L2 : List Int) : Prop where
  z0 : RdZ w (some a0) L0
  z1 : RdZ w (some a1) L1
  z2 : RdZ w (some a2) L2
theorem Rz.below {w w' : World} {a0 a1 a2 : Addr} {L0 L1 L2 : List Int} (h : Rz w a0 a1 a2 L0 L1 L2) (hb : Below w.heap.size w w') : Rz w' a0 a1 a2 L0 L1 L2 := ⟨h.z0.below hb, h.z1.below hb, h.z2.below hb⟩
/-- whether a jump may go there -/
def mayB (L0 L1 : List Int) (s g : Int) : Bool := decide (0 ≤ g ∧ g < s) && (L0.contains g && !L1.contains g)
set_option maxHeartbeats 1000000 in
theorem eqRepC (p0 p1 p2 q0 q1 q2 : Option Addr) (c0 c1 c2 d0 d1 d2 : Nat) (L0 L1 L2 : List Int) (n : Int) (w : World) (x0 : RdZ w p0 L0) (x1 : RdZ w p1 L1) (x2 : RdZ w p2 L2) (y0 : RdZ w q0 L0) (y1 : RdZ w q1 L1) (y2 : RdZ w q2 L2) (m0 : L0.length ≤ maxLen) (m1 : L1.length ≤ maxLen) (m2 : L2.length ≤ maxLen) :
    Calls Try.prog 38 #[.agg #[.slice p0 L0.length c0, .slice p1 L1.length c1, .slice p2 L2.length c2, .int .i64 n], .agg #[.slice q0 L0.length d0, .slice q1 L1.length d1, .slice q2 L2.length d2, .int .i64 n]] w fun e w' => e = .returned (.bool true) ∧ Below w.heap.size w w' := by
  obtain ⟨W, hW⟩ : ∃ W, W = (w.alloc (.cells #[.slice p0 L0.length c0, .slice p1 L1.length c1, .slice p2 L2.length c2, .int .i64 n] 41)).alloc (.cells #[.slice q0 L0.length d0, .slice q1 L1.length d1, .slice q2 L2.length d2, .int .i64 n] 41) := ⟨_, rfl⟩
  have HB : Hid (Below w.heap.size w W) := Lib.hid (by rw [hW]; exact ((Below.refl _ _).alloc (Nat.le_refl _) _).alloc (by simp) _)
  have HA : Hid (W.heap[w.heap.size]? = some (.cells #[.slice p0 L0.length c0, .slice p1 L1.length c1, .slice p2 L2.length c2, .int .i64 n] 41 (0, 0))) := Lib.hid (by rw [hW, Below.heap_alloc _ _ _ (by simp)]; exact heap_alloc_new _ _)
  have HC : Hid (W.heap[w.heap.size + 1]? = some (.cells #[.slice q0 L0.length d0, .slice q1 L1.length d1, .slice q2 L2.length d2, .int .i64 n] 41 (0, 0))) := Lib.hid (by
    rw [hW]
    have := heap_alloc_new (w.alloc (.cells #[.slice p0 L0.length c0, .slice p1 L1.length c1, .slice p2 L2.length c2, .int .i64 n] 41)) (.cells #[.slice q0 L0.length d0, .slice q1 L1.length d1, .slice q2 L2.length d2, .int .i64 n] 41)
    simpa using this)
  have X0 := Lib.hid (x0.below HB.out); have X1 := Lib.hid (x1.below HB.out); have X2 := Lib.hid (x2.below HB.out)
  have Y0 := Lib.hid (y0.below HB.out); have Y1 := Lib.hid (y1.below HB.out); have Y2 := Lib.hid (y2.below HB.out)
  have HW := Lib.hid hW
  clear x0 x1 x2 y0 y1 y2 hW
  have M0 := Lib.hid m0; have M1 := Lib.hid m1; have M2 := Lib.hid m2
  clear m0 m1 m2
  go_enter Try.func38, Try.ntmps38
  go_wp2_with fail
  rw [← HW.out]
  refine (eqIntsC p0 q0 c0 d0 L0 W X0.out Y0.out M0.out).mono ?_
  rintro e w1 ⟨rfl, b1⟩
  have A1 := (b1.block _ (lt_of_heap HA.out)).trans HA.out
  have C1 := (b1.block _ (lt_of_heap HC.out)).trans HC.out
  have u1 := cell_of_row _ _ 1 _ _ _ A1; have v1 := cell_of_row _ _ 1 _ _ _ C1
  simp only [List.getElem?_toArray, List.getElem?_cons_zero, List.getElem?_cons_succ] at u1 v1
  have P1 := Lib.hid A1; have Q1 := Lib.hid C1
  have HB1 := Lib.hid (HB.out.trans (b1.mono HB.out.size))
  have X11 := Lib.hid (X1.out.below b1); have Y11 := Lib.hid (Y1.out.below b1); have X21 := Lib.hid (X2.out.below b1); have Y21 := Lib.hid (Y2.out.below b1)
  clear A1 C1 b1 X1 Y1 X2 Y2 X0 Y0 HA HC HB
  go_wp2_with fail
  refine (eqIntsC p1 q1 c1 d1 L1 w1 X11.out Y11.out M1.out).mono ?_
  rintro e w2 ⟨rfl, b2⟩
  have A2 := (b2.block _ (lt_of_heap P1.out)).trans P1.out
  have C2 := (b2.block _ (lt_of_heap Q1.out)).trans Q1.out
  clear u1 v1
  have u2 := cell_of_row _ _ 2 _ _ _ A2; have v2 := cell_of_row _ _ 2 _ _ _ C2
  simp only [List.getElem?_toArray, List.getElem?_cons_zero, List.getElem?_cons_succ] at u2 v2
  have P2 := Lib.hid A2; have Q2 := Lib.hid C2
  have HB2 := Lib.hid (HB1.out.trans (b2.mono HB1.out.size))
  have X22 := Lib.hid (X21.out.below b2); have Y22 := Lib.hid (Y21.out.below b2)
  clear A2 C2 b2 X11 Y11 X21 Y21 HB1 P1 Q1
  go_wp2_with fail
  refine (eqIntsC p2 q2 c2 d2 L2 w2 X22.out Y22.out M2.out).mono ?_
  rintro e w3 ⟨rfl, b3⟩
  have A3 := (b3.block _ (lt_of_heap P2.out)).trans P2.out
  have C3 := (b3.block _ (lt_of_heap Q2.out)).trans Q2.out
  clear u2 v2
  have u3 := cell_of_row _ _ 3 _ _ _ A3; have v3 := cell_of_row _ _ 3 _ _ _ C3
  simp only [List.getElem?_toArray, List.getElem?_cons_zero, List.getElem?_cons_succ] at u3 v3
  have HB3 := Lib.hid (HB2.out.trans (b3.mono HB2.out.size))
  clear A3 C3 b3
  go_wp2
  go_ret
  exact ⟨rfl, HB3.out⟩
end Go.Proofs.Ytcnmklgcifdmoaa
