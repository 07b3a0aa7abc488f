/-
  What addOperand and addUnnamed of impl.touches do; conditions: those in each head.
-/
import Derived.Test.YtjnjlgaemmdkhaaGreatDoorWalkTm
import Derived.Test.YtjnjlgaemmdkhaaGreatDoorMathOpd
namespace Go.Proofs.YtjnjlgaemmdkhaaGreatDoor
open Go.RowKit Go.Maps
set_option linter.unusedVariables false
set_option linter.unusedSimpArgs false
def topd (x : Opd) (q : Bool × Bool) (g : Int → Option (Bool × Bool)) : Int → Option (Bool × Bool) := if x.k = 1 then tadd q (x.r.tmod 16) g else if x.k = 2 then tadd q (-1) g else g
theorem wf_tmod (r : Int) : (Lit.int .i64 (r.tmod 16)).wf = true := by
  have h1 := Int.tmod_lt_of_pos r (show (0:Int) < 16 by decide)
  have h2 : -16 < r.tmod 16 := by have := Int.tmod_lt_of_pos (-r) (show (0:Int) < 16 by decide); rw [Int.neg_tmod] at this; omega
  exact WalkArith.wf_i64 (by omega)
theorem cell1n (w : World) (T : TypeId) (v : Value) : (w.alloc (.cells #[v] T)).cell? ⟨w.heap.size, 0, none⟩ = some v := cell_of_row _ _ 0 _ _ _ (heap_alloc_new w (.cells #[v] T))
theorem cell2n (w : World) (T : TypeId) (v u : Value) : (w.alloc (.cells #[v, u] T)).cell? ⟨w.heap.size, 1, none⟩ = some u := cell_of_row _ _ 1 _ _ _ (heap_alloc_new w (.cells #[v, u] T))
theorem cell2m (w : World) (T : TypeId) (v u : Value) : (w.alloc (.cells #[v, u] T)).cell? ⟨w.heap.size, 0, none⟩ = some v := cell_of_row _ _ 0 _ _ _ (heap_alloc_new w (.cells #[v, u] T))
theorem grownA {w w' : World} {o : Obj} {b : Nat} (h : (w.alloc o).grownBy w' (some b)) : w.grownBy w' (some b) := (World.grownBy_alloc w o (some b)).andThen h (fun j hj => Or.inr hj)
/-- a call of add behind one block laid, with one place -/
theorem add1n (q : Bool × Bool) (p : Int) (hp : (Lit.int .i64 p).wf = true) (b n : Nat) (T : TypeId) (g : Int → Option (Bool × Bool)) (w : World) (s : Nat) (hT : TM w b n g) (hs : s = w.heap.size) (hn : n < 1000) :
    Calls Tryz.prog 60 #[.map (some b), .int .i64 (tnum q), .slice (some ⟨s, 0, none⟩) 1 1] (w.alloc (.cells #[.int .i64 p] T)) fun e w' => e = .returned (.tuple #[]) ∧ TM w' b (n + 1) (tadd q p g) ∧ w.grownBy w' (some b) := by
  subst hs
  exact (tAdd1 q p hp b n w.heap.size g _ (hT.alloc _) hn (cell1n w T _)).mono fun e w' ⟨h1, h2, h3⟩ => ⟨h1, h2, grownA h3⟩
theorem add2n (q : Bool × Bool) (p r : Int) (hp : (Lit.int .i64 p).wf = true) (hr : (Lit.int .i64 r).wf = true) (b n : Nat) (T : TypeId) (g : Int → Option (Bool × Bool)) (w : World) (s : Nat) (hT : TM w b n g) (hs : s = w.heap.size) (hn : n < 1000) :
    Calls Tryz.prog 60 #[.map (some b), .int .i64 (tnum q), .slice (some ⟨s, 0, none⟩) 2 2] (w.alloc (.cells #[.int .i64 p, .int .i64 r] T)) fun e w' => e = .returned (.tuple #[]) ∧ TM w' b (n + 2) (tadd q r (tadd q p g)) ∧ w.grownBy w' (some b) := by
  subst hs
  exact (tAdd2 q p r hp hr b n w.heap.size (by have := hT.lt; omega) g _ (hT.alloc _) hn (cell2m w T _ _) (cell2n w T _ _)).mono fun e w' ⟨h1, h2, h3⟩ => ⟨h1, h2, grownA h3⟩
set_option maxHeartbeats 1000000 in
theorem addOpdC (k r bb i s d m : Int) (q : Bool × Bool) (N : Int) (hN : N = tnum q) (b n : Nat) (g : Int → Option (Bool × Bool)) (w : World) (hT : TM w b n g) (hn : n < 1000) :
    Calls Tryz.prog 37 #[.map (some b), .agg #[.int .i64 k, .int .i64 r, .int .i64 bb, .int .i64 i, .int .i64 s, .int .i64 d, .int .i64 m], .int .i64 N] w fun e w' => e = .returned (.tuple #[]) ∧ TM w' b (n + 1) (topd ⟨k, r, bb, i, s, d, m⟩ q g) ∧ w.grownBy w' (some b) := by
  subst hN
  have HT := Lib.hid hT
  by_cases h1 : k = 1
  · subst h1
    have A := fun W T s (h : TM W b n g) (hs : s = W.heap.size) => add1n q (r.tmod 16) (wf_tmod r) b n T g W s h hs hn
    have A := Lib.hid A
    clear hT
    go_enter Tryz.func37, Tryz.ntmps37
    go_wp2_with fail
    refine (A.out _ _ _ (HT.out.alloc _) (by simp)).mono ?_
    rintro e w1 ⟨rfl, h1, h2⟩
    go_wp2
    go_end0
    exact ⟨rfl, by unfold topd; rw [if_pos rfl]; exact h1, grownA h2⟩
  · by_cases h2 : k = 2
    · subst h2
      have A := fun W T s (h : TM W b n g) (hs : s = W.heap.size) => add1n q (-1) (by decide) b n T g W s h hs hn
      have A := Lib.hid A
      clear hT h1
      go_enter Tryz.func37, Tryz.ntmps37
      go_wp2_with fail
      refine (A.out _ _ _ (HT.out.alloc _) (by simp)).mono ?_
      rintro e w1 ⟨rfl, h1, h2⟩
      go_wp2
      go_end0
      exact ⟨rfl, by unfold topd; rw [if_neg (show ¬ ((2:Int) = 1) by decide), if_pos rfl]; exact h1, grownA h2⟩
    · have t1 : (k == 1) = false := beq_eq_false_iff_ne.mpr h1
      have t2 : (k == 2) = false := beq_eq_false_iff_ne.mpr h2
      have E : topd ⟨k, r, bb, i, s, d, m⟩ q g = g := by unfold topd; rw [if_neg h1, if_neg h2]
      rw [E]
      clear hT h1 h2 E
      go_enter Tryz.func37, Tryz.ntmps37
      go_wp2
      go_end0
      exact ⟨rfl, (HT.out.alloc _).mono (by omega), World.grownBy_alloc _ _ _⟩
/-- what an operation touches beside its operands -/
def tun (op : Int) (g : Int → Option (Bool × Bool)) : Int → Option (Bool × Bool) := if op = 13 ∨ op = 14 ∨ op = 15 ∨ op = 16 then (tadd (false, true) 2 (tadd (false, true) 0 g)) else if op = 39 then (tadd (false, true) 0 g) else if op = 40 then (tadd (false, true) 2 g) else if op = 41 then (tadd (false, true) (-1) (tadd (false, true) 7 g)) else if op = 42 then (tadd (true, true) (-1) (tadd (false, true) 7 (tadd (false, true) 6 g))) else if op = 29 ∨ op = 31 then (tadd (false, true) (-1) (tadd (false, true) 4 g)) else if op = 30 ∨ op = 34 then (tadd (true, false) (-1) (tadd (false, true) 4 g)) else g
set_option maxHeartbeats 1000000 in
theorem unn13 (b n : Nat) (g : Int → Option (Bool × Bool)) (w : World) (hT : TM w b n g) (hn : n < 900) :
    Calls Tryz.prog 36 #[.map (some b), .int .i64 13] w fun e w' => e = .returned (.tuple #[]) ∧ TM w' b (n + 3) (tadd (false, true) 2 (tadd (false, true) 0 g)) ∧ w.grownBy w' (some b) := by
  have HT := Lib.hid hT
  have A0 := fun W T s (h : TM W b (n + 0) g) (hs : s = W.heap.size) => add2n (false, true) (0) (2) (by decide) (by decide) b (n + 0) T g W s h hs (by omega)
  have A0 := Lib.hid A0
  unfold tnum at A0
  simp only [reduceIte, Bool.false_eq_true, Int.zero_add, Int.add_zero, Int.reduceAdd] at A0
  clear hT
  go_enter Tryz.func36, Tryz.ntmps36
  go_wp2_with fail
  refine (A0.out _ _ _ HT.out (by simp)).mono ?_
  rintro e w1 ⟨rfl, h0, k0⟩
  go_wp2
  go_end0
  exact ⟨rfl, h0.mono (by omega), k0⟩
set_option maxHeartbeats 1000000 in
theorem unn14 (b n : Nat) (g : Int → Option (Bool × Bool)) (w : World) (hT : TM w b n g) (hn : n < 900) :
    Calls Tryz.prog 36 #[.map (some b), .int .i64 14] w fun e w' => e = .returned (.tuple #[]) ∧ TM w' b (n + 3) (tadd (false, true) 2 (tadd (false, true) 0 g)) ∧ w.grownBy w' (some b) := by
  have HT := Lib.hid hT
  have A0 := fun W T s (h : TM W b (n + 0) g) (hs : s = W.heap.size) => add2n (false, true) (0) (2) (by decide) (by decide) b (n + 0) T g W s h hs (by omega)
  have A0 := Lib.hid A0
  unfold tnum at A0
  simp only [reduceIte, Bool.false_eq_true, Int.zero_add, Int.add_zero, Int.reduceAdd] at A0
  clear hT
  go_enter Tryz.func36, Tryz.ntmps36
  go_wp2_with fail
  refine (A0.out _ _ _ HT.out (by simp)).mono ?_
  rintro e w1 ⟨rfl, h0, k0⟩
  go_wp2
  go_end0
  exact ⟨rfl, h0.mono (by omega), k0⟩
set_option maxHeartbeats 1000000 in
theorem unn15 (b n : Nat) (g : Int → Option (Bool × Bool)) (w : World) (hT : TM w b n g) (hn : n < 900) :
    Calls Tryz.prog 36 #[.map (some b), .int .i64 15] w fun e w' => e = .returned (.tuple #[]) ∧ TM w' b (n + 3) (tadd (false, true) 2 (tadd (false, true) 0 g)) ∧ w.grownBy w' (some b) := by
  have HT := Lib.hid hT
  have A0 := fun W T s (h : TM W b (n + 0) g) (hs : s = W.heap.size) => add2n (false, true) (0) (2) (by decide) (by decide) b (n + 0) T g W s h hs (by omega)
  have A0 := Lib.hid A0
  unfold tnum at A0
  simp only [reduceIte, Bool.false_eq_true, Int.zero_add, Int.add_zero, Int.reduceAdd] at A0
  clear hT
  go_enter Tryz.func36, Tryz.ntmps36
  go_wp2_with fail
  refine (A0.out _ _ _ HT.out (by simp)).mono ?_
  rintro e w1 ⟨rfl, h0, k0⟩
  go_wp2
  go_end0
  exact ⟨rfl, h0.mono (by omega), k0⟩
set_option maxHeartbeats 1000000 in
theorem unn16 (b n : Nat) (g : Int → Option (Bool × Bool)) (w : World) (hT : TM w b n g) (hn : n < 900) :
    Calls Tryz.prog 36 #[.map (some b), .int .i64 16] w fun e w' => e = .returned (.tuple #[]) ∧ TM w' b (n + 3) (tadd (false, true) 2 (tadd (false, true) 0 g)) ∧ w.grownBy w' (some b) := by
  have HT := Lib.hid hT
  have A0 := fun W T s (h : TM W b (n + 0) g) (hs : s = W.heap.size) => add2n (false, true) (0) (2) (by decide) (by decide) b (n + 0) T g W s h hs (by omega)
  have A0 := Lib.hid A0
  unfold tnum at A0
  simp only [reduceIte, Bool.false_eq_true, Int.zero_add, Int.add_zero, Int.reduceAdd] at A0
  clear hT
  go_enter Tryz.func36, Tryz.ntmps36
  go_wp2_with fail
  refine (A0.out _ _ _ HT.out (by simp)).mono ?_
  rintro e w1 ⟨rfl, h0, k0⟩
  go_wp2
  go_end0
  exact ⟨rfl, h0.mono (by omega), k0⟩
set_option maxHeartbeats 1000000 in
theorem unn39 (b n : Nat) (g : Int → Option (Bool × Bool)) (w : World) (hT : TM w b n g) (hn : n < 900) :
    Calls Tryz.prog 36 #[.map (some b), .int .i64 39] w fun e w' => e = .returned (.tuple #[]) ∧ TM w' b (n + 3) (tadd (false, true) 0 g) ∧ w.grownBy w' (some b) := by
  have HT := Lib.hid hT
  have A0 := fun W T s (h : TM W b (n + 0) g) (hs : s = W.heap.size) => add1n (false, true) (0) (by decide) b (n + 0) T g W s h hs (by omega)
  have A0 := Lib.hid A0
  unfold tnum at A0
  simp only [reduceIte, Bool.false_eq_true, Int.zero_add, Int.add_zero, Int.reduceAdd] at A0
  clear hT
  go_enter Tryz.func36, Tryz.ntmps36
  go_wp2_with fail
  refine (A0.out _ _ _ HT.out (by simp)).mono ?_
  rintro e w1 ⟨rfl, h0, k0⟩
  go_wp2
  go_end0
  exact ⟨rfl, h0.mono (by omega), k0⟩
set_option maxHeartbeats 1000000 in
theorem unn40 (b n : Nat) (g : Int → Option (Bool × Bool)) (w : World) (hT : TM w b n g) (hn : n < 900) :
    Calls Tryz.prog 36 #[.map (some b), .int .i64 40] w fun e w' => e = .returned (.tuple #[]) ∧ TM w' b (n + 3) (tadd (false, true) 2 g) ∧ w.grownBy w' (some b) := by
  have HT := Lib.hid hT
  have A0 := fun W T s (h : TM W b (n + 0) g) (hs : s = W.heap.size) => add1n (false, true) (2) (by decide) b (n + 0) T g W s h hs (by omega)
  have A0 := Lib.hid A0
  unfold tnum at A0
  simp only [reduceIte, Bool.false_eq_true, Int.zero_add, Int.add_zero, Int.reduceAdd] at A0
  clear hT
  go_enter Tryz.func36, Tryz.ntmps36
  go_wp2_with fail
  refine (A0.out _ _ _ HT.out (by simp)).mono ?_
  rintro e w1 ⟨rfl, h0, k0⟩
  go_wp2
  go_end0
  exact ⟨rfl, h0.mono (by omega), k0⟩
set_option maxHeartbeats 1000000 in
theorem unn41 (b n : Nat) (g : Int → Option (Bool × Bool)) (w : World) (hT : TM w b n g) (hn : n < 900) :
    Calls Tryz.prog 36 #[.map (some b), .int .i64 41] w fun e w' => e = .returned (.tuple #[]) ∧ TM w' b (n + 3) (tadd (false, true) (-1) (tadd (false, true) 7 g)) ∧ w.grownBy w' (some b) := by
  have HT := Lib.hid hT
  have A0 := fun W T s (h : TM W b (n + 0) g) (hs : s = W.heap.size) => add2n (false, true) (7) (-1) (by decide) (by decide) b (n + 0) T g W s h hs (by omega)
  have A0 := Lib.hid A0
  unfold tnum at A0
  simp only [reduceIte, Bool.false_eq_true, Int.zero_add, Int.add_zero, Int.reduceAdd] at A0
  clear hT
  go_enter Tryz.func36, Tryz.ntmps36
  go_wp2_with fail
  refine (A0.out _ _ _ HT.out (by simp)).mono ?_
  rintro e w1 ⟨rfl, h0, k0⟩
  go_wp2
  go_end0
  exact ⟨rfl, h0.mono (by omega), k0⟩
set_option maxHeartbeats 1000000 in
theorem unn42 (b n : Nat) (g : Int → Option (Bool × Bool)) (w : World) (hT : TM w b n g) (hn : n < 900) :
    Calls Tryz.prog 36 #[.map (some b), .int .i64 42] w fun e w' => e = .returned (.tuple #[]) ∧ TM w' b (n + 3) (tadd (true, true) (-1) (tadd (false, true) 7 (tadd (false, true) 6 g))) ∧ w.grownBy w' (some b) := by
  have HT := Lib.hid hT
  have A0 := fun W T s (h : TM W b (n + 0) g) (hs : s = W.heap.size) => add2n (false, true) (6) (7) (by decide) (by decide) b (n + 0) T g W s h hs (by omega)
  have A0 := Lib.hid A0
  unfold tnum at A0
  simp only [reduceIte, Bool.false_eq_true, Int.zero_add, Int.add_zero, Int.reduceAdd] at A0
  have A1 := fun W T s (h : TM W b (n + 2) (tadd (false, true) 7 (tadd (false, true) 6 g))) (hs : s = W.heap.size) => add1n (true, true) (-1) (by decide) b (n + 2) T (tadd (false, true) 7 (tadd (false, true) 6 g)) W s h hs (by omega)
  have A1 := Lib.hid A1
  unfold tnum at A1
  simp only [reduceIte, Bool.false_eq_true, Int.zero_add, Int.add_zero, Int.reduceAdd] at A1
  clear hT
  go_enter Tryz.func36, Tryz.ntmps36
  go_wp2_with fail
  refine (A0.out _ _ _ HT.out (by simp)).mono ?_
  rintro e w1 ⟨rfl, h0, k0⟩
  go_wp2_with fail
  refine (A1.out _ _ _ h0 (by simp)).mono ?_
  rintro e w2 ⟨rfl, h1, k1⟩
  go_wp2
  go_end0
  exact ⟨rfl, h1.mono (by omega), (grown_self k0 k1)⟩
set_option maxHeartbeats 1000000 in
theorem unn29 (b n : Nat) (g : Int → Option (Bool × Bool)) (w : World) (hT : TM w b n g) (hn : n < 900) :
    Calls Tryz.prog 36 #[.map (some b), .int .i64 29] w fun e w' => e = .returned (.tuple #[]) ∧ TM w' b (n + 3) (tadd (false, true) (-1) (tadd (false, true) 4 g)) ∧ w.grownBy w' (some b) := by
  have HT := Lib.hid hT
  have A0 := fun W T s (h : TM W b (n + 0) g) (hs : s = W.heap.size) => add2n (false, true) (4) (-1) (by decide) (by decide) b (n + 0) T g W s h hs (by omega)
  have A0 := Lib.hid A0
  unfold tnum at A0
  simp only [reduceIte, Bool.false_eq_true, Int.zero_add, Int.add_zero, Int.reduceAdd] at A0
  clear hT
  go_enter Tryz.func36, Tryz.ntmps36
  go_wp2_with fail
  refine (A0.out _ _ _ HT.out (by simp)).mono ?_
  rintro e w1 ⟨rfl, h0, k0⟩
  go_wp2
  go_end0
  exact ⟨rfl, h0.mono (by omega), k0⟩
set_option maxHeartbeats 1000000 in
theorem unn31 (b n : Nat) (g : Int → Option (Bool × Bool)) (w : World) (hT : TM w b n g) (hn : n < 900) :
    Calls Tryz.prog 36 #[.map (some b), .int .i64 31] w fun e w' => e = .returned (.tuple #[]) ∧ TM w' b (n + 3) (tadd (false, true) (-1) (tadd (false, true) 4 g)) ∧ w.grownBy w' (some b) := by
  have HT := Lib.hid hT
  have A0 := fun W T s (h : TM W b (n + 0) g) (hs : s = W.heap.size) => add2n (false, true) (4) (-1) (by decide) (by decide) b (n + 0) T g W s h hs (by omega)
  have A0 := Lib.hid A0
  unfold tnum at A0
  simp only [reduceIte, Bool.false_eq_true, Int.zero_add, Int.add_zero, Int.reduceAdd] at A0
  clear hT
  go_enter Tryz.func36, Tryz.ntmps36
  go_wp2_with fail
  refine (A0.out _ _ _ HT.out (by simp)).mono ?_
  rintro e w1 ⟨rfl, h0, k0⟩
  go_wp2
  go_end0
  exact ⟨rfl, h0.mono (by omega), k0⟩
set_option maxHeartbeats 1000000 in
theorem unn30 (b n : Nat) (g : Int → Option (Bool × Bool)) (w : World) (hT : TM w b n g) (hn : n < 900) :
    Calls Tryz.prog 36 #[.map (some b), .int .i64 30] w fun e w' => e = .returned (.tuple #[]) ∧ TM w' b (n + 3) (tadd (true, false) (-1) (tadd (false, true) 4 g)) ∧ w.grownBy w' (some b) := by
  have HT := Lib.hid hT
  have A0 := fun W T s (h : TM W b (n + 0) g) (hs : s = W.heap.size) => add1n (false, true) (4) (by decide) b (n + 0) T g W s h hs (by omega)
  have A0 := Lib.hid A0
  unfold tnum at A0
  simp only [reduceIte, Bool.false_eq_true, Int.zero_add, Int.add_zero, Int.reduceAdd] at A0
  have A1 := fun W T s (h : TM W b (n + 1) (tadd (false, true) 4 g)) (hs : s = W.heap.size) => add1n (true, false) (-1) (by decide) b (n + 1) T (tadd (false, true) 4 g) W s h hs (by omega)
  have A1 := Lib.hid A1
  unfold tnum at A1
  simp only [reduceIte, Bool.false_eq_true, Int.zero_add, Int.add_zero, Int.reduceAdd] at A1
  clear hT
  go_enter Tryz.func36, Tryz.ntmps36
  go_wp2_with fail
  refine (A0.out _ _ _ HT.out (by simp)).mono ?_
  rintro e w1 ⟨rfl, h0, k0⟩
  go_wp2_with fail
  refine (A1.out _ _ _ h0 (by simp)).mono ?_
  rintro e w2 ⟨rfl, h1, k1⟩
  go_wp2
  go_end0
  exact ⟨rfl, h1.mono (by omega), (grown_self k0 k1)⟩
set_option maxHeartbeats 1000000 in
theorem unn34 (b n : Nat) (g : Int → Option (Bool × Bool)) (w : World) (hT : TM w b n g) (hn : n < 900) :
    Calls Tryz.prog 36 #[.map (some b), .int .i64 34] w fun e w' => e = .returned (.tuple #[]) ∧ TM w' b (n + 3) (tadd (true, false) (-1) (tadd (false, true) 4 g)) ∧ w.grownBy w' (some b) := by
  have HT := Lib.hid hT
  have A0 := fun W T s (h : TM W b (n + 0) g) (hs : s = W.heap.size) => add1n (false, true) (4) (by decide) b (n + 0) T g W s h hs (by omega)
  have A0 := Lib.hid A0
  unfold tnum at A0
  simp only [reduceIte, Bool.false_eq_true, Int.zero_add, Int.add_zero, Int.reduceAdd] at A0
  have A1 := fun W T s (h : TM W b (n + 1) (tadd (false, true) 4 g)) (hs : s = W.heap.size) => add1n (true, false) (-1) (by decide) b (n + 1) T (tadd (false, true) 4 g) W s h hs (by omega)
  have A1 := Lib.hid A1
  unfold tnum at A1
  simp only [reduceIte, Bool.false_eq_true, Int.zero_add, Int.add_zero, Int.reduceAdd] at A1
  clear hT
  go_enter Tryz.func36, Tryz.ntmps36
  go_wp2_with fail
  refine (A0.out _ _ _ HT.out (by simp)).mono ?_
  rintro e w1 ⟨rfl, h0, k0⟩
  go_wp2_with fail
  refine (A1.out _ _ _ h0 (by simp)).mono ?_
  rintro e w2 ⟨rfl, h1, k1⟩
  go_wp2
  go_end0
  exact ⟨rfl, h1.mono (by omega), (grown_self k0 k1)⟩
set_option maxHeartbeats 1000000 in
theorem unnN (op : Int) (h13 : (op == 13) = false) (h14 : (op == 14) = false) (h15 : (op == 15) = false) (h16 : (op == 16) = false) (h39 : (op == 39) = false) (h40 : (op == 40) = false) (h41 : (op == 41) = false) (h42 : (op == 42) = false) (h29 : (op == 29) = false) (h31 : (op == 31) = false) (h30 : (op == 30) = false) (h34 : (op == 34) = false) (b n : Nat) (g : Int → Option (Bool × Bool)) (w : World) (hT : TM w b n g) (hn : n < 900) :
    Calls Tryz.prog 36 #[.map (some b), .int .i64 op] w fun e w' => e = .returned (.tuple #[]) ∧ TM w' b (n + 3) g ∧ w.grownBy w' (some b) := by
  have HT := Lib.hid hT
  clear hT
  go_enter Tryz.func36, Tryz.ntmps36
  go_wp2
  go_end0
  exact ⟨rfl, HT.out.mono (by omega), World.grownBy.refl _ _⟩
theorem unnC (op : Int) (b n : Nat) (g : Int → Option (Bool × Bool)) (w : World) (hT : TM w b n g) (hn : n < 900) :
    Calls Tryz.prog 36 #[.map (some b), .int .i64 op] w fun e w' => e = .returned (.tuple #[]) ∧ TM w' b (n + 3) (tun op g) ∧ w.grownBy w' (some b) := by
  by_cases h : op = 13 ∨ op = 14 ∨ op = 15 ∨ op = 16 ∨ op = 39 ∨ op = 40 ∨ op = 41 ∨ op = 42 ∨ op = 29 ∨ op = 31 ∨ op = 30 ∨ op = 34
  · rcases h with rfl | rfl | rfl | rfl | rfl | rfl | rfl | rfl | rfl | rfl | rfl | rfl
    · have := unn13 b n g w hT hn; unfold tun; simpa only [reduceIte, Int.reduceEq, or_self, or_false, or_true, false_or, true_or] using this
    · have := unn14 b n g w hT hn; unfold tun; simpa only [reduceIte, Int.reduceEq, or_self, or_false, or_true, false_or, true_or] using this
    · have := unn15 b n g w hT hn; unfold tun; simpa only [reduceIte, Int.reduceEq, or_self, or_false, or_true, false_or, true_or] using this
    · have := unn16 b n g w hT hn; unfold tun; simpa only [reduceIte, Int.reduceEq, or_self, or_false, or_true, false_or, true_or] using this
    · have := unn39 b n g w hT hn; unfold tun; simpa only [reduceIte, Int.reduceEq, or_self, or_false, or_true, false_or, true_or] using this
    · have := unn40 b n g w hT hn; unfold tun; simpa only [reduceIte, Int.reduceEq, or_self, or_false, or_true, false_or, true_or] using this
    · have := unn41 b n g w hT hn; unfold tun; simpa only [reduceIte, Int.reduceEq, or_self, or_false, or_true, false_or, true_or] using this
    · have := unn42 b n g w hT hn; unfold tun; simpa only [reduceIte, Int.reduceEq, or_self, or_false, or_true, false_or, true_or] using this
    · have := unn29 b n g w hT hn; unfold tun; simpa only [reduceIte, Int.reduceEq, or_self, or_false, or_true, false_or, true_or] using this
    · have := unn31 b n g w hT hn; unfold tun; simpa only [reduceIte, Int.reduceEq, or_self, or_false, or_true, false_or, true_or] using this
    · have := unn30 b n g w hT hn; unfold tun; simpa only [reduceIte, Int.reduceEq, or_self, or_false, or_true, false_or, true_or] using this
    · have := unn34 b n g w hT hn; unfold tun; simpa only [reduceIte, Int.reduceEq, or_self, or_false, or_true, false_or, true_or] using this
  · simp only [not_or] at h
    obtain ⟨h13, h14, h15, h16, h39, h40, h41, h42, h29, h31, h30, h34⟩ := h
    have E : tun op g = g := by unfold tun; simp only [*, reduceIte, or_self]
    rw [E]
    exact unnN op (beq_eq_false_iff_ne.mpr h13) (beq_eq_false_iff_ne.mpr h14) (beq_eq_false_iff_ne.mpr h15) (beq_eq_false_iff_ne.mpr h16) (beq_eq_false_iff_ne.mpr h39) (beq_eq_false_iff_ne.mpr h40) (beq_eq_false_iff_ne.mpr h41) (beq_eq_false_iff_ne.mpr h42) (beq_eq_false_iff_ne.mpr h29) (beq_eq_false_iff_ne.mpr h31) (beq_eq_false_iff_ne.mpr h30) (beq_eq_false_iff_ne.mpr h34) b n g w hT hn
end Go.Proofs.YtjnjlgaemmdkhaaGreatDoor
