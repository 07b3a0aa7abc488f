/-
  What l05From, l05Sizes, l05Wide and l05Rex of spec do; conditions: those in each head.
-/
import Derived.Test.YtjnjlgaemmdkhaaGreatDoorWalkOkI
import Derived.Test.YtjnjlgaemmdkhaaGreatDoorWalkOpd2
namespace Go.Proofs.YtjnjlgaemmdkhaaGreatDoor
open Go.RowKit
set_option linter.unusedVariables false
set_option linter.unusedSimpArgs false
def frS (x : Ins) : Int := if 0 < x.fr then x.fr else x.sz
def sS (x : Ins) : Int := if shP x.op then 8 else frS x
def widP (op : Int) : Prop := 29 ≤ op ∧ op ≤ 32
instance (op : Int) : Decidable (widP op) := by unfold widP; infer_instance
def rexA (x : Opd) (z : Int) : Bool := if x.k = 1 then decide (upP x.r) || decide (z = 1 ∧ 4 ≤ x.r ∧ x.r ≤ 7) else if x.k = 2 then decide (upP x.b) || decide (8 ≤ x.i) else false
def rexB (x : Opd) : Bool := decide (x.k = 1 ∧ 16 ≤ x.r)
/-- a load of a struct that a guard lets through -/
theorem load_rowT {P : Program} {ops : Array Oper} {rest : List Oper} {o : Oper} {a : Act} {w : World} {Q : Exit → Act → World → Prop} (hw : Region.wanted o (yielded ops a.tmps) = true) (ty : TypeId) (x : Operand) (ho : o.op = .load ty x)
    (g : Nat) (hx : a.eval x = .pointer (some ⟨g, 0, none⟩)) (t : TypeId) (cs : Array Value) (fr : Nat × Nat) (d : TypeDesc) (hg : w.heap[g]? = some (.cells cs t fr))
    (hu : P.underlying ty = some d) (hd : (match d with | .struct _ | .array _ _ => true | _ => false) = true) (hi : (P.info? ty).map (·.size) = some cs.size)
    (h : wpList P ops Q rest (a.put o.dst (.agg cs)) w) : wpList P ops Q (o :: rest) a w :=
  wpList_step fun K hK => by rw [if_pos hw]; exact wp_load_row ty x ho g hx t cs fr d hg hu hd hi (hK _ _ h)
set_option maxHeartbeats 1000000 in
theorem fromS5 (x : Ins) (w : World) : Calls Tryz.prog 45 #[.agg (insV x)] w fun e w' => e = .returned (.int .i64 (frS x)) ∧ Below w.heap.size w w' := by
  obtain ⟨op, sz, cd, fr, d, s, ln⟩ := x
  unfold insV insA frS
  simp only
  by_cases h : 0 < fr
  · rw [if_pos h]
    go_enter Tryz.func45, Tryz.ntmps45
    go_wp2
    go_ret
    exact ⟨rfl, belA _ _⟩
  · rw [if_neg h]
    go_enter Tryz.func45, Tryz.ntmps45
    go_wp2
    go_ret
    exact ⟨rfl, belA _ _⟩
set_option maxHeartbeats 1000000 in
theorem wideS5 (op : Int) (w : World) : Calls Tryz.prog 27 #[.int .i64 op] w fun e w' => e = .returned (.bool (decide (widP op))) ∧ w = w' := by
  by_cases h : widP op
  · rw [decide_eq_true h]
    have q : op = 29 ∨ op = 30 ∨ op = 31 ∨ op = 32 := by unfold widP at h; omega
    clear h
    rcases q with rfl | rfl | rfl | rfl
    all_goals
      go_enter Tryz.func27, Tryz.ntmps27
      go_wp2
      go_ret
      exact ⟨rfl, rfl⟩
  · rw [decide_eq_false h]
    unfold widP at h
    have n1 : (op == 29) = false := beq_eq_false_iff_ne.mpr (by omega); have n2 : (op == 30) = false := beq_eq_false_iff_ne.mpr (by omega); have n3 : (op == 31) = false := beq_eq_false_iff_ne.mpr (by omega); have n4 : (op == 32) = false := beq_eq_false_iff_ne.mpr (by omega)
    clear h
    go_enter Tryz.func27, Tryz.ntmps27
    go_wp2
    go_ret
    exact ⟨rfl, rfl⟩
theorem inS5 (v lo hi : Int) (w : World) : Calls Tryz.prog 22 #[.int .i64 v, .int .i64 lo, .int .i64 hi] w fun e w' => e = .returned (.bool (decide (lo ≤ v ∧ v ≤ hi))) ∧ w' = w := by
  by_cases h : lo ≤ v ∧ v ≤ hi
  · rw [decide_eq_true h]; exact inYes v lo hi w h.1 h.2
  · rw [decide_eq_false h]; exact inNo v lo hi w (by omega)
set_option maxRecDepth 100000 in
set_option maxHeartbeats 4000000 in
theorem sizesS5 (x : Ins) (w : World) : Calls Tryz.prog 24 #[.agg (insV x)] w fun e w' => e = .returned (.tuple #[.int .i64 x.sz, .int .i64 (sS x)]) ∧ Below w.heap.size w w' := by
  have CF := Lib.hid (fromS5 x)
  have CI := Lib.hid (inS5 x.op 20 24)
  have HA : Hid (sS x = if decide (20 ≤ x.op ∧ x.op ≤ 24) = true then 8 else frS x) := Lib.hid (by unfold sS shP; simp only [decide_eq_true_iff])
  obtain ⟨b, hb⟩ : ∃ v, v = decide (20 ≤ x.op ∧ x.op ≤ 24) := ⟨_, rfl⟩
  obtain ⟨z, hz⟩ : ∃ v, v = frS x := ⟨_, rfl⟩
  rw [← hb] at CI HA; rw [← hz] at CF HA
  clear hb hz
  obtain ⟨op, sz, cd, fr, d, s, ln⟩ := x
  have R0 := Lib.hid (heap_alloc_new w (.cells #[.int .i64 op, .int .i64 sz, .int .i64 cd, .int .i64 fr, .int .i64 d.k, .int .i64 d.r, .int .i64 d.b, .int .i64 d.i, .int .i64 d.s, .int .i64 d.d, .int .i64 d.m, .int .i64 s.k, .int .i64 s.r, .int .i64 s.b, .int .i64 s.i, .int .i64 s.s, .int .i64 s.d, .int .i64 s.m, .int .i64 ln] 33))
  have B0 := Lib.hid (belA w (.cells #[.int .i64 op, .int .i64 sz, .int .i64 cd, .int .i64 fr, .int .i64 d.k, .int .i64 d.r, .int .i64 d.b, .int .i64 d.i, .int .i64 d.s, .int .i64 d.d, .int .i64 d.m, .int .i64 s.k, .int .i64 s.r, .int .i64 s.b, .int .i64 s.i, .int .i64 s.s, .int .i64 s.d, .int .i64 s.m, .int .i64 ln] 33))
  simp only at CF CI HA
  unfold insV insA
  simp only
  cases b
  case true =>
    rw [show sS ⟨op, sz, cd, fr, d, s, ln⟩ = 8 from HA.out]
    clear HA
    go_enter Tryz.func24, Tryz.ntmps24
    go_wp2_with (first | refine wpList_load_row rfl 33 (.tmp 1) rfl w.heap.size rfl 33 #[.int .i64 op, .int .i64 sz, .int .i64 cd, .int .i64 fr, .int .i64 d.k, .int .i64 d.r, .int .i64 d.b, .int .i64 d.i, .int .i64 d.s, .int .i64 d.d, .int .i64 d.m, .int .i64 s.k, .int .i64 s.r, .int .i64 s.b, .int .i64 s.i, .int .i64 s.s, .int .i64 s.d, .int .i64 s.m, .int .i64 ln] (0, 0) _ R0.out Tryz.underlying33 rfl (by kernel_rfl) ?_ | refine load_rowT (by rfl) 33 (.tmp 1) rfl w.heap.size rfl 33 #[.int .i64 op, .int .i64 sz, .int .i64 cd, .int .i64 fr, .int .i64 d.k, .int .i64 d.r, .int .i64 d.b, .int .i64 d.i, .int .i64 d.s, .int .i64 d.d, .int .i64 d.m, .int .i64 s.k, .int .i64 s.r, .int .i64 s.b, .int .i64 s.i, .int .i64 s.s, .int .i64 s.d, .int .i64 s.m, .int .i64 ln] (0, 0) _ R0.out Tryz.underlying33 rfl (by kernel_rfl) ?_)
    refine (CF.out _).mono ?_
    rintro e w1 ⟨rfl, hb⟩
    have R1 := Lib.hid ((hb.block _ (lt_of_blk R0.out)).trans R0.out)
    have B1 := Lib.hid (B0.out.trans (hb.mono B0.out.size))
    clear hb
    have c0 := cell_of_row _ _ 0 _ _ _ R1.out
    simp only [List.getElem?_toArray, List.getElem?_cons_zero, List.getElem?_cons_succ] at c0
    go_wp2_with fail
    refine (CI.out _).mono ?_
    rintro e w2 ⟨rfl, rfl⟩
    have c1 := cell_of_row _ _ 1 _ _ _ R1.out
    simp only [List.getElem?_toArray, List.getElem?_cons_zero, List.getElem?_cons_succ] at c1
    go_wp2
    go_ret2
    exact ⟨rfl, B1.out⟩
  case false =>
    rw [show sS ⟨op, sz, cd, fr, d, s, ln⟩ = z from HA.out]
    clear HA
    go_enter Tryz.func24, Tryz.ntmps24
    go_wp2_with (first | refine wpList_load_row rfl 33 (.tmp 1) rfl w.heap.size rfl 33 #[.int .i64 op, .int .i64 sz, .int .i64 cd, .int .i64 fr, .int .i64 d.k, .int .i64 d.r, .int .i64 d.b, .int .i64 d.i, .int .i64 d.s, .int .i64 d.d, .int .i64 d.m, .int .i64 s.k, .int .i64 s.r, .int .i64 s.b, .int .i64 s.i, .int .i64 s.s, .int .i64 s.d, .int .i64 s.m, .int .i64 ln] (0, 0) _ R0.out Tryz.underlying33 rfl (by kernel_rfl) ?_ | refine load_rowT (by rfl) 33 (.tmp 1) rfl w.heap.size rfl 33 #[.int .i64 op, .int .i64 sz, .int .i64 cd, .int .i64 fr, .int .i64 d.k, .int .i64 d.r, .int .i64 d.b, .int .i64 d.i, .int .i64 d.s, .int .i64 d.d, .int .i64 d.m, .int .i64 s.k, .int .i64 s.r, .int .i64 s.b, .int .i64 s.i, .int .i64 s.s, .int .i64 s.d, .int .i64 s.m, .int .i64 ln] (0, 0) _ R0.out Tryz.underlying33 rfl (by kernel_rfl) ?_)
    refine (CF.out _).mono ?_
    rintro e w1 ⟨rfl, hb⟩
    have R1 := Lib.hid ((hb.block _ (lt_of_blk R0.out)).trans R0.out)
    have B1 := Lib.hid (B0.out.trans (hb.mono B0.out.size))
    clear hb
    have c0 := cell_of_row _ _ 0 _ _ _ R1.out
    simp only [List.getElem?_toArray, List.getElem?_cons_zero, List.getElem?_cons_succ] at c0
    go_wp2_with fail
    refine (CI.out _).mono ?_
    rintro e w2 ⟨rfl, rfl⟩
    have c1 := cell_of_row _ _ 1 _ _ _ R1.out
    simp only [List.getElem?_toArray, List.getElem?_cons_zero, List.getElem?_cons_succ] at c1
    go_wp2
    go_ret2
    exact ⟨rfl, B1.out⟩
set_option maxRecDepth 100000 in
set_option maxHeartbeats 2000000 in
theorem rexS5 (x : Opd) (z : Int) (w : World) : Calls Tryz.prog 26 #[V7 x, .int .i64 z] w fun e w' => e = .returned (.tuple #[.bool (rexA x z), .bool (rexB x)]) ∧ Below w.heap.size w w' := by
  obtain ⟨k, r, b, i, s, d, m⟩ := x
  have CR := Lib.hid (inS5 r 8 15); have CL := Lib.hid (inS5 r 4 7); have CB := Lib.hid (inS5 b 8 15)
  have B0 := Lib.hid (belA w (.cells #[.int .i64 k, .int .i64 r, .int .i64 b, .int .i64 i, .int .i64 s, .int .i64 d, .int .i64 m] 31))
  unfold V7 rexA rexB upP
  simp only
  by_cases h1 : k = 1
  · subst h1
    rw [if_pos rfl]
    simp only [true_and]
    have e : decide (z = 1 ∧ 4 ≤ r ∧ r ≤ 7) = (decide (z = 1) && decide (4 ≤ r ∧ r ≤ 7)) := by simp only [Bool.decide_and]
    rw [e]
    clear e CB
    obtain ⟨b1, q1⟩ : ∃ v, v = decide (8 ≤ r ∧ r ≤ 15) := ⟨_, rfl⟩
    obtain ⟨b2, q2⟩ : ∃ v, v = decide (4 ≤ r ∧ r ≤ 7) := ⟨_, rfl⟩
    have CG := Lib.hid (fun lo hi v (h : Hid (v = decide (lo ≤ r ∧ r ≤ hi))) W => h.out ▸ inS5 r lo hi W)
    have Q1 := Lib.hid q1; have Q2 := Lib.hid q2
    rw [← q1] at CR ⊢; rw [← q2] at CL ⊢
    clear q1 q2
    by_cases hz : z = 1
    · subst hz
      cases b1
      case true =>
        go_enter Tryz.func26, Tryz.ntmps26
        go_wp2
        go_quiet (first | (go_at_call 22; refine Calls.quiet_of_same (CR.out _)))
        go_wp2
        go_ret2
        exact ⟨rfl, belD B0.out _⟩
      case false =>
        go_enter Tryz.func26, Tryz.ntmps26
        go_wp2
        go_quiet (first | (go_at_call 22; refine Calls.quiet_of_same (CG.out _ _ _ (by with_reducible assumption) _)))
        go_wp2
        go_ret2
        exact ⟨rfl, belD B0.out _⟩
    · have n : (z == 1) = false := beq_eq_false_iff_ne.mpr hz
      rw [show decide (z = 1) = false from decide_eq_false hz]
      clear hz
      cases b1
      all_goals
        go_enter Tryz.func26, Tryz.ntmps26
        go_wp2
        go_quiet (first | (go_at_call 22; refine Calls.quiet_of_same (CR.out _)))
        go_wp2
        go_ret2
        exact ⟨rfl, belD B0.out _⟩
  · rw [if_neg h1, show decide (k = 1 ∧ 16 ≤ r) = false from decide_eq_false fun e => h1 e.1]
    have n1 : (k == 1) = false := beq_eq_false_iff_ne.mpr h1
    by_cases h2 : k = 2
    · subst h2
      rw [if_pos rfl]
      clear CR CL h1 n1
      obtain ⟨b1, q1⟩ : ∃ v, v = decide (8 ≤ b ∧ b ≤ 15) := ⟨_, rfl⟩
      rw [← q1] at CB ⊢
      clear q1
      cases b1
      all_goals
        go_enter Tryz.func26, Tryz.ntmps26
        go_wp2_with fail
        refine (CB.out _).mono ?_
        rintro e w1 ⟨rfl, rfl⟩
        go_wp2
        go_ret2
        exact ⟨rfl, B0.out⟩
    · rw [if_neg h2]
      have n2 : (k == 2) = false := beq_eq_false_iff_ne.mpr h2
      clear CR CL CB h1 h2
      go_enter Tryz.func26, Tryz.ntmps26
      go_wp2
      go_ret2
      exact ⟨rfl, B0.out⟩
end Go.Proofs.YtjnjlgaemmdkhaaGreatDoor
