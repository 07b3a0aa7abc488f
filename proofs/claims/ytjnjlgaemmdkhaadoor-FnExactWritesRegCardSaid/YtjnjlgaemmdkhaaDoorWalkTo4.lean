/-
  MaskOf, BaseAddOf, GoalOf, MemoryOf and ThroughOf of impl and of spec answer alike; conditions: those in each head.
-/
import Derived.Test.YtjnjlgaemmdkhaaDoorWalkTo2
namespace Go.Proofs.YtjnjlgaemmdkhaaDoor
open Go.RowKit Go.Sort
set_option linter.unusedVariables false
set_option linter.unusedSimpArgs false
theorem mask_lit (b h : Bool) (x y : Int) : ∃ r m c : Int, ∃ h' : Bool, maskV b h x y = #[.int .i64 r, .int .i64 m, .bool h', .int .i64 c] := by
  cases b <;> cases h <;> exact ⟨_, _, _, _, rfl⟩
theorem base_lit (b h : Bool) (x : Int) : ∃ r c : Int, ∃ h' : Bool, baseV b h x = #[.int .i64 r, .bool h', .int .i64 c] := by
  cases b <;> cases h <;> exact ⟨_, _, _, rfl⟩
theorem goal_lit (b o h : Bool) (x : Int) : ∃ r c : Int, ∃ h' : Bool, goalV b o h x = #[.int .i64 r, .bool h', .int .i64 c] := by
  cases b <;> cases o <;> cases h <;> exact ⟨_, _, _, rfl⟩
theorem mem_lit (b t0 t1 t2 : Bool) (d s : Opd) : ∃ o : Opd, ∃ c : Int, ∃ h' : Bool, memV b t0 t1 t2 d s = #[.agg #[.int .i64 o.k, .int .i64 o.r, .int .i64 o.b, .int .i64 o.i, .int .i64 o.s, .int .i64 o.d, .int .i64 o.m], .bool h', .int .i64 c] := by
  cases b <;> cases t0 <;> cases t1 <;> cases t2 <;> first | exact ⟨noOpd, _, _, rfl⟩ | exact ⟨d, _, _, rfl⟩ | exact ⟨s, _, _, rfl⟩
theorem thr_lit (b t0 t1 : Bool) (s : Opd) : ∃ o : Opd, ∃ c : Int, ∃ h' : Bool, thrV b t0 t1 s = #[.agg #[.int .i64 o.k, .int .i64 o.r, .int .i64 o.b, .int .i64 o.i, .int .i64 o.s, .int .i64 o.d, .int .i64 o.m], .bool h', .int .i64 c] := by
  cases b <;> cases t0 <;> cases t1 <;> first | exact ⟨noOpd, _, _, rfl⟩ | exact ⟨s, _, _, rfl⟩
theorem ok_parts {x : Ins} (h : okS x = true) : (1 ≤ x.op ∧ x.op ≤ 44) ∧ shapeB x = true ∧ kindB x.d x.sz = true ∧ kindB x.s (sS x) = true := by
  unfold okS at h
  simp only [Bool.and_eq_true, decide_eq_true_eq] at h
  exact ⟨h.1, h.2.2.1, h.2.2.2.2.2.1, h.2.2.2.2.2.2.1⟩
theorem src15 {s : Opd} {z : Int} (h : kindB s z = true) : (!decide (s = regOpd 15)) = ((s.k != 1) || (s.r != 15)) := by
  rcases kind_k h with ⟨h1, _⟩ | ⟨h1, h2, _⟩ | ⟨h1, _⟩ | ⟨h1, _⟩
  · rw [decide_eq_false (by rintro rfl; exact absurd h1 (by decide)), bne_iff_ne.mpr (by rw [h1]; decide)]; rfl
  · by_cases h3 : s.r = 15
    · rw [h1, h3, decide_eq_true (by rw [h2, h3])]; rfl
    · rw [decide_eq_false (by rintro rfl; exact h3 rfl), bne_iff_ne.mpr h3, Bool.or_true]; rfl
  · rw [decide_eq_false (by rintro rfl; exact absurd h1 (by decide)), bne_iff_ne.mpr (by rw [h1]; decide)]; rfl
  · rw [decide_eq_false (by rintro rfl; exact absurd h1 (by decide)), bne_iff_ne.mpr (by rw [h1]; decide)]; rfl
set_option maxHeartbeats 1000000 in
theorem alikeMaskOf (x : Ins) (w : World) (aR : Addr) (he : Env w aR) : ∃ r m c : Int, ∃ h : Bool, (∀ W, Calls Tryd.prog 15 #[.agg (insV x)] W fun e w' => e = .returned (.tuple #[.int .i64 r, .int .i64 m, .bool h, .int .i64 c]) ∧ Below W.heap.size W w') ∧ (∀ W, Below w.heap.size w W → Calls Tryd.prog 16 #[.agg (insV x)] W fun e w' => e = .returned (.tuple #[.int .i64 r, .int .i64 m, .bool h, .int .i64 c]) ∧ Below W.heap.size W w') := by
  obtain ⟨op, sz, cd, fr, d, s, ln⟩ := x
  obtain ⟨r, m, c, h, e⟩ := mask_lit (okS ⟨op, sz, cd, fr, d, s, ln⟩) ((op != 5) || ((sz != 4) || ((d.k != 1) || (s.k != 3)))) d.r s.m
  refine ⟨r, m, c, h, fun W => ?_, fun W hW => ?_⟩
  · rw [← e]; exact maskS op sz cd fr d s ln W (okS ⟨op, sz, cd, fr, d, s, ln⟩) (op != 5) (sz != 4) (d.k != 1) (s.k != 3) (Lib.hid (fun W' => okC5 ⟨op, sz, cd, fr, d, s, ln⟩ W')) rfl rfl rfl rfl
  · rw [← e]; exact maskI op sz cd fr d s ln W (okS ⟨op, sz, cd, fr, d, s, ln⟩) (op != 5) (sz != 4) (d.k != 1) (s.k != 3) (Lib.hid (fun W' hW' => by have := instrI ⟨op, sz, cd, fr, d, s, ln⟩ W' aR (he.below (hW.trans (hW'.mono hW.size))); rwa [ins_eq] at this)) rfl rfl rfl rfl

set_option maxHeartbeats 1000000 in
theorem alikeBaseAddOf (x : Ins) (w : World) (aR : Addr) (he : Env w aR) : ∃ r c : Int, ∃ h : Bool, (∀ W, Calls Tryd.prog 17 #[.agg (insV x)] W fun e w' => e = .returned (.tuple #[.int .i64 r, .bool h, .int .i64 c]) ∧ Below W.heap.size W w') ∧ (∀ W, Below w.heap.size w W → Calls Tryd.prog 18 #[.agg (insV x)] W fun e w' => e = .returned (.tuple #[.int .i64 r, .bool h, .int .i64 c]) ∧ Below W.heap.size W w') := by
  obtain ⟨op, sz, cd, fr, d, s, ln⟩ := x
  obtain ⟨r, c, h, e⟩ := base_lit (okS ⟨op, sz, cd, fr, d, s, ln⟩) ((op != 1) || ((sz != 8) || ((d.k != 1) || ((s.k != 1) || (s.r != 15))))) d.r
  refine ⟨r, c, h, fun W => ?_, fun W hW => ?_⟩
  · rw [← e]; exact baseS op sz cd fr d s ln W (okS ⟨op, sz, cd, fr, d, s, ln⟩) (op != 1) (sz != 8) (d.k != 1) (s.k != 1) (s.r != 15) (Lib.hid (fun W' => okC5 ⟨op, sz, cd, fr, d, s, ln⟩ W')) rfl rfl rfl rfl rfl
  · rw [← e]
    have K := baseI op sz cd fr d s ln W (okS ⟨op, sz, cd, fr, d, s, ln⟩) (op != 1) (sz != 8) (d.k != 1) (!decide (s = regOpd 15)) (Lib.hid (fun W' hW' => by have := instrI ⟨op, sz, cd, fr, d, s, ln⟩ W' aR (he.below (hW.trans (hW'.mono hW.size))); rwa [ins_eq] at this)) rfl rfl rfl rfl
    by_cases hb : (okS ⟨op, sz, cd, fr, d, s, ln⟩) = true
    · rw [src15 (ok_parts hb).2.2.2] at K; exact K
    · rw [Bool.eq_false_iff.mpr hb] at K ⊢; exact K

set_option maxHeartbeats 1000000 in
theorem alikeGoalOf (x : Ins) (at' : Int) (w : World) (aR : Addr) (he : Env w aR) : ∃ r c : Int, ∃ h : Bool, (∀ W, Calls Tryd.prog 19 #[.agg (insV x), .int .i64 at'] W fun e w' => e = .returned (.tuple #[.int .i64 r, .bool h, .int .i64 c]) ∧ Below W.heap.size W w') ∧ (∀ W, Below w.heap.size w W → Calls Tryd.prog 20 #[.agg (insV x), .int .i64 at'] W fun e w' => e = .returned (.tuple #[.int .i64 r, .bool h, .int .i64 c]) ∧ Below W.heap.size W w') := by
  obtain ⟨op, sz, cd, fr, d, s, ln⟩ := x
  obtain ⟨r, c, h, e⟩ := goal_lit (okS ⟨op, sz, cd, fr, d, s, ln⟩) (decide (at' < 0) || decide (65535 < at')) ((Cl.clsOf op != 2) || (s.k != 3)) (goalN at' ln s.m)
  refine ⟨r, c, h, fun W => ?_, fun W hW => ?_⟩
  · rw [← e]; exact goalS op sz cd fr d s ln W at' (okS ⟨op, sz, cd, fr, d, s, ln⟩) (decide (at' < 0) || decide (65535 < at')) (Cl.clsOf op != 2) (s.k != 3) (Lib.hid (fun W' => okC5 ⟨op, sz, cd, fr, d, s, ln⟩ W')) (Lib.hid (fun W' => by have := flowS op W'; rwa [show (Cl.clsOf op == 2) = !(Cl.clsOf op != 2) by simp [bne]] at this)) (Lib.hid (fun W' => by
      by_cases h1 : at' < 0
      · rw [decide_eq_true h1]; exact Cl.inNo at' 0 65535 W' (.inl h1)
      · by_cases h2 : 65535 < at'
        · rw [decide_eq_true h2, Bool.or_true]; exact Cl.inNo at' 0 65535 W' (.inr h2)
        · rw [decide_eq_false h1, decide_eq_false h2]; exact Cl.inYes at' 0 65535 W' (by omega) (by omega))) rfl
  · rw [← e]; exact goalI op sz cd fr d s ln W at' (Cl.clsOf op) (okS ⟨op, sz, cd, fr, d, s, ln⟩) (decide (at' < 0)) (decide (65535 < at')) (Cl.clsOf op != 2) (s.k != 3) (Lib.hid (fun W' hW' => by have := instrI ⟨op, sz, cd, fr, d, s, ln⟩ W' aR (he.below (hW.trans (hW'.mono hW.size))); rwa [ins_eq] at this)) (Lib.hid (fun hb W' => by have hp := (ok_parts hb).1; exact Cl.classI op W' hp.1 hp.2)) rfl rfl rfl rfl

set_option maxHeartbeats 1000000 in
theorem alikeMemoryOf (x : Ins) (w : World) (aR : Addr) (he : Env w aR) : ∃ o : Opd, ∃ c : Int, ∃ h : Bool, (∀ W, Calls Tryd.prog 12 #[.agg (insV x)] W fun e w' => e = .returned (.tuple #[.agg #[.int .i64 o.k, .int .i64 o.r, .int .i64 o.b, .int .i64 o.i, .int .i64 o.s, .int .i64 o.d, .int .i64 o.m], .bool h, .int .i64 c]) ∧ Below W.heap.size W w') ∧ (∀ W, Below w.heap.size w W → Calls Tryd.prog 13 #[.agg (insV x)] W fun e w' => e = .returned (.tuple #[.agg #[.int .i64 o.k, .int .i64 o.r, .int .i64 o.b, .int .i64 o.i, .int .i64 o.s, .int .i64 o.d, .int .i64 o.m], .bool h, .int .i64 c]) ∧ Below W.heap.size W w') := by
  obtain ⟨op, sz, cd, fr, d, s, ln⟩ := x
  obtain ⟨o, c, h, e⟩ := mem_lit (okS ⟨op, sz, cd, fr, d, s, ln⟩) (op == 25) (d.k == 2) (s.k == 2) d s
  refine ⟨o, c, h, fun W => ?_, fun W hW => ?_⟩
  · rw [← e]; exact memS op sz cd fr d s ln W (okS ⟨op, sz, cd, fr, d, s, ln⟩) (op == 25) (d.k == 2) (s.k == 2) (Lib.hid (fun W' => okC5 ⟨op, sz, cd, fr, d, s, ln⟩ W')) rfl rfl rfl
  · rw [← e]; exact memI op sz cd fr d s ln W (okS ⟨op, sz, cd, fr, d, s, ln⟩) (op == 25) (d.k == 2) (s.k == 2) (Lib.hid (fun W' hW' => by have := instrI ⟨op, sz, cd, fr, d, s, ln⟩ W' aR (he.below (hW.trans (hW'.mono hW.size))); rwa [ins_eq] at this)) rfl rfl rfl

set_option maxHeartbeats 1000000 in
theorem alikeThroughOf (x : Ins) (w : World) (aR : Addr) (he : Env w aR) : ∃ o : Opd, ∃ c : Int, ∃ h : Bool, (∀ W, Calls Tryd.prog 21 #[.agg (insV x)] W fun e w' => e = .returned (.tuple #[.agg #[.int .i64 o.k, .int .i64 o.r, .int .i64 o.b, .int .i64 o.i, .int .i64 o.s, .int .i64 o.d, .int .i64 o.m], .bool h, .int .i64 c]) ∧ Below W.heap.size W w') ∧ (∀ W, Below w.heap.size w W → Calls Tryd.prog 22 #[.agg (insV x)] W fun e w' => e = .returned (.tuple #[.agg #[.int .i64 o.k, .int .i64 o.r, .int .i64 o.b, .int .i64 o.i, .int .i64 o.s, .int .i64 o.d, .int .i64 o.m], .bool h, .int .i64 c]) ∧ Below W.heap.size W w') := by
  obtain ⟨op, sz, cd, fr, d, s, ln⟩ := x
  obtain ⟨o, c, h, e⟩ := thr_lit (okS ⟨op, sz, cd, fr, d, s, ln⟩) (Cl.clsOf op != 2) (s.k == 3) s
  refine ⟨o, c, h, fun W => ?_, fun W hW => ?_⟩
  · rw [← e]; exact thrS op sz cd fr d s ln W (okS ⟨op, sz, cd, fr, d, s, ln⟩) (Cl.clsOf op != 2) (s.k == 3) (Lib.hid (fun W' => okC5 ⟨op, sz, cd, fr, d, s, ln⟩ W')) (Lib.hid (fun W' => by have := flowS op W'; rwa [show (Cl.clsOf op == 2) = !(Cl.clsOf op != 2) by simp [bne]] at this)) rfl
  · rw [← e]; exact thrI op sz cd fr d s ln W (Cl.clsOf op) (okS ⟨op, sz, cd, fr, d, s, ln⟩) (Cl.clsOf op != 2) (s.k == 3) (Lib.hid (fun W' hW' => by have := instrI ⟨op, sz, cd, fr, d, s, ln⟩ W' aR (he.below (hW.trans (hW'.mono hW.size))); rwa [ins_eq] at this)) (Lib.hid (fun hb W' => by have hp := (ok_parts hb).1; exact Cl.classI op W' hp.1 hp.2)) rfl rfl

end Go.Proofs.YtjnjlgaemmdkhaaDoor
