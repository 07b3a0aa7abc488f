/-
  impl.BoxOK and spec.BoxOK tell whether a box is right; conditions: those in each head.
-/
import Derived.Test.YtbkgmpkednkbcaaGreatDoorWalkBox
import Derived.Test.YtbkgmpkednkbcaaGreatDoorWalkCpuO
import Derived.Test.YtbkgmpkednkbcaaGreatDoorWalkSign
import Derived.Test.YtbkgmpkednkbcaaGreatDoorWalkSpan
import Derived.BigQuiet
namespace Go.Proofs.YtbkgmpkednkbcaaGreatDoor
open Go.RowKit Go.Sort
set_option linter.unusedVariables false
set_option linter.unusedSimpArgs false
/-- State is one, and Code, Fault and Where are what such a box may have -/
def StOk (b : Bo) : Prop := (b.st = 1 ∧ b.co = 0 ∧ b.ft = 0 ∧ b.wh = 0) ∨ (b.st = 2 ∧ -2147483648 ≤ b.co ∧ b.co ≤ 2147483647 ∧ b.ft = 0 ∧ b.wh = 0) ∨ (b.st = 3 ∧ b.co = 0 ∧ 1 ≤ b.ft ∧ b.ft ≤ 35)
/-- a box that is right -/
def BxOk (b : Bo) (l : List Pg) : Prop := FlOK b.c.fl ∧ MemOk l ∧ (512 ≤ b.hp ∧ b.hp ≤ 3584) ∧ (b.hp ≤ b.bk ∧ b.bk ≤ 3584) ∧ b.inp.size ≤ 1024 ∧ (0 ≤ b.at_ ∧ b.at_ ≤ b.inp.size) ∧ b.out_.size ≤ 512 ∧ (0 ≤ b.ck ∧ b.ck ≤ 1000000) ∧ (0 ≤ b.sd ∧ b.sd ≤ 2147483647) ∧ StOk b
theorem cutB32 (v : Int) (w : World) :
    Calls Tryz.prog 113 #[.int .i64 v] w fun e w' => e = .returned (.int .i64 (wrap64 (wrap32 v))) ∧ w' = w := by
  go_enter Tryz.func113, Tryz.ntmps113
  go_wp2
  go_ret
  exact ⟨rfl, rfl⟩
theorem fitsB32 (v : Int) (w : World) :
    Calls Tryz.prog 93 #[.int .i64 v] w fun e w' => e = .returned (.bool (v == wrap64 (wrap32 v))) ∧ w' = w := by
  have C := Lib.hid (cutB32 v)
  go_enter Tryz.func93, Tryz.ntmps93
  go_wp2_with fail
  refine (C.out _).mono ?_
  rintro e w' ⟨rfl, rfl⟩
  go_wp2
  go_ret
  exact ⟨rfl, rfl⟩
theorem cutB32_iff (v : Int) : v = wrap64 (wrap32 v) ↔ (-2147483648 ≤ v ∧ v ≤ 2147483647) := by
  unfold wrap64 wrap32; omega
theorem heapI (h : Int) (w : World) : Calls Tryz.prog 67 #[.int .i64 h] w fun e w' => e = .returned (.bool (decide (512 ≤ h ∧ h ≤ 3584))) ∧ w' = w := by
  by_cases h1 : 512 ≤ h
  · by_cases h2 : h ≤ 3584
    · rw [decide_eq_true ⟨h1, h2⟩]
      go_enter Tryz.func67, Tryz.ntmps67
      go_wp2
      go_ret
      exact ⟨rfl, rfl⟩
    · rw [decide_eq_false (fun h => h2 h.2)]
      go_enter Tryz.func67, Tryz.ntmps67
      go_wp2
      go_ret
      exact ⟨rfl, rfl⟩
  · rw [decide_eq_false (fun h => h1 h.1)]
    go_enter Tryz.func67, Tryz.ntmps67
    go_wp2
    go_ret
    exact ⟨rfl, rfl⟩
theorem seedI (h : Int) (w : World) : Calls Tryz.prog 70 #[.int .i64 h] w fun e w' => e = .returned (.bool (decide (0 ≤ h ∧ h ≤ 2147483647))) ∧ w' = w := by
  by_cases h1 : 0 ≤ h
  · by_cases h2 : h ≤ 2147483647
    · rw [decide_eq_true ⟨h1, h2⟩]
      go_enter Tryz.func70, Tryz.ntmps70
      go_wp2
      go_ret
      exact ⟨rfl, rfl⟩
    · rw [decide_eq_false (fun h => h2 h.2)]
      go_enter Tryz.func70, Tryz.ntmps70
      go_wp2
      go_ret
      exact ⟨rfl, rfl⟩
  · rw [decide_eq_false (fun h => h1 h.1)]
    go_enter Tryz.func70, Tryz.ntmps70
    go_wp2
    go_ret
    exact ⟨rfl, rfl⟩
theorem brkI (g : Nat) (hp bk : Int) (w : World) (c : w.cell? ⟨g, 19, none⟩ = some (.int .i64 hp)) : Calls Tryz.prog 68 #[.pointer (some ⟨g, 0, none⟩), .int .i64 bk] w fun e w' => e = .returned (.bool (decide (hp ≤ bk ∧ bk ≤ 3584))) ∧ w' = w := by
  by_cases h1 : hp ≤ bk
  · by_cases h2 : bk ≤ 3584
    · rw [decide_eq_true ⟨h1, h2⟩]
      go_enter Tryz.func68, Tryz.ntmps68
      go_wp2
      go_ret
      exact ⟨rfl, rfl⟩
    · rw [decide_eq_false (fun h => h2 h.2)]
      go_enter Tryz.func68, Tryz.ntmps68
      go_wp2
      go_ret
      exact ⟨rfl, rfl⟩
  · rw [decide_eq_false (fun h => h1 h.1)]
    go_enter Tryz.func68, Tryz.ntmps68
    go_wp2
    go_ret
    exact ⟨rfl, rfl⟩
def TxOk (b : Bo) : Prop := b.inp.size ≤ 1024 ∧ (0 ≤ b.at_ ∧ b.at_ ≤ b.inp.size) ∧ b.out_.size ≤ 512
set_option maxRecDepth 100000 in
set_option maxHeartbeats 4000000 in
theorem textsI (g : Nat) (b : Bo) (w : World) (a21 : w.cell? ⟨g, 21, none⟩ = some (.string b.inp)) (a22 : w.cell? ⟨g, 22, none⟩ = some (.int .i64 b.at_)) (a23 : w.cell? ⟨g, 23, none⟩ = some (.string b.out_)) :
    Calls Tryz.prog 69 #[.pointer (some ⟨g, 0, none⟩)] w fun e w' => SpB (TxOk b) e ∧ ∃ n, w' = w.drewN n := by
  by_cases h0 : (b.inp.size : Int) ≤ 1024
  · have q0 : decide ((b.inp.size : Int) ≤ 1024) = true := decide_eq_true h0
    by_cases h1 : 0 ≤ b.at_
    · have q1 : decide (0 ≤ b.at_) = true := decide_eq_true h1
      by_cases h2 : b.at_ ≤ (b.inp.size : Int)
      · have q2 : decide (b.at_ ≤ (b.inp.size : Int)) = true := decide_eq_true h2
        by_cases h3 : (b.out_.size : Int) ≤ 512
        · have q3 : decide ((b.out_.size : Int) ≤ 512) = true := decide_eq_true h3
          have HT : Hid (TxOk b) := Lib.hid ⟨by omega, ⟨by omega, by omega⟩, by omega⟩
          clear h0 h1 h2 h3
          go_enter Tryz.func69, Tryz.ntmps69
          go_wp2_with fail
          refine wp_region_quiet_lit (by kernel_rfl) (by kernel_rfl) ?_
          repeat (first | go_big_quiet_skip | quiet_step (fail))
          refine wpQuiet_nil ?_
          intro _ hw'
          obtain ⟨nq, hw''⟩ := hw'
          subst hw''
          go_wp2
          go_ret
          exact ⟨⟨_, rfl, Lib.hid ⟨fun _ => HT.out, fun _ => rfl⟩⟩, nq, rfl⟩
        · have q3 : decide ((b.out_.size : Int) ≤ 512) = false := decide_eq_false h3
          have HT : Hid (¬ TxOk b) := Lib.hid (fun h => by have := h.2.2; omega)
          clear h0 h1 h2 h3
          go_enter Tryz.func69, Tryz.ntmps69
          go_wp2_with fail
          refine wp_region_quiet_lit (by kernel_rfl) (by kernel_rfl) ?_
          repeat (first | go_big_quiet_skip | quiet_step (fail))
          refine wpQuiet_nil ?_
          intro _ hw'
          obtain ⟨nq, hw''⟩ := hw'
          subst hw''
          go_wp2
          go_ret
          exact ⟨⟨_, rfl, Lib.hid ⟨fun h => (by simp at h), fun h => absurd h HT.out⟩⟩, nq, rfl⟩
      · have q2 : decide (b.at_ ≤ (b.inp.size : Int)) = false := decide_eq_false h2
        have HT : Hid (¬ TxOk b) := Lib.hid (fun h => by have := h.2.1.2; omega)
        clear h0 h1 h2
        go_enter Tryz.func69, Tryz.ntmps69
        go_wp2_with fail
        refine wp_region_quiet_lit (by kernel_rfl) (by kernel_rfl) ?_
        repeat (first | go_big_quiet_skip | quiet_step (fail))
        refine wpQuiet_nil ?_
        intro _ hw'
        obtain ⟨nq, hw''⟩ := hw'
        subst hw''
        go_wp2
        go_ret
        exact ⟨⟨_, rfl, Lib.hid ⟨fun h => (by simp at h), fun h => absurd h HT.out⟩⟩, nq, rfl⟩
    · have q1 : decide (0 ≤ b.at_) = false := decide_eq_false h1
      have HT : Hid (¬ TxOk b) := Lib.hid (fun h => by have := h.2.1.1; omega)
      clear h0 h1
      go_enter Tryz.func69, Tryz.ntmps69
      go_wp2_with fail
      refine wp_region_quiet_lit (by kernel_rfl) (by kernel_rfl) ?_
      repeat (first | go_big_quiet_skip | quiet_step (fail))
      refine wpQuiet_nil ?_
      intro _ hw'
      obtain ⟨nq, hw''⟩ := hw'
      subst hw''
      go_wp2
      go_ret
      exact ⟨⟨_, rfl, Lib.hid ⟨fun h => (by simp at h), fun h => absurd h HT.out⟩⟩, nq, rfl⟩
  · have q0 : decide ((b.inp.size : Int) ≤ 1024) = false := decide_eq_false h0
    have HT : Hid (¬ TxOk b) := Lib.hid (fun h => by have := h.1; omega)
    clear h0
    go_enter Tryz.func69, Tryz.ntmps69
    go_wp2_with fail
    refine wp_region_quiet_lit (by kernel_rfl) (by kernel_rfl) ?_
    repeat (first | go_big_quiet_skip | quiet_step (fail))
    refine wpQuiet_nil ?_
    intro _ hw'
    obtain ⟨nq, hw''⟩ := hw'
    subst hw''
    go_wp2
    go_ret
    exact ⟨⟨_, rfl, Lib.hid ⟨fun h => (by simp at h), fun h => absurd h HT.out⟩⟩, nq, rfl⟩
set_option maxRecDepth 100000 in
set_option maxHeartbeats 4000000 in
theorem stateI (g : Nat) (b : Bo) (w : World) (a26 : w.cell? ⟨g, 26, none⟩ = some (.int .i64 b.st)) (a27 : w.cell? ⟨g, 27, none⟩ = some (.int .i64 b.co)) (a28 : w.cell? ⟨g, 28, none⟩ = some (.int .i64 b.ft)) (a29 : w.cell? ⟨g, 29, none⟩ = some (.int .i64 b.wh)) :
    Calls Tryz.prog 71 #[.pointer (some ⟨g, 0, none⟩)] w fun e w' => SpB (StOk b) e ∧ w' = w := by
  by_cases s1 : b.st = 1
  · have p1 : (b.st == 1) = true := beq_iff_eq.mpr s1
    by_cases h2 : b.co = 0
    · have q2 : (b.co == 0) = true := beq_iff_eq.mpr h2
      by_cases h3 : b.ft = 0
      · have q3 : (b.ft == 0) = true := beq_iff_eq.mpr h3
        by_cases h4 : b.wh = 0
        · have q4 : (b.wh == 0) = true := beq_iff_eq.mpr h4
          have HT : Hid (StOk b) := Lib.hid (by unfold StOk; omega)
          clear s1 h2 h3 h4
          go_enter Tryz.func71, Tryz.ntmps71
          go_wp2
          go_ret
          exact ⟨⟨_, rfl, Lib.hid ⟨fun _ => HT.out, fun _ => rfl⟩⟩, rfl⟩
        · have q4 : (b.wh == 0) = false := beq_eq_false_iff_ne.mpr h4
          have HT : Hid (¬ StOk b) := Lib.hid (by unfold StOk; omega)
          clear s1 h2 h3 h4
          go_enter Tryz.func71, Tryz.ntmps71
          go_wp2
          go_ret
          exact ⟨⟨_, rfl, Lib.hid ⟨fun h => (by simp at h), fun h => absurd h HT.out⟩⟩, rfl⟩
      · have q3 : (b.ft == 0) = false := beq_eq_false_iff_ne.mpr h3
        have HT : Hid (¬ StOk b) := Lib.hid (by unfold StOk; omega)
        clear s1 h2 h3
        go_enter Tryz.func71, Tryz.ntmps71
        go_wp2
        go_ret
        exact ⟨⟨_, rfl, Lib.hid ⟨fun h => (by simp at h), fun h => absurd h HT.out⟩⟩, rfl⟩
    · have q2 : (b.co == 0) = false := beq_eq_false_iff_ne.mpr h2
      have HT : Hid (¬ StOk b) := Lib.hid (by unfold StOk; omega)
      clear s1 h2
      go_enter Tryz.func71, Tryz.ntmps71
      go_wp2
      go_ret
      exact ⟨⟨_, rfl, Lib.hid ⟨fun h => (by simp at h), fun h => absurd h HT.out⟩⟩, rfl⟩
  by_cases s2 : b.st = 2
  · have p1 : (b.st == 1) = false := beq_eq_false_iff_ne.mpr s1
    have p2 : (b.st == 2) = true := beq_iff_eq.mpr s2
    by_cases h2 : -2147483648 ≤ b.co ∧ b.co ≤ 2147483647
    · have q2 : (b.co == wrap64 (wrap32 b.co)) = true := beq_iff_eq.mpr ((cutB32_iff b.co).mpr h2)
      by_cases h3 : b.ft = 0
      · have q3 : (b.ft == 0) = true := beq_iff_eq.mpr h3
        by_cases h4 : b.wh = 0
        · have q4 : (b.wh == 0) = true := beq_iff_eq.mpr h4
          have HT : Hid (StOk b) := Lib.hid (by unfold StOk; omega)
          clear s1 s2 h2 h3 h4
          go_enter Tryz.func71, Tryz.ntmps71
          go_wp2_with fail
          refine (fitsB32 b.co _).mono ?_
          rintro e w' ⟨rfl, rfl⟩
          go_wp2
          go_ret
          exact ⟨⟨_, rfl, Lib.hid ⟨fun _ => HT.out, fun _ => rfl⟩⟩, rfl⟩
        · have q4 : (b.wh == 0) = false := beq_eq_false_iff_ne.mpr h4
          have HT : Hid (¬ StOk b) := Lib.hid (by unfold StOk; omega)
          clear s1 s2 h2 h3 h4
          go_enter Tryz.func71, Tryz.ntmps71
          go_wp2_with fail
          refine (fitsB32 b.co _).mono ?_
          rintro e w' ⟨rfl, rfl⟩
          go_wp2
          go_ret
          exact ⟨⟨_, rfl, Lib.hid ⟨fun h => (by simp at h), fun h => absurd h HT.out⟩⟩, rfl⟩
      · have q3 : (b.ft == 0) = false := beq_eq_false_iff_ne.mpr h3
        have HT : Hid (¬ StOk b) := Lib.hid (by unfold StOk; omega)
        clear s1 s2 h2 h3
        go_enter Tryz.func71, Tryz.ntmps71
        go_wp2_with fail
        refine (fitsB32 b.co _).mono ?_
        rintro e w' ⟨rfl, rfl⟩
        go_wp2
        go_ret
        exact ⟨⟨_, rfl, Lib.hid ⟨fun h => (by simp at h), fun h => absurd h HT.out⟩⟩, rfl⟩
    · have q2 : (b.co == wrap64 (wrap32 b.co)) = false := beq_eq_false_iff_ne.mpr (fun e => h2 ((cutB32_iff b.co).mp e))
      have HT : Hid (¬ StOk b) := Lib.hid (by unfold StOk; omega)
      clear s1 s2 h2
      go_enter Tryz.func71, Tryz.ntmps71
      go_wp2_with fail
      refine (fitsB32 b.co _).mono ?_
      rintro e w' ⟨rfl, rfl⟩
      go_wp2
      go_ret
      exact ⟨⟨_, rfl, Lib.hid ⟨fun h => (by simp at h), fun h => absurd h HT.out⟩⟩, rfl⟩
  by_cases s3 : b.st = 3
  · have p1 : (b.st == 1) = false := beq_eq_false_iff_ne.mpr s1
    have p2 : (b.st == 2) = false := beq_eq_false_iff_ne.mpr s2
    have p3 : (b.st == 3) = true := beq_iff_eq.mpr s3
    by_cases h2 : b.co = 0
    · have q2 : (b.co == 0) = true := beq_iff_eq.mpr h2
      by_cases h3 : 1 ≤ b.ft
      · have q3 : decide (1 ≤ b.ft) = true := decide_eq_true h3
        by_cases h4 : b.ft ≤ 35
        · have q4 : decide (b.ft ≤ 35) = true := decide_eq_true h4
          have HT : Hid (StOk b) := Lib.hid (by unfold StOk; omega)
          clear s1 s2 s3 h2 h3 h4
          go_enter Tryz.func71, Tryz.ntmps71
          go_wp2
          go_ret
          exact ⟨⟨_, rfl, Lib.hid ⟨fun _ => HT.out, fun _ => rfl⟩⟩, rfl⟩
        · have q4 : decide (b.ft ≤ 35) = false := decide_eq_false h4
          have HT : Hid (¬ StOk b) := Lib.hid (by unfold StOk; omega)
          clear s1 s2 s3 h2 h3 h4
          go_enter Tryz.func71, Tryz.ntmps71
          go_wp2
          go_ret
          exact ⟨⟨_, rfl, Lib.hid ⟨fun h => (by simp at h), fun h => absurd h HT.out⟩⟩, rfl⟩
      · have q3 : decide (1 ≤ b.ft) = false := decide_eq_false h3
        have HT : Hid (¬ StOk b) := Lib.hid (by unfold StOk; omega)
        clear s1 s2 s3 h2 h3
        go_enter Tryz.func71, Tryz.ntmps71
        go_wp2
        go_ret
        exact ⟨⟨_, rfl, Lib.hid ⟨fun h => (by simp at h), fun h => absurd h HT.out⟩⟩, rfl⟩
    · have q2 : (b.co == 0) = false := beq_eq_false_iff_ne.mpr h2
      have HT : Hid (¬ StOk b) := Lib.hid (by unfold StOk; omega)
      clear s1 s2 s3 h2
      go_enter Tryz.func71, Tryz.ntmps71
      go_wp2
      go_ret
      exact ⟨⟨_, rfl, Lib.hid ⟨fun h => (by simp at h), fun h => absurd h HT.out⟩⟩, rfl⟩
  have p1 : (b.st == 1) = false := beq_eq_false_iff_ne.mpr s1
  have p2 : (b.st == 2) = false := beq_eq_false_iff_ne.mpr s2
  have p3 : (b.st == 3) = false := beq_eq_false_iff_ne.mpr s3
  have HT : Hid (¬ StOk b) := Lib.hid (by unfold StOk; omega)
  clear s1 s2 s3
  go_enter Tryz.func71, Tryz.ntmps71
  go_wp2
  go_ret
  exact ⟨⟨_, rfl, Lib.hid ⟨fun h => (by simp at h), fun h => absurd h HT.out⟩⟩, rfl⟩
end Go.Proofs.YtbkgmpkednkbcaaGreatDoor
