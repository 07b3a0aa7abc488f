/-
  What the tables make sure of, of an instruction that is right; no condition but those in each head.
  What an instruction touches, told by the program's map and by the specification's sixteen bools: they are one; no condition but those in each head.
  TouchOf of impl and of spec answer alike; conditions: those in each head.
-/
import Derived.Test.YtjnjlgaemmdkhaaGreatDoorMathOkT
import Derived.Test.YtjnjlgaemmdkhaaGreatDoorWalkTm3
import Derived.Test.YtjnjlgaemmdkhaaGreatDoorWalkTs
import Derived.Test.YtjnjlgaemmdkhaaGreatDoorWalkTu
import Derived.Test.YtjnjlgaemmdkhaaGreatDoorWalkTuB
namespace Go.Proofs.YtjnjlgaemmdkhaaGreatDoor
open Go.RowKit
set_option linter.unusedVariables false
set_option linter.unusedSimpArgs false
theorem ok_parts {x : Ins} (h : okS x = true) : (1 ≤ x.op ∧ x.op ≤ 44) ∧ shapeB x = true ∧ kindB x.d x.sz = true ∧ kindB x.s (sS x) = true := by
  unfold okS at h
  simp only [Bool.and_eq_true, decide_eq_true_eq] at h
  exact ⟨h.1, h.2.2.1, h.2.2.2.2.2.1, h.2.2.2.2.2.2.1⟩
/-- what the tables make sure of here -/
theorem op_facts {x : Ins} (h : okS x = true) : (x.op = 28 → x.s.k = 1) ∧ ((x.op = 13 ∨ x.op = 14 ∨ x.op = 15 ∨ x.op = 16 ∨ x.op = 40) → 1 ≤ x.sz) ∧ (x.op = 40 → x.sz ≠ 1) ∧ ((x.op = 25 ∨ x.op = 26 ∨ x.op = 27 ∨ x.op = 36) → x.d.k = 1) := by
  have hp := ok_parts h
  have hb := hp.2.1
  unfold shapeB at hb
  rw [Bool.and_eq_true, Bool.and_eq_true] at hb
  obtain ⟨hz, hk, _⟩ := hb
  refine ⟨fun e => ?_, fun e => ?_, fun e => ?_, fun e => ?_⟩
  · obtain ⟨ra, rb⟩ := kin_range hk
    rw [e] at hk
    rcases rb with rb | rb | rb | rb
    · rw [rb] at hk; rcases ra with ra | ra | ra | ra <;> rw [ra] at hk <;> exact absurd hk (by decide +kernel)
    · exact rb
    · rw [rb] at hk; rcases ra with ra | ra | ra | ra <;> rw [ra] at hk <;> exact absurd hk (by decide +kernel)
    · rw [rb] at hk; rcases ra with ra | ra | ra | ra <;> rw [ra] at hk <;> exact absurd hk (by decide +kernel)
  · have hm : (patOf x.op).m ≠ 0 := by rcases e with e | e | e | e | e <;> rw [e] <;> decide +kernel
    unfold szK at hz
    rw [if_neg hm] at hz
    have := of_decide_eq_true hz
    omega
  · have hm : (patOf x.op).m = 14 := by rw [e]; decide +kernel
    rw [hm, sz14] at hz
    simp only [Bool.and_eq_true, decide_eq_true_eq] at hz
    omega
  · obtain ⟨ra, rb⟩ := kin_range hk
    rcases e with e | e | e | e <;> rw [e] at hk <;> (rcases ra with ra | ra | ra | ra <;> first | exact ra | (rw [ra] at hk; rcases rb with rb | rb | rb | rb <;> rw [rb] at hk <;> exact absurd hk (by decide +kernel)))
end Go.Proofs.YtjnjlgaemmdkhaaGreatDoor
namespace Go.Proofs.YtjnjlgaemmdkhaaGreatDoor
open Go.RowKit
set_option linter.unusedVariables false
set_option linter.unusedSimpArgs false
def twr (g : Int → Option (Bool × Bool)) (k : Int) : Bool := (tget g k).2
theorem twr_add (q : Bool × Bool) (p : Int) (g : Int → Option (Bool × Bool)) (k : Int) : twr (tadd q p g) k = (twr g k || (decide (k = p) && q.2)) := by
  unfold twr tget tadd
  by_cases e : k = p
  · subst e; rw [if_pos rfl, decide_eq_true rfl]; simp [tor, tget]
  · rw [if_neg e, decide_eq_false e]; simp
theorem twr_del (p : Int) (g : Int → Option (Bool × Bool)) (k : Int) : twr (tdel p g) k = (twr g k && !decide (k = p)) := by
  unfold twr tget tdel
  by_cases e : k = p
  · rw [if_pos e, decide_eq_true e]; simp
  · rw [if_neg e, decide_eq_false e]; simp
theorem twr_nil (k : Int) : twr (fun _ => none) k = false := rfl
theorem twr_opd (x : Opd) (q : Bool × Bool) (g : Int → Option (Bool × Bool)) (k : Int) (hk : 0 ≤ k) : twr (topd x q g) k = (twr g k || (decide (x.k = 1) && (decide (k = x.r.tmod 16) && q.2))) := by
  unfold topd
  by_cases h1 : x.k = 1
  · rw [if_pos h1, twr_add, decide_eq_true h1, Bool.true_and]
  · rw [if_neg h1, decide_eq_false h1, Bool.false_and, Bool.or_false]
    by_cases h2 : x.k = 2
    · rw [if_pos h2, twr_add, decide_eq_false (by omega : ¬ k = -1)]; simp
    · rw [if_neg h2]
theorem dstQ_w (op : Int) : (dstQ op).2 = ((op != 8) && (op != 10)) := by
  unfold dstQ
  by_cases h : op = 8 ∨ op = 10
  · rw [if_pos h]; rcases h with rfl | rfl <;> rfl
  · rw [if_neg h]
    have h1 : (op != 8) = true := bne_iff_ne.mpr (fun e => h (.inl e))
    have h2 : (op != 10) = true := bne_iff_ne.mpr (fun e => h (.inr e))
    rw [h1, h2]; split <;> rfl
theorem srcQ_w (op : Int) : (srcQ op).2 = decide (op = 28) := by
  unfold srcQ
  by_cases h : op = 25
  · subst h; rfl
  · rw [if_neg h]
    by_cases h2 : op = 28
    · subst h2; rfl
    · rw [if_neg h2, decide_eq_false h2]
theorem tun_w (op : Int) (k : Nat) : twr (tun op (fun _ => none)) (k : Int) = (if op = 13 ∨ op = 14 ∨ op = 15 ∨ op = 16 then (decide (k = 0) || decide (k = 2)) else if op = 39 then decide (k = 0) else if op = 40 then decide (k = 2) else if op = 41 then decide (k = 7) else if op = 42 then (decide (k = 6) || decide (k = 7)) else if op = 29 ∨ op = 31 then decide (k = 4) else if op = 30 ∨ op = 34 then decide (k = 4) else false) := by
  have c0 : decide ((k : Int) = 0) = decide (k = 0) := decide_eq_decide.mpr (by omega)
  have c2 : decide ((k : Int) = 2) = decide (k = 2) := decide_eq_decide.mpr (by omega)
  have c4 : decide ((k : Int) = 4) = decide (k = 4) := decide_eq_decide.mpr (by omega)
  have c6 : decide ((k : Int) = 6) = decide (k = 6) := decide_eq_decide.mpr (by omega)
  have c7 : decide ((k : Int) = 7) = decide (k = 7) := decide_eq_decide.mpr (by omega)
  have cm : decide ((k : Int) = -1) = false := decide_eq_false (by omega)
  unfold tun
  repeat' split
  all_goals simp_all [twr_add, twr_nil]
/-- the two tell the same registers -/
theorem hits_eq {x : Ins} (h : okS x = true) (m n k : Nat) (hm : x.d.r.tmod 16 = (m : Int)) (hn : x.op = 28 → x.s.r.tmod 16 = (n : Int)) :
    twr (toG x) (k : Int) = hsw x.op x.sz n (if (x.d.k == 1) && ((x.op != 8) && (x.op != 10)) then hup (fun _ => false) m else fun _ => false) k := by
  obtain ⟨f1, f2, f3, _⟩ := op_facts h
  obtain ⟨op, sz, cd, fr, d, s, ln⟩ := x
  simp only at hm hn f1 f2 f3 ⊢
  have hD : ((if (d.k == 1) && ((op != 8) && (op != 10)) then hup (fun _ => false) m else fun _ => false) k) = (decide (d.k = 1) && (decide (k = m) && ((op != 8) && (op != 10)))) := by
    by_cases e : d.k = 1
    · rw [beq_iff_eq.mpr e, decide_eq_true e]
      cases (op != 8) && (op != 10)
      · simp
      · by_cases e2 : k = m <;> simp [hup, e2]
    · rw [beq_eq_false_iff_ne.mpr e, decide_eq_false e]; rfl
  generalize hh : (if (d.k == 1) && ((op != 8) && (op != 10)) then hup (fun _ => false) m else fun _ => false) = h0 at hD ⊢
  have hX : decide ((k : Int) = d.r.tmod 16) = decide (k = m) := decide_eq_decide.mpr (by rw [hm]; omega)
  unfold toG
  simp only
  rw [twr_opd _ _ _ _ (by omega), twr_opd _ _ _ _ (by omega), dstQ_w, srcQ_w, hX, ← hD]
  have hG : twr (if sz = 1 then tdel 2 (tun op (fun _ => none)) else tun op (fun _ => none)) (k : Int) = (twr (tun op (fun _ => none)) (k : Int) && !(decide (sz = 1) && decide (k = 2))) := by
    by_cases e : sz = 1
    · rw [if_pos e, twr_del, decide_eq_true e, Bool.true_and]; congr 2; exact decide_eq_decide.mpr (by omega)
    · rw [if_neg e, decide_eq_false e]; simp
  rw [hG, tun_w]
  clear hG hX hD hh hm
  unfold hsw
  by_cases e28 : op = 28
  · subst e28
    have e1 := f1 rfl
    have hN : decide ((k : Int) = s.r.tmod 16) = decide (k = n) := decide_eq_decide.mpr (by rw [hn rfl]; omega)
    rw [hN, e1]
    by_cases e2 : k = n <;> simp [hup, e2]
  · rw [if_neg e28, decide_eq_false e28]
    by_cases e13 : op = 13 ∨ op = 14 ∨ op = 15 ∨ op = 16
    · have hz := f2 (by omega)
      rw [if_pos e13, if_pos e13]
      by_cases e1 : sz = 1
      · rw [if_neg (by omega), decide_eq_true e1]
        by_cases k0 : k = 0
        · subst k0; simp [hup]
        · by_cases k2 : k = 2 <;> simp [hup, k0, k2]
      · rw [if_pos (by omega), decide_eq_false e1]
        by_cases k0 : k = 0
        · subst k0; simp [hup]
        · by_cases k2 : k = 2 <;> simp [hup, k0, k2]
    · rw [if_neg e13, if_neg e13]
      have go (c : Nat) (hc : c ≠ 2) : (decide (k = c) && !(decide (sz = 1) && decide (k = 2)) || h0 k || (decide (s.k = 1) && (decide ((k : Int) = s.r.tmod 16) && false))) = hup h0 c k := by
        by_cases e : k = c
        · subst e; simp [hup, hc]
        · simp [hup, e]
      by_cases e39 : op = 39
      · rw [if_pos e39, if_pos e39]; exact go 0 (by omega)
      · rw [if_neg e39, if_neg e39]
        by_cases e40 : op = 40
        · have := f3 e40
          rw [if_pos e40, if_pos e40, decide_eq_false this]
          by_cases e : k = 2 <;> simp [hup, e]
        · rw [if_neg e40, if_neg e40]
          by_cases e41 : op = 41
          · rw [if_pos e41, if_pos e41]; exact go 7 (by omega)
          · rw [if_neg e41, if_neg e41]
            by_cases e42 : op = 42
            · rw [if_pos e42, if_pos e42]
              by_cases e : k = 6
              · subst e; simp [hup]
              · by_cases e' : k = 7 <;> simp [hup, e, e']
            · rw [if_neg e42, if_neg e42]
              by_cases e29 : op = 29 ∨ op = 31
              · rw [if_pos e29, if_pos (by omega)]; exact go 4 (by omega)
              · rw [if_neg e29]
                by_cases e30 : op = 30 ∨ op = 34
                · rw [if_pos e30, if_pos (by omega)]; exact go 4 (by omega)
                · rw [if_neg e30, if_neg (by omega)]; simp
theorem mem_regL (h : Nat → Bool) (k : Nat) (hk : k < 16) : decide ((k : Int) ∈ regL h 16) = h k := by
  unfold regL
  cases hb : h k
  · refine decide_eq_false ?_
    intro hm
    obtain ⟨i, hi, e⟩ := List.mem_map.1 hm
    obtain rfl : i = k := by omega
    rw [(List.mem_filter.1 hi).2] at hb; cases hb
  · exact decide_eq_true (List.mem_map.2 ⟨k, List.mem_filter.2 ⟨List.mem_range.2 hk, hb⟩, rfl⟩)
end Go.Proofs.YtjnjlgaemmdkhaaGreatDoor
namespace Go.Proofs.YtjnjlgaemmdkhaaGreatDoor
open Go.RowKit Go.Sort
set_option linter.unusedVariables false
set_option linter.unusedSimpArgs false
theorem opd_regT {x : Opd} {z : Int} (h : kindB x z = true) : 0 ≤ x.r := by
  rcases kind_k h with ⟨_, e⟩ | ⟨_, _, h1, _⟩ | ⟨_, h2⟩ | ⟨_, e⟩
  · rw [e]; decide
  · exact h1
  · rw [h2.1]; exact Int.le_refl _
  · rw [e]; exact Int.le_refl _
theorem tget_add (q : Bool × Bool) (p : Int) (g : Int → Option (Bool × Bool)) (k : Int) : tget (tadd q p g) k = if k = p then tor (tget g p) q else tget g k := by
  unfold tget tadd
  by_cases e : k = p
  · rw [if_pos e, if_pos e]; rfl
  · rw [if_neg e, if_neg e]
theorem tmod_ne {r : Int} (h : 0 ≤ r) : ¬ (-1 : Int) = r.tmod 16 := by
  obtain ⟨a, rfl⟩ := Int.eq_ofNat_of_zero_le h
  have : ((a : Int)).tmod 16 = ((a % 16 : Nat) : Int) := rfl
  omega
theorem tget_opd (x : Opd) (q : Bool × Bool) (g : Int → Option (Bool × Bool)) (h : 0 ≤ x.r) : tget (topd x q g) (-1) = if x.k = 2 then tor (tget g (-1)) q else tget g (-1) := by
  unfold topd
  by_cases h1 : x.k = 1
  · rw [if_pos h1, tget_add, if_neg (tmod_ne h), if_neg (by omega)]
  · rw [if_neg h1]
    by_cases h2 : x.k = 2
    · rw [if_pos h2, if_pos h2, tget_add, if_pos rfl]
    · rw [if_neg h2, if_neg h2]
theorem tget_del (g : Int → Option (Bool × Bool)) : tget (tdel 2 g) (-1) = tget g (-1) := by unfold tget tdel; rw [if_neg (by decide)]
theorem tget_tun (op : Int) : tget (tun op (fun _ => none)) (-1) = (decide (op = 30 ∨ op = 34 ∨ op = 42), decide (op = 29 ∨ op = 31 ∨ op = 41 ∨ op = 42)) := by
  unfold tun
  by_cases h1 : op = 13 ∨ op = 14 ∨ op = 15 ∨ op = 16
  · rw [if_pos h1, decide_eq_false (by omega), decide_eq_false (by omega)]; rfl
  · rw [if_neg h1]
    by_cases h2 : op = 39
    · subst h2; rfl
    · rw [if_neg h2]
      by_cases h3 : op = 40
      · subst h3; rfl
      · rw [if_neg h3]
        by_cases h4 : op = 41
        · subst h4; rfl
        · rw [if_neg h4]
          by_cases h5 : op = 42
          · subst h5; rfl
          · rw [if_neg h5]
            by_cases h6 : op = 29 ∨ op = 31
            · rw [if_pos h6, decide_eq_false (by omega), decide_eq_true (by omega)]; rfl
            · rw [if_neg h6]
              by_cases h7 : op = 30 ∨ op = 34
              · rw [if_pos h7, decide_eq_true (by omega), decide_eq_false (by omega)]; rfl
              · rw [if_neg h7, decide_eq_false (by omega), decide_eq_false (by omega)]; rfl
theorem toG_mem {x : Ins} (h : okS x = true) : tget (toG x) (-1) = (decide (x.op = 30 ∨ x.op = 34 ∨ x.op = 42) || ((x.s.k == 2 && (x.op != 25)) || (x.d.k == 2 && ((x.op != 9) && ((x.op != 35) && (x.op != 30))))), decide (x.op = 29 ∨ x.op = 31 ∨ x.op = 41 ∨ x.op = 42) || (x.d.k == 2 && ((x.op != 8) && (x.op != 10)))) := by
  obtain ⟨f1, _, _, f4⟩ := op_facts h
  have hp := ok_parts h
  have hd := opd_regT hp.2.2.1
  have hs := opd_regT hp.2.2.2
  obtain ⟨op, sz, cd, fr, d, s, ln⟩ := x
  simp only at f1 f4 hd hs ⊢
  unfold toG
  simp only
  rw [tget_opd _ _ _ hs, tget_opd _ _ _ hd]
  have hG : tget (if sz = 1 then tdel 2 (tun op (fun _ => none)) else tun op (fun _ => none)) (-1) = tget (tun op (fun _ => none)) (-1) := by split; exact tget_del _; rfl
  rw [hG, tget_tun]
  generalize ht1 : decide (op = 30 ∨ op = 34 ∨ op = 42) = a
  generalize ht2 : decide (op = 29 ∨ op = 31 ∨ op = 41 ∨ op = 42) = b
  have hsq : s.k = 2 → srcQ op = ((op != 25), false) := by
    intro e
    have h28 : op ≠ 28 := fun e2 => by have := f1 e2; omega
    unfold srcQ
    by_cases e2 : op = 25
    · subst e2; rfl
    · rw [if_neg e2, if_neg h28, bne_iff_ne.mpr e2]
  have hdq : d.k = 2 → dstQ op = ((op != 9) && ((op != 35) && (op != 30)), (op != 8) && (op != 10)) := by
    intro e
    have hn : ¬ (op = 25 ∨ op = 26 ∨ op = 27 ∨ op = 36) := fun e2 => by have := f4 e2; omega
    unfold dstQ
    by_cases e8 : op = 8 ∨ op = 10
    · rw [if_pos e8]; rcases e8 with rfl | rfl <;> rfl
    · rw [if_neg e8]
      have g8 : (op != 8) = true := bne_iff_ne.mpr (fun e => e8 (.inl e))
      have g10 : (op != 10) = true := bne_iff_ne.mpr (fun e => e8 (.inr e))
      by_cases e9 : op = 9 ∨ op = 25 ∨ op = 26 ∨ op = 27 ∨ op = 30 ∨ op = 35 ∨ op = 36
      · rw [if_pos e9, g8, g10]
        rcases (by omega : op = 9 ∨ op = 30 ∨ op = 35) with rfl | rfl | rfl <;> rfl
      · rw [if_neg e9, g8, g10, bne_iff_ne.mpr (by omega : op ≠ 9), bne_iff_ne.mpr (by omega : op ≠ 35), bne_iff_ne.mpr (by omega : op ≠ 30)]; rfl
  clear ht1 ht2 hG
  by_cases h1 : s.k = 2
  · rw [if_pos h1, hsq h1, beq_iff_eq.mpr h1]
    by_cases h2 : d.k = 2
    · rw [if_pos h2, hdq h2, beq_iff_eq.mpr h2]
      unfold tor
      simp only [Bool.true_and, Bool.or_false]
      congr 1
      cases a <;> cases (op != 25) <;> simp
    · rw [if_neg h2, beq_eq_false_iff_ne.mpr h2]
      unfold tor
      simp
  · rw [if_neg h1, beq_eq_false_iff_ne.mpr h1]
    by_cases h2 : d.k = 2
    · rw [if_pos h2, hdq h2, beq_iff_eq.mpr h2]
      unfold tor
      simp
    · rw [if_neg h2, beq_eq_false_iff_ne.mpr h2]
      simp
theorem twr_opdR (x : Opd) (q : Bool × Bool) (g : Int → Option (Bool × Bool)) (k : Int) (hx : 0 ≤ x.r) (hk : k ≠ -1) (h : twr (topd x q g) k = true) : twr g k = true ∨ (0 ≤ k ∧ k < 16) := by
  unfold topd at h
  split at h
  · rw [twr_add, Bool.or_eq_true, Bool.and_eq_true, decide_eq_true_eq] at h
    rcases h with h | ⟨h, _⟩
    · exact .inl h
    · refine .inr ?_
      obtain ⟨a, ha⟩ := Int.eq_ofNat_of_zero_le hx
      rw [h, ha, show ((a : Int)).tmod 16 = ((a % 16 : Nat) : Int) from rfl]
      omega
  · split at h
    · rw [twr_add, Bool.or_eq_true, Bool.and_eq_true, decide_eq_true_eq] at h
      rcases h with h | ⟨h, _⟩
      · exact .inl h
      · exact absurd h hk
    · exact .inl h
theorem tun_range (op k : Int) (hk : k ≠ -1) (h : twr (tun op (fun _ => none)) k = true) : 0 ≤ k ∧ k < 16 := by
  unfold tun at h
  repeat' split at h
  all_goals (simp only [twr_add, twr_nil, Bool.or_eq_true, Bool.and_eq_true, decide_eq_true_eq, Bool.false_eq_true, false_or, and_true, and_false, or_false] at h)
  all_goals omega
theorem toG_range {x : Ins} (h : okS x = true) (k : Int) (hk : k ≠ -1) (ht : (tget (toG x) k).2 = true) : 0 ≤ k ∧ k < 16 := by
  have hp := ok_parts h
  rcases twr_opdR _ _ _ k (opd_regT hp.2.2.2) hk ht with h1 | h1
  · rcases twr_opdR _ _ _ k (opd_regT hp.2.2.1) hk h1 with h2 | h2
    · split at h2
      · rw [twr_del, Bool.and_eq_true] at h2; exact tun_range _ k hk h2.1
      · exact tun_range _ k hk h2
    · exact h2
  · exact h1
end Go.Proofs.YtjnjlgaemmdkhaaGreatDoor
namespace Go.Proofs.YtjnjlgaemmdkhaaGreatDoor
open Go.RowKit Go.Maps
set_option linter.unusedVariables false
set_option linter.unusedSimpArgs false
theorem touch0S (op sz cd fr : Int) (d s : Opd) (ln : Int) (w : World) (L : List Int) (t0 t1 wr : Bool) (e0 : (d.k == 2) = t0) (e1 : (s.k == 2) = t1) (hwr : ((op != 8) && (op != 10)) = wr) (CR : Hid (∀ W, Calls Tryz.prog 28 #[.agg #[.int .i64 op, .int .i64 sz, .int .i64 cd, .int .i64 fr, .int .i64 d.k, .int .i64 d.r, .int .i64 d.b, .int .i64 d.i, .int .i64 d.s, .int .i64 d.d, .int .i64 d.m, .int .i64 s.k, .int .i64 s.r, .int .i64 s.b, .int .i64 s.i, .int .i64 s.s, .int .i64 s.d, .int .i64 s.m, .int .i64 ln]] W fun e w' => ∃ v, e = .returned v ∧ w'.ownsRow W.heap.size 3 1 v L.length (L.map (fun i => .int .i64 i)) ∧ Below W.heap.size W w')) :
    Calls Tryz.prog 11 #[.agg #[.int .i64 op, .int .i64 sz, .int .i64 cd, .int .i64 fr, .int .i64 d.k, .int .i64 d.r, .int .i64 d.b, .int .i64 d.i, .int .i64 d.s, .int .i64 d.d, .int .i64 d.m, .int .i64 s.k, .int .i64 s.r, .int .i64 s.b, .int .i64 s.i, .int .i64 s.s, .int .i64 s.d, .int .i64 s.m, .int .i64 ln]] w fun e w' => ∃ v, e = .returned (.agg #[v, .bool (rdS op t0 t1), .bool (wtS op t0 wr), .bool (stk op)]) ∧ w'.ownsRow w.heap.size 3 1 v L.length (L.map (fun i => .int .i64 i)) ∧ Below w.heap.size w w' := by
  by_cases h9 : op = 9
  · subst h9; exact touch0S_9 sz cd fr d s ln w L t0 t1 wr e0 e1 hwr CR
  by_cases h35 : op = 35
  · subst h35; exact touch0S_35 sz cd fr d s ln w L t0 t1 wr e0 e1 hwr CR
  by_cases h30 : op = 30
  · subst h30; exact touch0S_30 sz cd fr d s ln w L t0 t1 wr e0 e1 hwr CR
  by_cases h25 : op = 25
  · subst h25; exact touch0S_25 sz cd fr d s ln w L t0 t1 wr e0 e1 hwr CR
  by_cases h29 : op = 29
  · subst h29; exact touch0S_29 sz cd fr d s ln w L t0 t1 wr e0 e1 hwr CR
  by_cases h31 : op = 31
  · subst h31; exact touch0S_31 sz cd fr d s ln w L t0 t1 wr e0 e1 hwr CR
  by_cases h41 : op = 41
  · subst h41; exact touch0S_41 sz cd fr d s ln w L t0 t1 wr e0 e1 hwr CR
  by_cases h34 : op = 34
  · subst h34; exact touch0S_34 sz cd fr d s ln w L t0 t1 wr e0 e1 hwr CR
  by_cases h42 : op = 42
  · subst h42; exact touch0S_42 sz cd fr d s ln w L t0 t1 wr e0 e1 hwr CR
  exact touch0S_op op sz cd fr d s ln w L t0 t1 wr e0 e1 hwr CR h9 h35 h30 h25 h29 h31 h41 h34 h42
set_option maxRecDepth 100000 in
set_option maxHeartbeats 4000000 in
theorem touS (op sz cd fr : Int) (d s : Opd) (ln : Int) (w : World) (L : List Int) (b r wt st : Bool) (CI : Hid (∀ W, Calls Tryz.prog 10 #[.agg #[.int .i64 op, .int .i64 sz, .int .i64 cd, .int .i64 fr, .int .i64 d.k, .int .i64 d.r, .int .i64 d.b, .int .i64 d.i, .int .i64 d.s, .int .i64 d.d, .int .i64 d.m, .int .i64 s.k, .int .i64 s.r, .int .i64 s.b, .int .i64 s.i, .int .i64 s.s, .int .i64 s.d, .int .i64 s.m, .int .i64 ln]] W fun e w' => e = .returned (.bool b) ∧ Below W.heap.size W w')) (CH0 : Hid (b = true → ∀ W, Calls Tryz.prog 11 #[.agg #[.int .i64 op, .int .i64 sz, .int .i64 cd, .int .i64 fr, .int .i64 d.k, .int .i64 d.r, .int .i64 d.b, .int .i64 d.i, .int .i64 d.s, .int .i64 d.d, .int .i64 d.m, .int .i64 s.k, .int .i64 s.r, .int .i64 s.b, .int .i64 s.i, .int .i64 s.s, .int .i64 s.d, .int .i64 s.m, .int .i64 ln]] W fun e w' => ∃ v, e = .returned (.agg #[v, .bool r, .bool wt, .bool st]) ∧ w'.ownsRow W.heap.size 3 1 v L.length (L.map (fun i => .int .i64 i)) ∧ Below W.heap.size W w')) :
    Calls Tryz.prog 4 #[.agg #[.int .i64 op, .int .i64 sz, .int .i64 cd, .int .i64 fr, .int .i64 d.k, .int .i64 d.r, .int .i64 d.b, .int .i64 d.i, .int .i64 d.s, .int .i64 d.d, .int .i64 d.m, .int .i64 s.k, .int .i64 s.r, .int .i64 s.b, .int .i64 s.i, .int .i64 s.s, .int .i64 s.d, .int .i64 s.m, .int .i64 ln]] w fun e w' => ∃ v, e = .returned (.tuple (touV b v r wt st)) ∧ w'.ownsRow w.heap.size 3 1 v (if b then L else []).length ((if b then L else []).map (fun i => .int .i64 i)) ∧ Below w.heap.size w w' := by
  have R0 := Lib.hid (show (((w.alloc (.cells #[.int .i64 op, .int .i64 sz, .int .i64 cd, .int .i64 fr, .int .i64 d.k, .int .i64 d.r, .int .i64 d.b, .int .i64 d.i, .int .i64 d.s, .int .i64 d.d, .int .i64 d.m, .int .i64 s.k, .int .i64 s.r, .int .i64 s.b, .int .i64 s.i, .int .i64 s.s, .int .i64 s.d, .int .i64 s.m, .int .i64 ln] 33)).alloc (.cells #[.slice none 0 0, .bool false, .bool false, .bool false] 28))).heap[w.heap.size]? = some (.cells #[.int .i64 op, .int .i64 sz, .int .i64 cd, .int .i64 fr, .int .i64 d.k, .int .i64 d.r, .int .i64 d.b, .int .i64 d.i, .int .i64 d.s, .int .i64 d.d, .int .i64 d.m, .int .i64 s.k, .int .i64 s.r, .int .i64 s.b, .int .i64 s.i, .int .i64 s.s, .int .i64 s.d, .int .i64 s.m, .int .i64 ln] 33 (0, 0)) from (Below.heap_alloc _ _ _ (by simp)).trans (heap_alloc_new w _))
  have Z0 := Lib.hid (show (((w.alloc (.cells #[.int .i64 op, .int .i64 sz, .int .i64 cd, .int .i64 fr, .int .i64 d.k, .int .i64 d.r, .int .i64 d.b, .int .i64 d.i, .int .i64 d.s, .int .i64 d.d, .int .i64 d.m, .int .i64 s.k, .int .i64 s.r, .int .i64 s.b, .int .i64 s.i, .int .i64 s.s, .int .i64 s.d, .int .i64 s.m, .int .i64 ln] 33)).alloc (.cells #[.slice none 0 0, .bool false, .bool false, .bool false] 28))).heap[w.heap.size + 1]? = some (.cells #[.slice none 0 0, .bool false, .bool false, .bool false] 28 (0, 0)) from by simpa using heap_alloc_new (w.alloc (.cells #[.int .i64 op, .int .i64 sz, .int .i64 cd, .int .i64 fr, .int .i64 d.k, .int .i64 d.r, .int .i64 d.b, .int .i64 d.i, .int .i64 d.s, .int .i64 d.d, .int .i64 d.m, .int .i64 s.k, .int .i64 s.r, .int .i64 s.b, .int .i64 s.i, .int .i64 s.s, .int .i64 s.d, .int .i64 s.m, .int .i64 ln] 33)) (.cells #[.slice none 0 0, .bool false, .bool false, .bool false] 28))
  have B0 := Lib.hid (show Below w.heap.size w ((w.alloc (.cells #[.int .i64 op, .int .i64 sz, .int .i64 cd, .int .i64 fr, .int .i64 d.k, .int .i64 d.r, .int .i64 d.b, .int .i64 d.i, .int .i64 d.s, .int .i64 d.d, .int .i64 d.m, .int .i64 s.k, .int .i64 s.r, .int .i64 s.b, .int .i64 s.i, .int .i64 s.s, .int .i64 s.d, .int .i64 s.m, .int .i64 ln] 33)).alloc (.cells #[.slice none 0 0, .bool false, .bool false, .bool false] 28)) from ((Below.refl _ _).alloc (Nat.le_refl _) _).alloc (by simp) _)
  go_enter Tryz.func4, Tryz.ntmps4
  go_wp2_with (first | refine wpList_load_row rfl 33 (.tmp 1) rfl w.heap.size rfl 33 #[.int .i64 op, .int .i64 sz, .int .i64 cd, .int .i64 fr, .int .i64 d.k, .int .i64 d.r, .int .i64 d.b, .int .i64 d.i, .int .i64 d.s, .int .i64 d.d, .int .i64 d.m, .int .i64 s.k, .int .i64 s.r, .int .i64 s.b, .int .i64 s.i, .int .i64 s.s, .int .i64 s.d, .int .i64 s.m, .int .i64 ln] (0, 0) _ R0.out Tryz.underlying33 rfl (by kernel_rfl) ?_ | refine load_rowT (by rfl) 33 (.tmp 1) rfl w.heap.size rfl 33 #[.int .i64 op, .int .i64 sz, .int .i64 cd, .int .i64 fr, .int .i64 d.k, .int .i64 d.r, .int .i64 d.b, .int .i64 d.i, .int .i64 d.s, .int .i64 d.d, .int .i64 d.m, .int .i64 s.k, .int .i64 s.r, .int .i64 s.b, .int .i64 s.i, .int .i64 s.s, .int .i64 s.d, .int .i64 s.m, .int .i64 ln] (0, 0) _ R0.out Tryz.underlying33 rfl (by kernel_rfl) ?_)
  refine (CI.out _).mono ?_
  rintro e w1 ⟨rfl, hb⟩
  have B1 := Lib.hid (B0.out.trans (hb.mono B0.out.size))
  have R1 := Lib.hid ((hb.block _ (lt_of_blk R0.out)).trans R0.out)
  have Z1 := Lib.hid ((hb.block _ (lt_of_blk Z0.out)).trans Z0.out)
  clear hb
  cases b
  · go_wp2_with (first | (refine wpList_store_row rfl 28 (.tmp 2) (.tmp 7) rfl (w.heap.size + 1) #[.slice none 0 0, .bool false, .bool false, .bool false] rfl rfl 28 _ Z1.out (by kernel_rfl) rfl (by kernel_rfl) ?_))
    refine bodyPost_ret (v := .tuple #[.agg #[.slice none 0 0, .bool false, .bool false, .bool false], .int .i64 1]) (by exact results_cell_row2 Tryz.results4 _ _ (w.heap.size + 1) 28 #[.slice none 0 0, .bool false, .bool false, .bool false] (0, 0) _ rfl (setRow_heap _ _ _ _ _ _ Z1.out) Tryz.underlying28 rfl (by kernel_rfl)) (by rfl) ⟨_, rfl, World.ownsRow_nil _ _ _ _, Go.below_setRow B1.out (by omega) _⟩
  · have CH := CH0.out rfl
    have CH := Lib.hid CH
    go_wp2_with (first | refine wpList_load_row rfl 33 (.tmp 1) rfl w.heap.size rfl 33 #[.int .i64 op, .int .i64 sz, .int .i64 cd, .int .i64 fr, .int .i64 d.k, .int .i64 d.r, .int .i64 d.b, .int .i64 d.i, .int .i64 d.s, .int .i64 d.d, .int .i64 d.m, .int .i64 s.k, .int .i64 s.r, .int .i64 s.b, .int .i64 s.i, .int .i64 s.s, .int .i64 s.d, .int .i64 s.m, .int .i64 ln] (0, 0) _ R1.out Tryz.underlying33 rfl (by kernel_rfl) ?_ | refine load_rowT (by rfl) 33 (.tmp 1) rfl w.heap.size rfl 33 #[.int .i64 op, .int .i64 sz, .int .i64 cd, .int .i64 fr, .int .i64 d.k, .int .i64 d.r, .int .i64 d.b, .int .i64 d.i, .int .i64 d.s, .int .i64 d.d, .int .i64 d.m, .int .i64 s.k, .int .i64 s.r, .int .i64 s.b, .int .i64 s.i, .int .i64 s.s, .int .i64 s.d, .int .i64 s.m, .int .i64 ln] (0, 0) _ R1.out Tryz.underlying33 rfl (by kernel_rfl) ?_)
    refine (CH.out _).mono ?_
    rintro e w2 ⟨v, rfl, hO, hb⟩
    obtain ⟨pv, cv, rfl⟩ := form_ownT hO
    have hO' := hO
    have B2 := Lib.hid (B1.out.trans (hb.mono B1.out.size))
    have Z2 := Lib.hid ((hb.block _ (lt_of_blk Z1.out)).trans Z1.out)
    have hz1 := lt_of_blk Z1.out
    have HO := Lib.hid hO'
    clear hO hO' hb
    go_wp2_with (first | (refine wpList_store_row rfl 28 (.tmp 2) (.tmp 9) rfl (w.heap.size + 1) #[.slice pv L.length cv, .bool r, .bool wt, .bool st] rfl rfl 28 _ Z2.out (by kernel_rfl) rfl (by kernel_rfl) ?_))
    refine bodyPost_ret (v := .tuple #[.agg #[.slice pv L.length cv, .bool r, .bool wt, .bool st], .int .i64 0]) (by exact results_cell_row2 Tryz.results4 _ _ (w.heap.size + 1) 28 #[.slice pv L.length cv, .bool r, .bool wt, .bool st] (0, 0) _ rfl (setRow_heap _ _ _ _ _ _ Z2.out) Tryz.underlying28 rfl (by kernel_rfl)) (by rfl) ⟨.slice pv L.length cv, rfl, ?_, Go.below_setRow B2.out (by omega) _⟩
    exact own_keptT (Joins.ownsRow_le HO.out B1.out.size) (fun k hk => setRow_other (by have := (HO.out.lt k hk).1; omega))
set_option maxRecDepth 100000 in
set_option maxHeartbeats 4000000 in
theorem touINo (op sz cd fr : Int) (d s : Opd) (ln : Int) (w : World) (CI : Hid (∀ W, Below w.heap.size w W → Calls Tryz.prog 13 #[.agg #[.int .i64 op, .int .i64 sz, .int .i64 cd, .int .i64 fr, .int .i64 d.k, .int .i64 d.r, .int .i64 d.b, .int .i64 d.i, .int .i64 d.s, .int .i64 d.d, .int .i64 d.m, .int .i64 s.k, .int .i64 s.r, .int .i64 s.b, .int .i64 s.i, .int .i64 s.s, .int .i64 s.d, .int .i64 s.m, .int .i64 ln]] W fun e w' => e = .returned (.bool false) ∧ Below W.heap.size W w')) :
    Calls Tryz.prog 6 #[.agg #[.int .i64 op, .int .i64 sz, .int .i64 cd, .int .i64 fr, .int .i64 d.k, .int .i64 d.r, .int .i64 d.b, .int .i64 d.i, .int .i64 d.s, .int .i64 d.d, .int .i64 d.m, .int .i64 s.k, .int .i64 s.r, .int .i64 s.b, .int .i64 s.i, .int .i64 s.s, .int .i64 s.d, .int .i64 s.m, .int .i64 ln]] w fun e w' => ∃ v, e = .returned (.tuple (touV false v false false false)) ∧ w'.ownsRow w.heap.size 3 1 v (if false then ([] : List Int) else []).length ((if false then ([] : List Int) else []).map (fun i => .int .i64 i)) ∧ Below w.heap.size w w' := by
  have R0 := Lib.hid (show (((w.alloc (.cells #[.int .i64 op, .int .i64 sz, .int .i64 cd, .int .i64 fr, .int .i64 d.k, .int .i64 d.r, .int .i64 d.b, .int .i64 d.i, .int .i64 d.s, .int .i64 d.d, .int .i64 d.m, .int .i64 s.k, .int .i64 s.r, .int .i64 s.b, .int .i64 s.i, .int .i64 s.s, .int .i64 s.d, .int .i64 s.m, .int .i64 ln] 33)).alloc (.cells #[.slice none 0 0, .bool false, .bool false, .bool false] 28))).heap[w.heap.size]? = some (.cells #[.int .i64 op, .int .i64 sz, .int .i64 cd, .int .i64 fr, .int .i64 d.k, .int .i64 d.r, .int .i64 d.b, .int .i64 d.i, .int .i64 d.s, .int .i64 d.d, .int .i64 d.m, .int .i64 s.k, .int .i64 s.r, .int .i64 s.b, .int .i64 s.i, .int .i64 s.s, .int .i64 s.d, .int .i64 s.m, .int .i64 ln] 33 (0, 0)) from (Below.heap_alloc _ _ _ (by simp)).trans (heap_alloc_new w _))
  have Z0 := Lib.hid (show (((w.alloc (.cells #[.int .i64 op, .int .i64 sz, .int .i64 cd, .int .i64 fr, .int .i64 d.k, .int .i64 d.r, .int .i64 d.b, .int .i64 d.i, .int .i64 d.s, .int .i64 d.d, .int .i64 d.m, .int .i64 s.k, .int .i64 s.r, .int .i64 s.b, .int .i64 s.i, .int .i64 s.s, .int .i64 s.d, .int .i64 s.m, .int .i64 ln] 33)).alloc (.cells #[.slice none 0 0, .bool false, .bool false, .bool false] 28))).heap[w.heap.size + 1]? = some (.cells #[.slice none 0 0, .bool false, .bool false, .bool false] 28 (0, 0)) from by simpa using heap_alloc_new (w.alloc (.cells #[.int .i64 op, .int .i64 sz, .int .i64 cd, .int .i64 fr, .int .i64 d.k, .int .i64 d.r, .int .i64 d.b, .int .i64 d.i, .int .i64 d.s, .int .i64 d.d, .int .i64 d.m, .int .i64 s.k, .int .i64 s.r, .int .i64 s.b, .int .i64 s.i, .int .i64 s.s, .int .i64 s.d, .int .i64 s.m, .int .i64 ln] 33)) (.cells #[.slice none 0 0, .bool false, .bool false, .bool false] 28))
  have B0 := Lib.hid (show Below w.heap.size w ((w.alloc (.cells #[.int .i64 op, .int .i64 sz, .int .i64 cd, .int .i64 fr, .int .i64 d.k, .int .i64 d.r, .int .i64 d.b, .int .i64 d.i, .int .i64 d.s, .int .i64 d.d, .int .i64 d.m, .int .i64 s.k, .int .i64 s.r, .int .i64 s.b, .int .i64 s.i, .int .i64 s.s, .int .i64 s.d, .int .i64 s.m, .int .i64 ln] 33)).alloc (.cells #[.slice none 0 0, .bool false, .bool false, .bool false] 28)) from ((Below.refl _ _).alloc (Nat.le_refl _) _).alloc (by simp) _)
  go_enter Tryz.func6, Tryz.ntmps6
  go_wp2_with (first | refine wpList_load_row rfl 33 (.tmp 1) rfl w.heap.size rfl 33 #[.int .i64 op, .int .i64 sz, .int .i64 cd, .int .i64 fr, .int .i64 d.k, .int .i64 d.r, .int .i64 d.b, .int .i64 d.i, .int .i64 d.s, .int .i64 d.d, .int .i64 d.m, .int .i64 s.k, .int .i64 s.r, .int .i64 s.b, .int .i64 s.i, .int .i64 s.s, .int .i64 s.d, .int .i64 s.m, .int .i64 ln] (0, 0) _ R0.out Tryz.underlying33 rfl (by kernel_rfl) ?_ | refine load_rowT (by rfl) 33 (.tmp 1) rfl w.heap.size rfl 33 #[.int .i64 op, .int .i64 sz, .int .i64 cd, .int .i64 fr, .int .i64 d.k, .int .i64 d.r, .int .i64 d.b, .int .i64 d.i, .int .i64 d.s, .int .i64 d.d, .int .i64 d.m, .int .i64 s.k, .int .i64 s.r, .int .i64 s.b, .int .i64 s.i, .int .i64 s.s, .int .i64 s.d, .int .i64 s.m, .int .i64 ln] (0, 0) _ R0.out Tryz.underlying33 rfl (by kernel_rfl) ?_)
  refine (CI.out _ B0.out).mono ?_
  rintro e w1 ⟨rfl, hb⟩
  have B1 := Lib.hid (B0.out.trans (hb.mono B0.out.size))
  have R1 := Lib.hid ((hb.block _ (lt_of_blk R0.out)).trans R0.out)
  have Z1 := Lib.hid ((hb.block _ (lt_of_blk Z0.out)).trans Z0.out)
  clear hb
  go_wp2_with (first | (refine wpList_store_row rfl 28 (.tmp 2) (.tmp 9) rfl (w.heap.size + 1) #[.slice none 0 0, .bool false, .bool false, .bool false] rfl rfl 28 _ Z1.out (by kernel_rfl) rfl (by kernel_rfl) ?_))
  refine bodyPost_ret (v := .tuple #[.agg #[.slice none 0 0, .bool false, .bool false, .bool false], .int .i64 1]) (by exact results_cell_row2 Tryz.results6 _ _ (w.heap.size + 1) 28 #[.slice none 0 0, .bool false, .bool false, .bool false] (0, 0) _ rfl (setRow_heap _ _ _ _ _ _ Z1.out) Tryz.underlying28 rfl (by kernel_rfl)) (by rfl) ⟨_, rfl, World.ownsRow_nil _ _ _ _, Go.below_setRow B1.out (by omega) _⟩
theorem tou_form {b r wt st : Bool} {v : Value} {w : World} {B : Nat} {L : List Int} {e : Ending} (he : e = .returned (.tuple (touV b v r wt st))) (ho : w.ownsRow B 3 1 v (if b then L else []).length ((if b then L else []).map (fun i => .int .i64 i))) :
    ∃ p c, e = .returned (.tuple #[.agg #[.slice p (if b then L else []).length c, .bool (b && r), .bool (b && wt), .bool (b && st)], .int .i64 (if b then 0 else 1)]) ∧ (b = false → True) ∧ w.ownsRow B 3 1 (.slice p (if b then L else []).length c) (if b then L else []).length ((if b then L else []).map (fun i => .int .i64 i)) := by
  obtain ⟨p, c, rfl⟩ := form_ownT ho
  cases b
  · exact ⟨none, 0, by rw [he]; rfl, fun _ => trivial, World.ownsRow_nil _ _ _ _⟩
  · exact ⟨p, c, by rw [he]; rfl, fun _ => trivial, ho⟩
set_option maxHeartbeats 2000000 in
theorem alikeTouchOf (x : Ins) (w : World) (aR : Addr) (he : Env w aR) : ∃ (L : List Int) (r wt st : Bool) (k : Int), L.length ≤ 16 ∧ (∀ W, Calls Tryz.prog 4 #[.agg (insV x)] W fun e w' => ∃ p c, e = .returned (.tuple #[.agg #[.slice p L.length c, .bool r, .bool wt, .bool st], .int .i64 k]) ∧ w'.ownsRow W.heap.size 3 1 (.slice p L.length c) L.length (L.map (fun i => .int .i64 i)) ∧ Below W.heap.size W w') ∧ (∀ W, Below w.heap.size w W → Calls Tryz.prog 6 #[.agg (insV x)] W fun e w' => ∃ p c, e = .returned (.tuple #[.agg #[.slice p L.length c, .bool r, .bool wt, .bool st], .int .i64 k]) ∧ w'.ownsRow W.heap.size 3 1 (.slice p L.length c) L.length (L.map (fun i => .int .i64 i)) ∧ Below W.heap.size W w') := by
  obtain ⟨op, sz, cd, fr, d, s, ln⟩ := x
  by_cases hb : okS ⟨op, sz, cd, fr, d, s, ln⟩ = true
  · have hp := ok_parts hb
    obtain ⟨m, hm16, hm⟩ : ∃ m : Nat, m < 16 ∧ d.r.tmod 16 = (m : Int) := by
      obtain ⟨a, ha⟩ := Int.eq_ofNat_of_zero_le (opd_regT hp.2.2.1); simp only at ha; exact ⟨a % 16, Nat.mod_lt _ (by decide), by rw [ha]; rfl⟩
    obtain ⟨n, hn16, hn⟩ : ∃ m : Nat, m < 16 ∧ s.r.tmod 16 = (m : Int) := by
      obtain ⟨a, ha⟩ := Int.eq_ofNat_of_zero_le (opd_regT hp.2.2.2); simp only at ha; exact ⟨a % 16, Nat.mod_lt _ (by decide), by rw [ha]; rfl⟩
    have CR := Lib.hid (fun W => hitRegsS op sz cd fr d s ln m n (d.k == 1) ((op != 8) && (op != 10)) W rfl rfl hm hm16 (fun _ => ⟨hn, hn16⟩))
    have hE : (fun i : Nat => (tget (toG ⟨op, sz, cd, fr, d, s, ln⟩) (i : Int)).2) = hsw op sz n (if (d.k == 1) && ((op != 8) && (op != 10)) then hup (fun _ => false) m else fun _ => false) := funext fun k => hits_eq hb m n k hm (fun _ => hn)
    have hM := toG_mem hb
    simp only at hM
    generalize hh : hsw op sz n (if (d.k == 1) && ((op != 8) && (op != 10)) then hup (fun _ => false) m else fun _ => false) = H at CR hE
    have KS := fun W => touS op sz cd fr d s ln W (regL H 16) (okS ⟨op, sz, cd, fr, d, s, ln⟩) (rdS op (d.k == 2) (s.k == 2)) (wtS op (d.k == 2) ((op != 8) && (op != 10))) (stk op) (Lib.hid (fun W' => okC5 ⟨op, sz, cd, fr, d, s, ln⟩ W')) (Lib.hid (fun _ W => touch0S op sz cd fr d s ln W (regL H 16) (d.k == 2) (s.k == 2) ((op != 8) && (op != 10)) rfl rfl rfl CR))
    have KI := fun W (hW : Below w.heap.size w W) => touI op sz cd fr d s ln W (okS ⟨op, sz, cd, fr, d, s, ln⟩) (Lib.hid (fun W' hW' => by have := instrI ⟨op, sz, cd, fr, d, s, ln⟩ W' aR (he.below (hW.trans (hW'.mono hW.size))); rwa [ins_eq] at this)) (toG_range hb)
    rw [hE, show (tget (toG ⟨op, sz, cd, fr, d, s, ln⟩) (-1)).1 = rdS op (d.k == 2) (s.k == 2) from by rw [hM]; rfl, show (tget (toG ⟨op, sz, cd, fr, d, s, ln⟩) (-1)).2 = wtS op (d.k == 2) ((op != 8) && (op != 10)) from by rw [hM]; rfl] at KI
    rw [hb] at KS KI
    refine ⟨regL H 16, rdS op (d.k == 2) (s.k == 2), wtS op (d.k == 2) ((op != 8) && (op != 10)), stk op, 0, regL_len _ 16, fun W => ?_, fun W hW => ?_⟩
    · refine (KS W).mono ?_
      rintro e w' ⟨v, he, ho, hbl⟩
      obtain ⟨p, c, e1, _, e2⟩ := tou_form he ho
      exact ⟨p, c, e1, e2, hbl⟩
    · refine (KI W hW).mono ?_
      rintro e w' ⟨v, he, ho, hbl⟩
      obtain ⟨p, c, e1, _, e2⟩ := tou_form he ho
      exact ⟨p, c, e1, e2, hbl⟩
  · have hb' : okS ⟨op, sz, cd, fr, d, s, ln⟩ = false := Bool.eq_false_iff.mpr hb
    refine ⟨[], false, false, false, 1, by simp, fun W => ?_, fun W hW => ?_⟩
    · refine (touS op sz cd fr d s ln W [] false false false false (Lib.hid (fun W' => by have := okC5 ⟨op, sz, cd, fr, d, s, ln⟩ W'; rwa [hb'] at this)) (Lib.hid (fun h => by cases h))).mono ?_
      rintro e w' ⟨v, he, ho, hbl⟩
      obtain ⟨p, c, e1, _, e2⟩ := tou_form he ho
      exact ⟨p, c, e1, e2, hbl⟩
    · refine (touINo op sz cd fr d s ln W (Lib.hid (fun W' hW' => by have := instrI ⟨op, sz, cd, fr, d, s, ln⟩ W' aR (he.below (hW.trans (hW'.mono hW.size))); rwa [ins_eq, hb'] at this))).mono ?_
      rintro e w' ⟨v, he, ho, hbl⟩
      obtain ⟨p, c, e1, _, e2⟩ := tou_form (L := []) (b := false) (r := false) (wt := false) (st := false) he ho
      exact ⟨p, c, e1, e2, hbl⟩
end Go.Proofs.YtjnjlgaemmdkhaaGreatDoor
