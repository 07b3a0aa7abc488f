/-
  What an instruction touches, told by the program's map and by the specification's sixteen bools: they are one; no condition but those in each head.
  WritesReg of impl and of spec answer alike; conditions: those in each head.
-/
import Derived.Test.YtjnjlgaemmdkhaaDoorWalkTm3
import Derived.Test.YtjnjlgaemmdkhaaDoorWalkTs
import Derived.Test.YtjnjlgaemmdkhaaDoorWalkTo4
namespace Go.Proofs.YtjnjlgaemmdkhaaDoor
open Go.RowKit
set_option linter.unusedVariables false
set_option linter.unusedSimpArgs false
def twr (g : Int → Option (Bool × Bool)) (k : Int) : Bool := (tget g k).2
theorem twr_add (q : Bool × Bool) (p : Int) (g : Int → Option (Bool × Bool)) (k : Int) : twr (tadd q p g) k = (twr g k || (decide (k = p) && q.2)) := by
  unfold twr tget tadd
  by_cases e : k = p
  · subst e; rw [if_pos rfl, decide_eq_true rfl]; simp [tor, tget]
  · rw [if_neg e, decide_eq_false e]; simp
theorem twr_del (p : Int) (g : Int → Option (Bool × Bool)) (k : Int) : twr (tdel p g) k = (twr g k && !decide (k = p)) := by
  unfold twr tget tdel
  by_cases e : k = p
  · rw [if_pos e, decide_eq_true e]; simp
  · rw [if_neg e, decide_eq_false e]; simp
theorem twr_nil (k : Int) : twr (fun _ => none) k = false := rfl
theorem twr_opd (x : Opd) (q : Bool × Bool) (g : Int → Option (Bool × Bool)) (k : Int) (hk : 0 ≤ k) : twr (topd x q g) k = (twr g k || (decide (x.k = 1) && (decide (k = x.r.tmod 16) && q.2))) := by
  unfold topd
  by_cases h1 : x.k = 1
  · rw [if_pos h1, twr_add, decide_eq_true h1, Bool.true_and]
  · rw [if_neg h1, decide_eq_false h1, Bool.false_and, Bool.or_false]
    by_cases h2 : x.k = 2
    · rw [if_pos h2, twr_add, decide_eq_false (by omega : ¬ k = -1)]; simp
    · rw [if_neg h2]
theorem dstQ_w (op : Int) : (dstQ op).2 = ((op != 8) && (op != 10)) := by
  unfold dstQ
  by_cases h : op = 8 ∨ op = 10
  · rw [if_pos h]; rcases h with rfl | rfl <;> rfl
  · rw [if_neg h]
    have h1 : (op != 8) = true := bne_iff_ne.mpr (fun e => h (.inl e))
    have h2 : (op != 10) = true := bne_iff_ne.mpr (fun e => h (.inr e))
    rw [h1, h2]; split <;> rfl
theorem srcQ_w (op : Int) : (srcQ op).2 = decide (op = 28) := by
  unfold srcQ
  by_cases h : op = 25
  · subst h; rfl
  · rw [if_neg h]
    by_cases h2 : op = 28
    · subst h2; rfl
    · rw [if_neg h2, decide_eq_false h2]
/-- what the tables make sure of here -/
theorem op_facts {x : Ins} (h : okS x = true) : (x.op = 28 → x.s.k = 1) ∧ ((x.op = 13 ∨ x.op = 14 ∨ x.op = 15 ∨ x.op = 16 ∨ x.op = 40) → 1 ≤ x.sz) ∧ (x.op = 40 → x.sz ≠ 1) := by
  have hp := ok_parts h
  have hb := hp.2.1
  unfold shapeB at hb
  rw [Bool.and_eq_true, Bool.and_eq_true] at hb
  obtain ⟨hz, hk, _⟩ := hb
  refine ⟨fun e => ?_, fun e => ?_, fun e => ?_⟩
  · obtain ⟨ra, rb⟩ := kin_range hk
    rw [e] at hk
    rcases rb with rb | rb | rb | rb
    · rw [rb] at hk; rcases ra with ra | ra | ra | ra <;> rw [ra] at hk <;> exact absurd hk (by decide +kernel)
    · exact rb
    · rw [rb] at hk; rcases ra with ra | ra | ra | ra <;> rw [ra] at hk <;> exact absurd hk (by decide +kernel)
    · rw [rb] at hk; rcases ra with ra | ra | ra | ra <;> rw [ra] at hk <;> exact absurd hk (by decide +kernel)
  · have hm : (patOf x.op).m ≠ 0 := by rcases e with e | e | e | e | e <;> rw [e] <;> decide +kernel
    unfold szK at hz
    rw [if_neg hm] at hz
    have := of_decide_eq_true hz
    omega
  · have hm : (patOf x.op).m = 14 := by rw [e]; decide +kernel
    rw [hm, sz14] at hz
    simp only [Bool.and_eq_true, decide_eq_true_eq] at hz
    omega
theorem tun_w (op : Int) (k : Nat) : twr (tun op (fun _ => none)) (k : Int) = (if op = 13 ∨ op = 14 ∨ op = 15 ∨ op = 16 then (decide (k = 0) || decide (k = 2)) else if op = 39 then decide (k = 0) else if op = 40 then decide (k = 2) else if op = 41 then decide (k = 7) else if op = 42 then (decide (k = 6) || decide (k = 7)) else if op = 29 ∨ op = 31 then decide (k = 4) else if op = 30 ∨ op = 34 then decide (k = 4) else false) := by
  have c0 : decide ((k : Int) = 0) = decide (k = 0) := decide_eq_decide.mpr (by omega)
  have c2 : decide ((k : Int) = 2) = decide (k = 2) := decide_eq_decide.mpr (by omega)
  have c4 : decide ((k : Int) = 4) = decide (k = 4) := decide_eq_decide.mpr (by omega)
  have c6 : decide ((k : Int) = 6) = decide (k = 6) := decide_eq_decide.mpr (by omega)
  have c7 : decide ((k : Int) = 7) = decide (k = 7) := decide_eq_decide.mpr (by omega)
  have cm : decide ((k : Int) = -1) = false := decide_eq_false (by omega)
  unfold tun
  repeat' split
  all_goals simp_all [twr_add, twr_nil]
/-- the two tell the same registers -/
theorem hits_eq {x : Ins} (h : okS x = true) (m n k : Nat) (hm : x.d.r.tmod 16 = (m : Int)) (hn : x.op = 28 → x.s.r.tmod 16 = (n : Int)) :
    twr (toG x) (k : Int) = hsw x.op x.sz n (if (x.d.k == 1) && ((x.op != 8) && (x.op != 10)) then hup (fun _ => false) m else fun _ => false) k := by
  obtain ⟨f1, f2, f3⟩ := op_facts h
  obtain ⟨op, sz, cd, fr, d, s, ln⟩ := x
  simp only at hm hn f1 f2 f3 ⊢
  have hD : ((if (d.k == 1) && ((op != 8) && (op != 10)) then hup (fun _ => false) m else fun _ => false) k) = (decide (d.k = 1) && (decide (k = m) && ((op != 8) && (op != 10)))) := by
    by_cases e : d.k = 1
    · rw [beq_iff_eq.mpr e, decide_eq_true e]
      cases (op != 8) && (op != 10)
      · simp
      · by_cases e2 : k = m <;> simp [hup, e2]
    · rw [beq_eq_false_iff_ne.mpr e, decide_eq_false e]; rfl
  generalize hh : (if (d.k == 1) && ((op != 8) && (op != 10)) then hup (fun _ => false) m else fun _ => false) = h0 at hD ⊢
  have hX : decide ((k : Int) = d.r.tmod 16) = decide (k = m) := decide_eq_decide.mpr (by rw [hm]; omega)
  unfold toG
  simp only
  rw [twr_opd _ _ _ _ (by omega), twr_opd _ _ _ _ (by omega), dstQ_w, srcQ_w, hX, ← hD]
  have hG : twr (if sz = 1 then tdel 2 (tun op (fun _ => none)) else tun op (fun _ => none)) (k : Int) = (twr (tun op (fun _ => none)) (k : Int) && !(decide (sz = 1) && decide (k = 2))) := by
    by_cases e : sz = 1
    · rw [if_pos e, twr_del, decide_eq_true e, Bool.true_and]; congr 2; exact decide_eq_decide.mpr (by omega)
    · rw [if_neg e, decide_eq_false e]; simp
  rw [hG, tun_w]
  clear hG hX hD hh hm
  unfold hsw
  by_cases e28 : op = 28
  · subst e28
    have e1 := f1 rfl
    have hN : decide ((k : Int) = s.r.tmod 16) = decide (k = n) := decide_eq_decide.mpr (by rw [hn rfl]; omega)
    rw [hN, e1]
    by_cases e2 : k = n <;> simp [hup, e2]
  · rw [if_neg e28, decide_eq_false e28]
    by_cases e13 : op = 13 ∨ op = 14 ∨ op = 15 ∨ op = 16
    · have hz := f2 (by omega)
      rw [if_pos e13, if_pos e13]
      by_cases e1 : sz = 1
      · rw [if_neg (by omega), decide_eq_true e1]
        by_cases k0 : k = 0
        · subst k0; simp [hup]
        · by_cases k2 : k = 2 <;> simp [hup, k0, k2]
      · rw [if_pos (by omega), decide_eq_false e1]
        by_cases k0 : k = 0
        · subst k0; simp [hup]
        · by_cases k2 : k = 2 <;> simp [hup, k0, k2]
    · rw [if_neg e13, if_neg e13]
      have go (c : Nat) (hc : c ≠ 2) : (decide (k = c) && !(decide (sz = 1) && decide (k = 2)) || h0 k || (decide (s.k = 1) && (decide ((k : Int) = s.r.tmod 16) && false))) = hup h0 c k := by
        by_cases e : k = c
        · subst e; simp [hup, hc]
        · simp [hup, e]
      by_cases e39 : op = 39
      · rw [if_pos e39, if_pos e39]; exact go 0 (by omega)
      · rw [if_neg e39, if_neg e39]
        by_cases e40 : op = 40
        · have := f3 e40
          rw [if_pos e40, if_pos e40, decide_eq_false this]
          by_cases e : k = 2 <;> simp [hup, e]
        · rw [if_neg e40, if_neg e40]
          by_cases e41 : op = 41
          · rw [if_pos e41, if_pos e41]; exact go 7 (by omega)
          · rw [if_neg e41, if_neg e41]
            by_cases e42 : op = 42
            · rw [if_pos e42, if_pos e42]
              by_cases e : k = 6
              · subst e; simp [hup]
              · by_cases e' : k = 7 <;> simp [hup, e, e']
            · rw [if_neg e42, if_neg e42]
              by_cases e29 : op = 29 ∨ op = 31
              · rw [if_pos e29, if_pos (by omega)]; exact go 4 (by omega)
              · rw [if_neg e29]
                by_cases e30 : op = 30 ∨ op = 34
                · rw [if_pos e30, if_pos (by omega)]; exact go 4 (by omega)
                · rw [if_neg e30, if_neg (by omega)]; simp
theorem mem_regL (h : Nat → Bool) (k : Nat) (hk : k < 16) : decide ((k : Int) ∈ regL h 16) = h k := by
  unfold regL
  cases hb : h k
  · refine decide_eq_false ?_
    intro hm
    obtain ⟨i, hi, e⟩ := List.mem_map.1 hm
    obtain rfl : i = k := by omega
    rw [(List.mem_filter.1 hi).2] at hb; cases hb
  · exact decide_eq_true (List.mem_map.2 ⟨k, List.mem_filter.2 ⟨List.mem_range.2 hk, hb⟩, rfl⟩)
end Go.Proofs.YtjnjlgaemmdkhaaDoor
namespace Go.Proofs.YtjnjlgaemmdkhaaDoor
open Go.RowKit Go.Sort
set_option linter.unusedVariables false
set_option linter.unusedSimpArgs false
set_option maxRecDepth 100000 in
set_option maxHeartbeats 2000000 in
theorem hitsS (op sz cd fr : Int) (d s : Opd) (ln : Int) (w : World) (reg : Int) (L : List Int) (hL : L.length ≤ 16) (CR : Hid (∀ W, Calls Tryd.prog 44 #[.agg #[.int .i64 op, .int .i64 sz, .int .i64 cd, .int .i64 fr, .int .i64 d.k, .int .i64 d.r, .int .i64 d.b, .int .i64 d.i, .int .i64 d.s, .int .i64 d.d, .int .i64 d.m, .int .i64 s.k, .int .i64 s.r, .int .i64 s.b, .int .i64 s.i, .int .i64 s.s, .int .i64 s.d, .int .i64 s.m, .int .i64 ln]] W fun e w' => ∃ v, e = .returned v ∧ w'.ownsRow W.heap.size 3 1 v L.length (L.map (fun i => .int .i64 i)) ∧ Below W.heap.size W w')) :
    Calls Tryd.prog 25 #[.agg #[.int .i64 op, .int .i64 sz, .int .i64 cd, .int .i64 fr, .int .i64 d.k, .int .i64 d.r, .int .i64 d.b, .int .i64 d.i, .int .i64 d.s, .int .i64 d.d, .int .i64 d.m, .int .i64 s.k, .int .i64 s.r, .int .i64 s.b, .int .i64 s.i, .int .i64 s.s, .int .i64 s.d, .int .i64 s.m, .int .i64 ln], .int .i64 reg] w fun e w' => e = .returned (.bool (decide (reg ∈ L))) ∧ Below w.heap.size w w' := by
  have R0 := Lib.hid (heap_alloc_new w (.cells #[.int .i64 op, .int .i64 sz, .int .i64 cd, .int .i64 fr, .int .i64 d.k, .int .i64 d.r, .int .i64 d.b, .int .i64 d.i, .int .i64 d.s, .int .i64 d.d, .int .i64 d.m, .int .i64 s.k, .int .i64 s.r, .int .i64 s.b, .int .i64 s.i, .int .i64 s.s, .int .i64 s.d, .int .i64 s.m, .int .i64 ln] 30))
  have B0 := Lib.hid (belA w (.cells #[.int .i64 op, .int .i64 sz, .int .i64 cd, .int .i64 fr, .int .i64 d.k, .int .i64 d.r, .int .i64 d.b, .int .i64 d.i, .int .i64 d.s, .int .i64 d.d, .int .i64 d.m, .int .i64 s.k, .int .i64 s.r, .int .i64 s.b, .int .i64 s.i, .int .i64 s.s, .int .i64 s.d, .int .i64 s.m, .int .i64 ln] 30))
  obtain ⟨V, hV⟩ : ∃ V, V = decide (reg ∈ L) := ⟨_, rfl⟩
  rw [← hV]
  have HV := Lib.hid hV
  clear hV
  go_enter Tryd.func25, Tryd.ntmps25
  go_wp2_with (first | refine wpList_load_row rfl 30 (.tmp 2) rfl w.heap.size rfl 30 #[.int .i64 op, .int .i64 sz, .int .i64 cd, .int .i64 fr, .int .i64 d.k, .int .i64 d.r, .int .i64 d.b, .int .i64 d.i, .int .i64 d.s, .int .i64 d.d, .int .i64 d.m, .int .i64 s.k, .int .i64 s.r, .int .i64 s.b, .int .i64 s.i, .int .i64 s.s, .int .i64 s.d, .int .i64 s.m, .int .i64 ln] (0, 0) _ R0.out Tryd.underlying30 rfl (by kernel_rfl) ?_ | refine load_rowT (by rfl) 30 (.tmp 2) rfl w.heap.size rfl 30 #[.int .i64 op, .int .i64 sz, .int .i64 cd, .int .i64 fr, .int .i64 d.k, .int .i64 d.r, .int .i64 d.b, .int .i64 d.i, .int .i64 d.s, .int .i64 d.d, .int .i64 d.m, .int .i64 s.k, .int .i64 s.r, .int .i64 s.b, .int .i64 s.i, .int .i64 s.s, .int .i64 s.d, .int .i64 s.m, .int .i64 ln] (0, 0) _ R0.out Tryd.underlying30 rfl (by kernel_rfl) ?_)
  refine (CR.out _).mono ?_
  rintro e w1 ⟨v, rfl, ho, hb⟩
  have B1 := Lib.hid (B0.out.trans (hb.mono B0.out.size))
  clear hb
  rcases ho.2 with ⟨rfl, h0⟩ | ⟨g, cap, cur, rfl, _⟩
  · have hnil : L = [] := List.eq_nil_of_length_eq_zero h0
    clear ho
    go_wp2
    refine wp_loop_rounds 1 ?_
    rw [rounds_succ]
    go_wp2
    go_ret
    exact ⟨ret_bv HV (by rw [hnil]; rfl), B1.out⟩
  · have HO := Lib.hid ho
    clear ho
    go_wp2
    go_loopw [6] (fun i wr => ∃ k : Nat, i = .int .i64 (k : Int) ∧ k ≤ L.length ∧ Hid (∀ j, j < k → L[j]? ≠ some reg) ∧ wr = w1) (fun i _ => L.length - (intOf i).toNat)
    case atStart => exact ⟨0, rfl, Nat.zero_le _, Lib.hid (fun j hj => by omega), rfl⟩
    case round =>
      obtain ⟨k, rfl, hk, HN, rfl⟩ := hrel
      by_cases hlt : k < L.length
      · have hk' : (k : Int) < (L.length : Int) := by omega
        obtain ⟨z, hz⟩ : ∃ z, L[k]? = some z := ⟨_, List.getElem?_eq_getElem hlt⟩
        have c : wr.cell? ⟨g, k, none⟩ = some (.int .i64 z) := by rw [HO.out.cellAt k (by omega), List.getElem?_map, hz]; rfl
        have HZ := Lib.hid hz
        clear hz
        by_cases he : z = reg
        · have he' : (z == reg) = true := beq_iff_eq.mpr he
          clear he
          go_wp2
          go_ret
          exact ⟨ret_bv HV (decide_eq_true (by rw [← beq_iff_eq.mp he']; exact List.mem_of_getElem? HZ.out)), B1.out⟩
        · have he' : (z == reg) = false := beq_eq_false_iff_ne.mpr he
          have HE := Lib.hid he
          clear he
          go_wp2
          go_roundw
          case rel => exact ⟨k + 1, by go_num, by omega, Lib.hid (fun j hj => by
            rcases Nat.lt_or_ge j k with h | h
            · exact HN.out j h
            · obtain rfl : j = k := by omega
              rw [HZ.out]; exact fun e => HE.out (Option.some.inj e)), (by first | rfl | trivial)⟩
          case measure => simp [intOf]; omega
      · obtain rfl : k = L.length := by omega
        go_wp2
        go_ret
        have hno : decide (reg ∈ L) = false := decide_eq_false (fun hm => by
          obtain ⟨j, hj, e⟩ := List.getElem_of_mem hm
          exact HN.out j hj (by rw [List.getElem?_eq_getElem hj, e]))
        exact ⟨ret_bv HV hno, B1.out⟩
def wrV (b ok h : Bool) : Array Value := match b, ok, h with
  | false, _, _ => #[.bool false, .int .i64 1]
  | true, false, _ => #[.bool false, .int .i64 4]
  | true, true, h => #[.bool h, .int .i64 0]
set_option maxRecDepth 100000 in
set_option maxHeartbeats 2000000 in
theorem wrS (op sz cd fr : Int) (d s : Opd) (ln : Int) (w : World) (reg : Int) (b ok h : Bool) (CI : Hid (∀ W, Calls Tryd.prog 23 #[.agg #[.int .i64 op, .int .i64 sz, .int .i64 cd, .int .i64 fr, .int .i64 d.k, .int .i64 d.r, .int .i64 d.b, .int .i64 d.i, .int .i64 d.s, .int .i64 d.d, .int .i64 d.m, .int .i64 s.k, .int .i64 s.r, .int .i64 s.b, .int .i64 s.i, .int .i64 s.s, .int .i64 s.d, .int .i64 s.m, .int .i64 ln]] W fun e w' => e = .returned (.bool b) ∧ Below W.heap.size W w')) (CN : Hid (∀ W, Calls Tryd.prog 24 #[.int .i64 reg, .int .i64 0, .int .i64 15] W fun e w' => e = .returned (.bool ok) ∧ w' = W)) (CH0 : Hid (b = true → ∀ W, Calls Tryd.prog 25 #[.agg #[.int .i64 op, .int .i64 sz, .int .i64 cd, .int .i64 fr, .int .i64 d.k, .int .i64 d.r, .int .i64 d.b, .int .i64 d.i, .int .i64 d.s, .int .i64 d.d, .int .i64 d.m, .int .i64 s.k, .int .i64 s.r, .int .i64 s.b, .int .i64 s.i, .int .i64 s.s, .int .i64 s.d, .int .i64 s.m, .int .i64 ln], .int .i64 reg] W fun e w' => e = .returned (.bool h) ∧ Below W.heap.size W w')) :
    Calls Tryd.prog 9 #[.agg #[.int .i64 op, .int .i64 sz, .int .i64 cd, .int .i64 fr, .int .i64 d.k, .int .i64 d.r, .int .i64 d.b, .int .i64 d.i, .int .i64 d.s, .int .i64 d.d, .int .i64 d.m, .int .i64 s.k, .int .i64 s.r, .int .i64 s.b, .int .i64 s.i, .int .i64 s.s, .int .i64 s.d, .int .i64 s.m, .int .i64 ln], .int .i64 reg] w fun e w' => e = .returned (.tuple (wrV b ok h)) ∧ Below w.heap.size w w' := by
  have R0 := Lib.hid (heap_alloc_new w (.cells #[.int .i64 op, .int .i64 sz, .int .i64 cd, .int .i64 fr, .int .i64 d.k, .int .i64 d.r, .int .i64 d.b, .int .i64 d.i, .int .i64 d.s, .int .i64 d.d, .int .i64 d.m, .int .i64 s.k, .int .i64 s.r, .int .i64 s.b, .int .i64 s.i, .int .i64 s.s, .int .i64 s.d, .int .i64 s.m, .int .i64 ln] 30))
  have B0 := Lib.hid (belA w (.cells #[.int .i64 op, .int .i64 sz, .int .i64 cd, .int .i64 fr, .int .i64 d.k, .int .i64 d.r, .int .i64 d.b, .int .i64 d.i, .int .i64 d.s, .int .i64 d.d, .int .i64 d.m, .int .i64 s.k, .int .i64 s.r, .int .i64 s.b, .int .i64 s.i, .int .i64 s.s, .int .i64 s.d, .int .i64 s.m, .int .i64 ln] 30))
  go_enter Tryd.func9, Tryd.ntmps9
  go_wp2_with (first | refine wpList_load_row rfl 30 (.tmp 2) rfl w.heap.size rfl 30 #[.int .i64 op, .int .i64 sz, .int .i64 cd, .int .i64 fr, .int .i64 d.k, .int .i64 d.r, .int .i64 d.b, .int .i64 d.i, .int .i64 d.s, .int .i64 d.d, .int .i64 d.m, .int .i64 s.k, .int .i64 s.r, .int .i64 s.b, .int .i64 s.i, .int .i64 s.s, .int .i64 s.d, .int .i64 s.m, .int .i64 ln] (0, 0) _ R0.out Tryd.underlying30 rfl (by kernel_rfl) ?_ | refine load_rowT (by rfl) 30 (.tmp 2) rfl w.heap.size rfl 30 #[.int .i64 op, .int .i64 sz, .int .i64 cd, .int .i64 fr, .int .i64 d.k, .int .i64 d.r, .int .i64 d.b, .int .i64 d.i, .int .i64 d.s, .int .i64 d.d, .int .i64 d.m, .int .i64 s.k, .int .i64 s.r, .int .i64 s.b, .int .i64 s.i, .int .i64 s.s, .int .i64 s.d, .int .i64 s.m, .int .i64 ln] (0, 0) _ R0.out Tryd.underlying30 rfl (by kernel_rfl) ?_)
  refine (CI.out _).mono ?_
  rintro e w1 ⟨rfl, hb⟩
  have B1 := Lib.hid (B0.out.trans (hb.mono B0.out.size))
  have R1 := Lib.hid ((hb.block _ (lt_of_blk R0.out)).trans R0.out)
  clear hb
  cases b
  · go_wp2
    go_ret2
    exact ⟨rfl, B1.out⟩
  · have CH := Lib.hid (CH0.out rfl)
    go_wp2_with fail
    refine (CN.out _).mono ?_
    rintro e w2 ⟨rfl, rfl⟩
    cases ok
    · go_wp2
      go_ret2
      exact ⟨rfl, B1.out⟩
    · go_wp2_with (first | refine wpList_load_row rfl 30 (.tmp 2) rfl w.heap.size rfl 30 #[.int .i64 op, .int .i64 sz, .int .i64 cd, .int .i64 fr, .int .i64 d.k, .int .i64 d.r, .int .i64 d.b, .int .i64 d.i, .int .i64 d.s, .int .i64 d.d, .int .i64 d.m, .int .i64 s.k, .int .i64 s.r, .int .i64 s.b, .int .i64 s.i, .int .i64 s.s, .int .i64 s.d, .int .i64 s.m, .int .i64 ln] (0, 0) _ R1.out Tryd.underlying30 rfl (by kernel_rfl) ?_ | refine load_rowT (by rfl) 30 (.tmp 2) rfl w.heap.size rfl 30 #[.int .i64 op, .int .i64 sz, .int .i64 cd, .int .i64 fr, .int .i64 d.k, .int .i64 d.r, .int .i64 d.b, .int .i64 d.i, .int .i64 d.s, .int .i64 d.d, .int .i64 d.m, .int .i64 s.k, .int .i64 s.r, .int .i64 s.b, .int .i64 s.i, .int .i64 s.s, .int .i64 s.d, .int .i64 s.m, .int .i64 ln] (0, 0) _ R1.out Tryd.underlying30 rfl (by kernel_rfl) ?_)
      refine (CH.out _).mono ?_
      rintro e w2 ⟨rfl, hb⟩
      have B2 := Lib.hid (B1.out.trans (hb.mono B1.out.size))
      clear hb
      go_wp2
      go_ret2
      exact ⟨rfl, B2.out⟩
set_option maxRecDepth 100000 in
set_option maxHeartbeats 2000000 in
theorem wrI (op sz cd fr : Int) (d s : Opd) (ln : Int) (w : World) (reg : Int) (b ok : Bool) (CI : Hid (∀ W, Below w.heap.size w W → Calls Tryd.prog 27 #[.agg #[.int .i64 op, .int .i64 sz, .int .i64 cd, .int .i64 fr, .int .i64 d.k, .int .i64 d.r, .int .i64 d.b, .int .i64 d.i, .int .i64 d.s, .int .i64 d.d, .int .i64 d.m, .int .i64 s.k, .int .i64 s.r, .int .i64 s.b, .int .i64 s.i, .int .i64 s.s, .int .i64 s.d, .int .i64 s.m, .int .i64 ln]] W fun e w' => e = .returned (.bool b) ∧ Below W.heap.size W w')) (CN : Hid (∀ W, Below w.heap.size w W → Calls Tryd.prog 28 #[.int .i64 reg, .int .i64 8] W fun e w' => e = .returned (.bool ok) ∧ w' = W)) (hr : ok = true → (Lit.int .i64 reg).wf = true) :
    Calls Tryd.prog 11 #[.agg #[.int .i64 op, .int .i64 sz, .int .i64 cd, .int .i64 fr, .int .i64 d.k, .int .i64 d.r, .int .i64 d.b, .int .i64 d.i, .int .i64 d.s, .int .i64 d.d, .int .i64 d.m, .int .i64 s.k, .int .i64 s.r, .int .i64 s.b, .int .i64 s.i, .int .i64 s.s, .int .i64 s.d, .int .i64 s.m, .int .i64 ln], .int .i64 reg] w fun e w' => e = .returned (.tuple (wrV b ok (tany (tand (tget (toG ⟨op, sz, cd, fr, d, s, ln⟩) reg) (false, true))))) ∧ Below w.heap.size w w' := by
  have R0 := Lib.hid (heap_alloc_new w (.cells #[.int .i64 op, .int .i64 sz, .int .i64 cd, .int .i64 fr, .int .i64 d.k, .int .i64 d.r, .int .i64 d.b, .int .i64 d.i, .int .i64 d.s, .int .i64 d.d, .int .i64 d.m, .int .i64 s.k, .int .i64 s.r, .int .i64 s.b, .int .i64 s.i, .int .i64 s.s, .int .i64 s.d, .int .i64 s.m, .int .i64 ln] 30))
  have B0 := Lib.hid (belA w (.cells #[.int .i64 op, .int .i64 sz, .int .i64 cd, .int .i64 fr, .int .i64 d.k, .int .i64 d.r, .int .i64 d.b, .int .i64 d.i, .int .i64 d.s, .int .i64 d.d, .int .i64 d.m, .int .i64 s.k, .int .i64 s.r, .int .i64 s.b, .int .i64 s.i, .int .i64 s.s, .int .i64 s.d, .int .i64 s.m, .int .i64 ln] 30))
  have CT := Lib.hid (touchesC ⟨op, sz, cd, fr, d, s, ln⟩)
  go_enter Tryd.func11, Tryd.ntmps11
  go_wp2_with (first | refine wpList_load_row rfl 30 (.tmp 2) rfl w.heap.size rfl 30 #[.int .i64 op, .int .i64 sz, .int .i64 cd, .int .i64 fr, .int .i64 d.k, .int .i64 d.r, .int .i64 d.b, .int .i64 d.i, .int .i64 d.s, .int .i64 d.d, .int .i64 d.m, .int .i64 s.k, .int .i64 s.r, .int .i64 s.b, .int .i64 s.i, .int .i64 s.s, .int .i64 s.d, .int .i64 s.m, .int .i64 ln] (0, 0) _ R0.out Tryd.underlying30 rfl (by kernel_rfl) ?_ | refine load_rowT (by rfl) 30 (.tmp 2) rfl w.heap.size rfl 30 #[.int .i64 op, .int .i64 sz, .int .i64 cd, .int .i64 fr, .int .i64 d.k, .int .i64 d.r, .int .i64 d.b, .int .i64 d.i, .int .i64 d.s, .int .i64 d.d, .int .i64 d.m, .int .i64 s.k, .int .i64 s.r, .int .i64 s.b, .int .i64 s.i, .int .i64 s.s, .int .i64 s.d, .int .i64 s.m, .int .i64 ln] (0, 0) _ R0.out Tryd.underlying30 rfl (by kernel_rfl) ?_)
  refine (CI.out _ B0.out).mono ?_
  rintro e w1 ⟨rfl, hb⟩
  have B1 := Lib.hid (B0.out.trans (hb.mono B0.out.size))
  have R1 := Lib.hid ((hb.block _ (lt_of_blk R0.out)).trans R0.out)
  clear hb
  cases b
  · go_wp2
    go_ret2
    exact ⟨rfl, B1.out⟩
  · go_wp2_with fail
    refine (CN.out _ B1.out).mono ?_
    rintro e w2 ⟨rfl, rfl⟩
    cases ok
    · go_wp2
      go_ret2
      exact ⟨rfl, B1.out⟩
    · go_wp2_with (first | refine wpList_load_row rfl 30 (.tmp 2) rfl w.heap.size rfl 30 #[.int .i64 op, .int .i64 sz, .int .i64 cd, .int .i64 fr, .int .i64 d.k, .int .i64 d.r, .int .i64 d.b, .int .i64 d.i, .int .i64 d.s, .int .i64 d.d, .int .i64 d.m, .int .i64 s.k, .int .i64 s.r, .int .i64 s.b, .int .i64 s.i, .int .i64 s.s, .int .i64 s.d, .int .i64 s.m, .int .i64 ln] (0, 0) _ R1.out Tryd.underlying30 rfl (by kernel_rfl) ?_ | refine load_rowT (by rfl) 30 (.tmp 2) rfl w.heap.size rfl 30 #[.int .i64 op, .int .i64 sz, .int .i64 cd, .int .i64 fr, .int .i64 d.k, .int .i64 d.r, .int .i64 d.b, .int .i64 d.i, .int .i64 d.s, .int .i64 d.d, .int .i64 d.m, .int .i64 s.k, .int .i64 s.r, .int .i64 s.b, .int .i64 s.i, .int .i64 s.s, .int .i64 s.d, .int .i64 s.m, .int .i64 ln] (0, 0) _ R1.out Tryd.underlying30 rfl (by kernel_rfl) ?_)
      refine (CT.out _).mono ?_
      rintro e w2 ⟨rfl, T2⟩
      have B2 := Lib.hid (B1.out.trans (T2.be.mono B1.out.size))
      have CHh := hasC (false, true) reg (hr (by first | rfl | trivial)) _ 5 _ w2 T2.t
      unfold tnum at CHh
      simp only [reduceIte, Bool.false_eq_true, Int.zero_add, Int.add_zero, Int.reduceAdd] at CHh
      have CHh := Lib.hid CHh
      clear T2
      go_wp2_with fail
      refine CHh.out.mono ?_
      rintro e w3 ⟨rfl, rfl⟩
      go_wp2
      go_ret2
      exact ⟨rfl, B2.out⟩
set_option maxRecDepth 100000 in
set_option maxHeartbeats 2000000 in
theorem wrSNo (op sz cd fr : Int) (d s : Opd) (ln : Int) (w : World) (reg : Int) (CI' : Hid (∀ W, Calls Tryd.prog 23 #[.agg #[.int .i64 op, .int .i64 sz, .int .i64 cd, .int .i64 fr, .int .i64 d.k, .int .i64 d.r, .int .i64 d.b, .int .i64 d.i, .int .i64 d.s, .int .i64 d.d, .int .i64 d.m, .int .i64 s.k, .int .i64 s.r, .int .i64 s.b, .int .i64 s.i, .int .i64 s.s, .int .i64 s.d, .int .i64 s.m, .int .i64 ln]] W fun e w' => e = .returned (.bool true) ∧ Below W.heap.size W w')) (CN : Hid (∀ W, Calls Tryd.prog 24 #[.int .i64 reg, .int .i64 0, .int .i64 15] W fun e w' => e = .returned (.bool false) ∧ w' = W)) :
    Calls Tryd.prog 9 #[.agg #[.int .i64 op, .int .i64 sz, .int .i64 cd, .int .i64 fr, .int .i64 d.k, .int .i64 d.r, .int .i64 d.b, .int .i64 d.i, .int .i64 d.s, .int .i64 d.d, .int .i64 d.m, .int .i64 s.k, .int .i64 s.r, .int .i64 s.b, .int .i64 s.i, .int .i64 s.s, .int .i64 s.d, .int .i64 s.m, .int .i64 ln], .int .i64 reg] w fun e w' => e = .returned (.tuple #[.bool false, .int .i64 4]) ∧ Below w.heap.size w w' := by
  have R0 := Lib.hid (heap_alloc_new w (.cells #[.int .i64 op, .int .i64 sz, .int .i64 cd, .int .i64 fr, .int .i64 d.k, .int .i64 d.r, .int .i64 d.b, .int .i64 d.i, .int .i64 d.s, .int .i64 d.d, .int .i64 d.m, .int .i64 s.k, .int .i64 s.r, .int .i64 s.b, .int .i64 s.i, .int .i64 s.s, .int .i64 s.d, .int .i64 s.m, .int .i64 ln] 30))
  have B0 := Lib.hid (belA w (.cells #[.int .i64 op, .int .i64 sz, .int .i64 cd, .int .i64 fr, .int .i64 d.k, .int .i64 d.r, .int .i64 d.b, .int .i64 d.i, .int .i64 d.s, .int .i64 d.d, .int .i64 d.m, .int .i64 s.k, .int .i64 s.r, .int .i64 s.b, .int .i64 s.i, .int .i64 s.s, .int .i64 s.d, .int .i64 s.m, .int .i64 ln] 30))
  have CI := CI'
  go_enter Tryd.func9, Tryd.ntmps9
  go_wp2_with (first | refine wpList_load_row rfl 30 (.tmp 2) rfl w.heap.size rfl 30 #[.int .i64 op, .int .i64 sz, .int .i64 cd, .int .i64 fr, .int .i64 d.k, .int .i64 d.r, .int .i64 d.b, .int .i64 d.i, .int .i64 d.s, .int .i64 d.d, .int .i64 d.m, .int .i64 s.k, .int .i64 s.r, .int .i64 s.b, .int .i64 s.i, .int .i64 s.s, .int .i64 s.d, .int .i64 s.m, .int .i64 ln] (0, 0) _ R0.out Tryd.underlying30 rfl (by kernel_rfl) ?_ | refine load_rowT (by rfl) 30 (.tmp 2) rfl w.heap.size rfl 30 #[.int .i64 op, .int .i64 sz, .int .i64 cd, .int .i64 fr, .int .i64 d.k, .int .i64 d.r, .int .i64 d.b, .int .i64 d.i, .int .i64 d.s, .int .i64 d.d, .int .i64 d.m, .int .i64 s.k, .int .i64 s.r, .int .i64 s.b, .int .i64 s.i, .int .i64 s.s, .int .i64 s.d, .int .i64 s.m, .int .i64 ln] (0, 0) _ R0.out Tryd.underlying30 rfl (by kernel_rfl) ?_)
  refine (CI.out _).mono ?_
  rintro e w1 ⟨rfl, hb⟩
  have B1 := Lib.hid (B0.out.trans (hb.mono B0.out.size))
  have R1 := Lib.hid ((hb.block _ (lt_of_blk R0.out)).trans R0.out)
  clear hb
  go_wp2_with fail
  refine (CN.out _).mono ?_
  rintro e w2 ⟨rfl, rfl⟩
  go_wp2
  go_ret2
  exact ⟨rfl, B1.out⟩
theorem opd_reg {x : Opd} {z : Int} (h : kindB x z = true) : 0 ≤ x.r := by
  rcases kind_k h with ⟨_, e⟩ | ⟨_, _, h1, _⟩ | ⟨_, h2⟩ | ⟨_, e⟩
  · rw [e]; decide
  · exact h1
  · exact (by rw [h2.1]; exact Int.le_refl _)
  · rw [e]; exact Int.le_refl _
theorem nat_mod {r : Int} (h : 0 ≤ r) : ∃ m : Nat, m < 16 ∧ r.tmod 16 = (m : Int) := by
  obtain ⟨a, rfl⟩ := Int.eq_ofNat_of_zero_le h
  exact ⟨a % 16, Nat.mod_lt _ (by decide), rfl⟩
theorem wr_lit (b ok h : Bool) : ∃ h' : Bool, ∃ c : Int, wrV b ok h = #[.bool h', .int .i64 c] := by
  cases b <;> cases ok <;> exact ⟨_, _, rfl⟩
set_option maxHeartbeats 2000000 in
theorem alikeWritesReg (x : Ins) (reg : Int) (w : World) (aR : Addr) (he : Env w aR) : ∃ h : Bool, ∃ c : Int, (∀ W, Calls Tryd.prog 9 #[.agg (insV x), .int .i64 reg] W fun e w' => e = .returned (.tuple #[.bool h, .int .i64 c]) ∧ Below W.heap.size W w') ∧ (∀ W, Below w.heap.size w W → Calls Tryd.prog 11 #[.agg (insV x), .int .i64 reg] W fun e w' => e = .returned (.tuple #[.bool h, .int .i64 c]) ∧ Below W.heap.size W w') := by
  obtain ⟨op, sz, cd, fr, d, s, ln⟩ := x
  have okE : ∀ W, Below w.heap.size w W → Calls Tryd.prog 28 #[.int .i64 reg, .int .i64 8] W fun e w' => e = .returned (.bool (decide (0 ≤ reg ∧ reg ≤ 15))) ∧ w' = W := fun W hW => by
    have := isRegC 8 reg W (by unfold Size4; omega) (he.r.below hW)
    rw [regs_top 8 (by unfold Size4; omega)] at this
    rwa [show decide (0 ≤ reg ∧ reg < topReg ((8 : Nat) : Int) + 1) = decide (0 ≤ reg ∧ reg ≤ 15) from decide_eq_decide.mpr (by show 0 ≤ reg ∧ reg < 15 + 1 ↔ _; omega)] at this
  have inE : ∀ W, Calls Tryd.prog 24 #[.int .i64 reg, .int .i64 0, .int .i64 15] W fun e w' => e = .returned (.bool (decide (0 ≤ reg ∧ reg ≤ 15))) ∧ w' = W := fun W => by
    by_cases h : 0 ≤ reg ∧ reg ≤ 15
    · rw [decide_eq_true h]; exact Cl.inYes reg 0 15 W h.1 h.2
    · rw [decide_eq_false h]; exact Cl.inNo reg 0 15 W (by omega)
  have hr : decide (0 ≤ reg ∧ reg ≤ 15) = true → (Lit.int .i64 reg).wf = true := fun h => by have := of_decide_eq_true h; exact WalkArith.wf_i64 (by omega)
  have KI := fun W (hW : Below w.heap.size w W) => wrI op sz cd fr d s ln W reg (okS ⟨op, sz, cd, fr, d, s, ln⟩) (decide (0 ≤ reg ∧ reg ≤ 15)) (Lib.hid (fun W' hW' => by have := instrI ⟨op, sz, cd, fr, d, s, ln⟩ W' aR (he.below (hW.trans (hW'.mono hW.size))); rwa [ins_eq] at this)) (Lib.hid (fun W' hW' => okE W' (hW.trans (hW'.mono hW.size)))) hr
  generalize hT : tany (tand (tget (toG ⟨op, sz, cd, fr, d, s, ln⟩) reg) (false, true)) = t at KI
  by_cases hb : okS ⟨op, sz, cd, fr, d, s, ln⟩ = true
  · by_cases hk : 0 ≤ reg ∧ reg ≤ 15
    · obtain ⟨k, rfl⟩ := Int.eq_ofNat_of_zero_le hk.1
      obtain ⟨m, hm16, hm⟩ := nat_mod (opd_reg (ok_parts hb).2.2.1)
      obtain ⟨n, hn16, hn⟩ := nat_mod (opd_reg (ok_parts hb).2.2.2)
      simp only at hm hn
      have CR := Lib.hid (fun W => hitRegsS op sz cd fr d s ln m n (d.k == 1) ((op != 8) && (op != 10)) W rfl rfl hm hm16 (fun _ => ⟨hn, hn16⟩))
      have CH := fun W => hitsS op sz cd fr d s ln W (k : Int) _ (regL_len _ 16) CR
      have E := hits_eq hb m n k hm (fun _ => hn)
      have T : t = decide ((k : Int) ∈ regL (hsw op sz n (if (d.k == 1) && ((op != 8) && (op != 10)) then hup (fun _ => false) m else fun _ => false)) 16) := by
        rw [mem_regL _ k (by omega), ← E, ← hT]; unfold tany tand twr; simp
      rw [← T] at CH
      obtain ⟨h', c, e⟩ := wr_lit (okS ⟨op, sz, cd, fr, d, s, ln⟩) (decide (0 ≤ (k : Int) ∧ (k : Int) ≤ 15)) t
      refine ⟨h', c, fun W => ?_, fun W hW => ?_⟩
      · rw [← e]; exact wrS op sz cd fr d s ln W (k : Int) (okS ⟨op, sz, cd, fr, d, s, ln⟩) _ t (Lib.hid (fun W' => okC5 ⟨op, sz, cd, fr, d, s, ln⟩ W')) (Lib.hid inE) (Lib.hid (fun _ => CH))
      · rw [← e]; exact KI W hW
    · refine ⟨false, 4, fun W => ?_, fun W hW => ?_⟩
      · exact wrSNo op sz cd fr d s ln W reg (Lib.hid (fun W' => by have := okC5 ⟨op, sz, cd, fr, d, s, ln⟩ W'; rwa [hb] at this)) (Lib.hid (fun W' => by have := inE W'; rwa [decide_eq_false hk] at this))
      · have := KI W hW; rw [hb, decide_eq_false hk] at this; exact this
  · have hb' : okS ⟨op, sz, cd, fr, d, s, ln⟩ = false := Bool.eq_false_iff.mpr hb
    refine ⟨false, 1, fun W => ?_, fun W hW => ?_⟩
    · exact wrS op sz cd fr d s ln W reg false _ false (Lib.hid (fun W' => by have := okC5 ⟨op, sz, cd, fr, d, s, ln⟩ W'; rwa [hb'] at this)) (Lib.hid inE) (Lib.hid (fun h => by cases h))
    · have := KI W hW; rw [hb'] at this; exact this
end Go.Proofs.YtjnjlgaemmdkhaaDoor
