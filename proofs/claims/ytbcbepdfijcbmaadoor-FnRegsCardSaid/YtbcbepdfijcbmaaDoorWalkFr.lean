/-
  Two processors compared as structs; the facts of setting a register and getting it, told at once; conditions: those in each head.
-/
import Derived.Test.YtbcbepdfijcbmaaDoorWalkCpuY
import Derived.Test.YtbcbepdfijcbmaaDoorWalkCpuO
import Derived.Test.YtbcbepdfijcbmaaDoorWalkCpuD
import Derived.Test.YtbcbepdfijcbmaaDoorWalkCpuH
namespace Go.Proofs.YtbcbepdfijcbmaaDoor
open Go.RowKit
set_option linter.unusedVariables false
set_option maxHeartbeats 2000000 in
set_option maxRecDepth 100000 in
theorem eqArr16 (f : Nat → Int) (d : Nat) (w : World) : (Op.equalIn (d + 1 + 1) 22 (.agg (regA f)) (.agg (regA f))).run Tryd.prog w = .ok true w := by
  have u3 := Tryd.underlying3
  have a3 := Tryd.isAgg3
  have z3 := Tryd.sizeOf3
  rw [Op.equalIn, regA]
  simp only [Sem.run_bind, run_underlying Tryd.underlying22, Result.andThen_ok]
  simp only [Std.Legacy.Range.forIn_eq_forIn_range', Std.Legacy.Range.size, Nat.sub_zero, Nat.add_sub_cancel, Nat.div_one, List.range'_succ, List.range'_zero, List.forIn_cons, List.forIn_nil]
  go_simp
set_option maxHeartbeats 2000000 in
set_option maxRecDepth 100000 in
theorem neqCpu (c : Cp) (w : World) : (binOp .neq 27 (.agg (cpV c)) (.agg (cpV c))).run Tryd.prog w = .ok (.bool false) w := by
  have u3 := Tryd.underlying3
  have a3 := Tryd.isAgg3
  have z3 := Tryd.sizeOf3
  have hS : Tryd.prog.underlying 27 = some (.struct (Tryd.prog.fieldsOf 27)) := by kernel_rfl
  have hp : Tryd.prog.stoodInHeld 27 = false := by kernel_rfl
  have hA : ∀ w, (Op.equalIn 9999 22 (.agg ((cpV c).extract 0 16)) (.agg ((cpV c).extract 0 16))).run Tryd.prog w = .ok true w := fun w => eqArr16 c.rs 9997 w
  rw [run_neq_struct, show (10000 : Nat) = 9999 + 1 from rfl, run_equalIn_agg w 9999 27 _ _ hS hp]
  simp only [Program.fieldsOf, Tryd.underlying27]
  have h16 : (cpV c)[16]? = some (.int .i64 c.ip) := rfl
  have h17 : (cpV c)[17]? = some (.int .i64 c.fl) := rfl
  generalize cpV c = V at *
  go_simp
/-- what is set in a register is got -/
structure RgF (c d : Cp) (v : Int) (n r : Int) (k : Nat) (g : Int) (w : World) : Prop where
  kr : Int.tmod r 16 = (k : Int)
  k16 : k < 16
  c1 : ∀ W, Below w.heap.size w W → Calls Tryd.prog 13 #[.agg (cpV c), .int .i64 r, .int .i64 n, .int .i64 v] W fun e w' => e = .returned (.tuple #[.agg (cpV d), .int .i64 0]) ∧ Below W.heap.size W w'
  c2 : ∀ W, Calls Tryd.prog 12 #[.agg (cpV c), .int .i64 r, .int .i64 n, .int .i64 v] W fun e w' => e = .returned (.tuple #[.agg (cpV d), .int .i64 0]) ∧ Below W.heap.size W w'
  c3 : ∀ W, Below w.heap.size w W → Calls Tryd.prog 11 #[.agg (cpV d), .int .i64 r, .int .i64 n] W fun e w' => e = .returned (.tuple #[.int .i64 g, .int .i64 0]) ∧ Below W.heap.size W w'
  c4 : ∀ W, Calls Tryd.prog 22 #[.int .i64 v, .int .i64 n] W fun e w' => e = .returned (.tuple #[.int .i64 g, .int .i64 0]) ∧ Below W.heap.size W w'
  c5 : ∀ W, Below w.heap.size w W → Calls Tryd.prog 11 #[.agg (cpV d), .int .i64 (k : Int), .int .i64 8] W fun e w' => e = .returned (.tuple #[.int .i64 (d.rs k), .int .i64 0]) ∧ Below W.heap.size W w'
  far : ∀ i, i < 16 → i ≠ k → d.rs i = c.rs i
  f4 : n = 4 → d.rs k = g
  m1 : n = 1 → r ≤ 15 → bits .andNot .i64 (d.rs k) 255 = bits .andNot .i64 (c.rs k) 255 ∧ bits .and .i64 (d.rs k) 255 = g
  m2 : n = 2 → bits .andNot .i64 (d.rs k) 65535 = bits .andNot .i64 (c.rs k) 65535 ∧ bits .and .i64 (d.rs k) 65535 = g
  mh : n = 1 → 16 ≤ r → bits .andNot .i64 (d.rs k) 65280 = bits .andNot .i64 (c.rs k) 65280 ∧ bits .and .i64 (d.rs k) 65280 = g * 256
theorem upd_at (f : Nat → Int) (i : Nat) (v : Int) : upd f i v i = v := if_pos rfl
theorem set_at (c : Cp) (i : Nat) (v : Int) : (c.set i v).rs i = v := if_pos rfl
theorem set_far (c : Cp) (i j : Nat) (v : Int) (h : j ≠ i) : (c.set i v).rs j = c.rs j := if_neg h
theorem regs_facts (c : Cp) (v n r : Int) (hw : CpW c) (hf : FlOK c.fl) (hv : (Lit.int .i64 v).wf = true) (h : okSize n ∧ 0 ≤ r ∧ r ≤ topReg n) (w : World) (hn : Regs w) :
    ∃ (d : Cp) (k : Nat), RgF c d v n r k (zeroN v n) w := by
  obtain ⟨hk, s1, s2⟩ := setV c r n v hw hv h
  have hwd : CpW (c.set (regK r) (newV c r n v)) := hw.set _ (newV_wf c r n v hv)
  have hrd : (c.set (regK r) (newV c r n v)).rs (regK r) = newV c r n v := set_at _ _ _
  have hfd : FlOK (c.set (regK r) (newV c r n v)).fl := hf
  have hfar := fun j => set_far c (regK r) j (newV c r n v)
  have ek : ((regK r : Nat) : Int) = Int.tmod r 16 := by
    have h1 := h.2.2
    have : r ≤ 19 := by unfold topReg at h1; split at h1 <;> omega
    rw [Int.tmod_eq_emod_of_nonneg h.2.1]
    unfold regK; split <;> omega
  have er : regV (c.set (regK r) (newV c r n v)) r n = zeroN v n := by
    obtain ⟨hz, h0, h1⟩ := h
    unfold regV
    by_cases ha : r ≤ 15
    · have e : r.toNat = regK r := by unfold regK; rw [if_pos ha]
      rw [if_pos ha, e, hrd]
      unfold newV
      rw [if_pos ha]
      rcases hz with rfl | rfl | rfl | rfl
      · rw [if_pos rfl]; exact (low_facts1 _ _).1
      · rw [if_neg (by decide), if_pos rfl]; exact (low_facts2 _ _).1
      · rw [if_neg (by decide), if_neg (by decide)]; show v % 4294967296 % 4294967296 = v % 4294967296; omega
      · rw [if_neg (by decide), if_neg (by decide)]; rfl
    · have e : (r - 16).toNat = regK r := by unfold regK; rw [if_neg ha]
      have hn1 : n = 1 := by unfold topReg at h1; split at h1 <;> first | assumption | omega
      subst hn1
      rw [if_neg ha, e, hrd]
      unfold newV
      rw [if_neg ha]; exact (hi_facts _ _).1
  have h8 : okSize 8 ∧ (0 : Int) ≤ ((regK r : Nat) : Int) ∧ ((regK r : Nat) : Int) ≤ topReg 8 := ⟨by unfold okSize; omega, by omega, by unfold topReg; rw [if_neg (by decide)]; omega⟩
  have e8 : regV (c.set (regK r) (newV c r n v)) ((regK r : Nat) : Int) 8 = (c.set (regK r) (newV c r n v)).rs (regK r) := by
    unfold regV; rw [if_pos (by omega)]; rfl
  obtain ⟨b, hb, hI, hS⟩ := cpuI c hw
  have hb1 : b = true := hb.mpr hf
  subst hb1
  obtain ⟨b, hb, hId, _⟩ := cpuI _ hwd
  have hb1 : b = true := hb.mpr hfd
  subst hb1
  have reg (a n : Int) (h : okSize n ∧ 0 ≤ a ∧ a ≤ topReg n) : ∀ W, Below w.heap.size w W → Calls Tryd.prog 34 #[.int .i64 a, .int .i64 n] W fun e w' => e = .returned (.bool true) ∧ W = w' := fun W hW => by
    have := isRegAll a n W (hn.below hW); rwa [decide_eq_true h] at this
  refine ⟨c.set (regK r) (newV c r n v), regK r, ek.symm, hk, fun W hW => ?_, fun W => ?_, fun W hW => ?_, fun W => ?_, fun W hW => ?_, fun i _ hi => hfar i hi, fun e => ?_, fun e hr => ?_, fun e => ?_, fun e hr => ?_⟩
  · exact setRegIYes c _ r n v W hI (fun W' hW' => reg r n h W' (hW.trans (hW'.mono hW.size))) s1
  · exact setRegSYes c _ r n v W hS (fun W' _ => by have := regOKS r n W'; rwa [decide_eq_true h] at this) s2
  · have := getRegIYes _ r n _ W hId (fun W' hW' => reg r n h W' (hW.trans (hW'.mono hW.size))) (fun W b hb => getV _ r n hwd h W b hb)
    rwa [er] at this
  · exact zeroOfI v n h.1 hv W
  · have := getRegIYes _ _ 8 _ W hId (fun W' hW' => reg _ 8 h8 W' (hW.trans (hW'.mono hW.size))) (fun W b hb => getV _ _ 8 hwd h8 W b hb)
    rwa [e8] at this
  · rw [hrd, e]; unfold newV
    have : r ≤ 15 := by have := h.2.2; rw [e] at this; exact this
    rw [if_pos this, if_neg (by decide), if_neg (by decide)]
  · rw [hrd, e]; unfold newV
    rw [if_pos hr, if_pos rfl]; exact (low_facts1 _ _).2
  · rw [hrd, e]; unfold newV
    have : r ≤ 15 := by have := h.2.2; rw [e] at this; exact this
    rw [if_pos this, if_neg (by decide), if_pos rfl]; exact (low_facts2 _ _).2
  · rw [hrd, e]; unfold newV
    rw [if_neg (by omega)]; exact (hi_facts _ _).2
end Go.Proofs.YtbcbepdfijcbmaaDoor
