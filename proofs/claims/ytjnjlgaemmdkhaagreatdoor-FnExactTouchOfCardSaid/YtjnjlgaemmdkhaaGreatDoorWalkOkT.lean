/-
  What the parts of the specification's InstrOK do: l05Fits, l05Has, l05Kind, l05From, l05Sizes, l05Rex, l05Wide; conditions: those in each head.
-/
import Derived.Test.YtjnjlgaemmdkhaaGreatDoorWalkOpd2
import Derived.Test.YtjnjlgaemmdkhaaGreatDoorWalkSign
import Derived.Test.YtjnjlgaemmdkhaaGreatDoorWalkTab
import Derived.Test.YtjnjlgaemmdkhaaGreatDoorWalkOpd3
import Derived.Shelf.SlSortCmp.QuietGrown
namespace Go.Proofs.YtjnjlgaemmdkhaaGreatDoor
open Go.RowKit Go.Sort
set_option linter.unusedVariables false
set_option linter.unusedSimpArgs false
def fitP (v z : Int) : Prop := (z = 1 ∧ -128 ≤ v ∧ v ≤ 127) ∨ (z = 2 ∧ -32768 ≤ v ∧ v ≤ 32767) ∨ ((z = 4 ∨ z = 8) ∧ -2147483648 ≤ v ∧ v ≤ 2147483647)
instance (v z : Int) : Decidable (fitP v z) := by unfold fitP; infer_instance
theorem u64_nat (v : Int) : IntKind.u64.wrap v = (((v % 18446744073709551616).toNat : Nat) : Int) := by rw [wrapU]; omega
theorem fit_eq (v : Int) (X k : Nat) (hX : (X : Int) = v % 18446744073709551616) (hk : k = 1 ∨ k = 2 ∨ k = 4) : (wrap64 (sgnU X k : Int) = v) ↔ ((k = 1 ∧ -128 ≤ v ∧ v ≤ 127) ∨ (k = 2 ∧ -32768 ≤ v ∧ v ≤ 32767) ∨ (k = 4 ∧ -2147483648 ≤ v ∧ v ≤ 2147483647)) := by
  rcases hk with rfl | rfl | rfl
  all_goals
    rw [sgn_int _ _ (by decide), hX]
    simp only [Int.bmod_def, Nat.reduceMul, Nat.reducePow, true_and]
    constructor <;> intro h
    · split at h <;> omega
    · split <;> omega
set_option maxHeartbeats 1000000 in
theorem fitS5 (v z : Int) (w : World) (hz : okSize z) : Calls Tryz.prog 44 #[.int .i64 v, .int .i64 z] w fun e w' => e = .returned (.bool (decide (fitP v z))) ∧ w = w' := by
  obtain ⟨X, hX⟩ : ∃ X : Nat, (X : Int) = v % 18446744073709551616 := ⟨(v % 18446744073709551616).toNat, by omega⟩
  have hu : IntKind.u64.wrap v = (X : Int) := by rw [wrapU]; exact hX.symm
  have key (k : Nat) (hk : k = 1 ∨ k = 2 ∨ k = 4) := fit_eq v X k hX hk
  have C (k : Nat) (hk : 1 ≤ k) (hk2 : k ≤ 8) := fun W => specSignL v X k W hu hk hk2
  have e (k : Nat) (hk : k = 1 ∨ k = 2 ∨ k = 4) (h : fitP v z ↔ ((k = 1 ∧ -128 ≤ v ∧ v ≤ 127) ∨ (k = 2 ∧ -32768 ≤ v ∧ v ≤ 32767) ∨ (k = 4 ∧ -2147483648 ≤ v ∧ v ≤ 2147483647))) : decide (wrap64 (sgnU X k : Int) = v) = decide (fitP v z) := decide_eq_decide.mpr ((key k hk).trans h.symm)
  unfold fitP at e ⊢
  rcases hz with rfl | rfl | rfl | rfl
  · have CK := Lib.hid (C 1 (by decide) (by decide))
    have HE := Lib.hid (e 1 (by decide) (by omega))
    clear C key e hX hu
    go_enter Tryz.func44, Tryz.ntmps44
    go_wp2_with fail
    refine (CK.out _).mono ?_
    rintro e w1 ⟨rfl, rfl⟩
    go_wp2
    go_ret
    exact ⟨ret_bo HE.out, rfl⟩
  · have CK := Lib.hid (C 2 (by decide) (by decide))
    have HE := Lib.hid (e 2 (by decide) (by omega))
    clear C key e hX hu
    go_enter Tryz.func44, Tryz.ntmps44
    go_wp2_with fail
    refine (CK.out _).mono ?_
    rintro e w1 ⟨rfl, rfl⟩
    go_wp2
    go_ret
    exact ⟨ret_bo HE.out, rfl⟩
  · have CK := Lib.hid (C 4 (by decide) (by decide))
    have HE := Lib.hid (e 4 (by decide) (by omega))
    clear C key e hX hu
    go_enter Tryz.func44, Tryz.ntmps44
    go_wp2_with fail
    refine (CK.out _).mono ?_
    rintro e w1 ⟨rfl, rfl⟩
    go_wp2
    go_ret
    exact ⟨ret_bo HE.out, rfl⟩
  · have CK := Lib.hid (C 4 (by decide) (by decide))
    have HE := Lib.hid (e 4 (by decide) (by omega))
    clear C key e hX hu
    go_enter Tryz.func44, Tryz.ntmps44
    go_wp2_with fail
    refine (CK.out _).mono ?_
    rintro e w1 ⟨rfl, rfl⟩
    go_wp2
    go_ret
    exact ⟨ret_bo HE.out, rfl⟩
set_option maxHeartbeats 1000000 in
theorem hasS1 (b c : UInt8) (w : World) : Calls Tryz.prog 81 #[.string ⟨#[b]⟩, .int .u8 (c.toNat : Int)] w fun e w' => e = .returned (.bool (decide (b = c))) ∧ w = w' := by
  have hs : (⟨#[b]⟩ : ByteArray).size = 1 := rfl
  by_cases h : b = c
  · rw [decide_eq_true h]
    have hq : ((((⟨#[b]⟩ : ByteArray)[0]'(by rw [hs]; decide)).toNat : Int) == (c.toNat : Int)) = true := beq_iff_eq.mpr (by rw [← h]; rfl)
    clear h
    go_enter Tryz.func81, Tryz.ntmps81
    go_wp2_with fail
    refine wp_loop_rounds 1 ?_
    rw [rounds_succ]
    go_wp2
    go_ret
    exact ⟨rfl, rfl⟩
  · rw [decide_eq_false h]
    have hq : ((((⟨#[b]⟩ : ByteArray)[0]'(by rw [hs]; decide)).toNat : Int) == (c.toNat : Int)) = false := beq_eq_false_iff_ne.mpr (fun e => h (UInt8.toNat_inj.mp (by have e2 : ((b.toNat : Nat) : Int) = (c.toNat : Int) := e; omega)))
    clear h
    go_enter Tryz.func81, Tryz.ntmps81
    go_wp2_with fail
    refine wp_loop_rounds 2 ?_
    rw [rounds_succ]
    go_wp2_with fail
    rw [rounds_succ]
    go_wp2
    go_ret
    exact ⟨rfl, rfl⟩
/-- a kind's letter, as the specification has them -/
def kl (b : UInt8) (k : Int) : Bool := decide ((k = 1 ∧ b = 114) ∨ (k = 2 ∧ b = 109) ∨ (k = 3 ∧ b = 105) ∨ (k = 0 ∧ b = 48))
set_option maxHeartbeats 1000000 in
theorem kindS5 (x : Opd) (b : UInt8) (w : World) : Calls Tryz.prog 64 #[V7 x, .string ⟨#[b]⟩] w fun e w' => e = .returned (.bool (kl b x.k)) ∧ ∃ q os, w' = grow (w.drewN q) os := by
  obtain ⟨k, r, bb, i, s, d, m⟩ := x
  unfold V7
  have C1 := Lib.hid (hasS1 b 114); have C2 := Lib.hid (hasS1 b 109); have C3 := Lib.hid (hasS1 b 105); have C0 := Lib.hid (hasS1 b 48)
  have B0 := Lib.hid (alloc_eq_grow w (.cells #[.int .i64 k, .int .i64 r, .int .i64 bb, .int .i64 i, .int .i64 s, .int .i64 d, .int .i64 m] 31))
  by_cases h1 : k = 1
  · subst h1
    have e : kl b 1 = decide (b = 114) := by unfold kl; exact decide_eq_decide.mpr (by simp)
    simp only [e]
    clear e C2 C3 C0
    obtain ⟨v, hv⟩ : ∃ v, v = decide (b = 114) := ⟨_, rfl⟩
    rw [← hv] at C1 ⊢
    clear hv
    cases v
    all_goals
      go_enter Tryz.func64, Tryz.ntmps64
      go_wp2_with fail
      refine (C1.out _).mono ?_
      rintro e w1 ⟨rfl, rfl⟩
      go_wp2
      go_ret
      exact ⟨rfl, 0, _, B0.out⟩
  · have n1 : (k == 1) = false := beq_eq_false_iff_ne.mpr h1
    by_cases h2 : k = 2
    · subst h2
      have e : kl b 2 = decide (b = 109) := by unfold kl; exact decide_eq_decide.mpr (by simp)
      simp only [e]
      clear e C1 C3 C0 h1 n1
      obtain ⟨v, hv⟩ : ∃ v, v = decide (b = 109) := ⟨_, rfl⟩
      rw [← hv] at C2 ⊢
      clear hv
      cases v
      all_goals
        go_enter Tryz.func64, Tryz.ntmps64
        go_wp2_with fail
        refine (C2.out _).mono ?_
        rintro e w1 ⟨rfl, rfl⟩
        go_wp2
        go_ret
        exact ⟨rfl, 0, _, B0.out⟩
    · have n2 : (k == 2) = false := beq_eq_false_iff_ne.mpr h2
      by_cases h3 : k = 3
      · subst h3
        have e : kl b 3 = decide (b = 105) := by unfold kl; exact decide_eq_decide.mpr (by simp)
        simp only [e]
        clear e C1 C2 C0 h1 n1 h2 n2
        obtain ⟨v, hv⟩ : ∃ v, v = decide (b = 105) := ⟨_, rfl⟩
        rw [← hv] at C3 ⊢
        clear hv
        cases v
        all_goals
          go_enter Tryz.func64, Tryz.ntmps64
          go_wp2_with fail
          refine (C3.out _).mono ?_
          rintro e w1 ⟨rfl, rfl⟩
          go_wp2
          go_ret
          exact ⟨rfl, 0, _, B0.out⟩
      · have n3 : (k == 3) = false := beq_eq_false_iff_ne.mpr h3
        by_cases h0 : k = 0
        · subst h0
          have e : kl b 0 = decide (b = 48) := by unfold kl; exact decide_eq_decide.mpr (by simp)
          simp only [e]
          clear e C1 C2 C3 h1 n1 h2 n2 h3 n3
          obtain ⟨v, hv⟩ : ∃ v, v = decide (b = 48) := ⟨_, rfl⟩
          rw [← hv] at C0 ⊢
          clear hv
          cases v
          all_goals
            go_enter Tryz.func64, Tryz.ntmps64
            go_wp2_with fail
            refine (C0.out _).mono ?_
            rintro e w1 ⟨rfl, rfl⟩
            go_wp2
            go_ret
            exact ⟨rfl, 0, _, B0.out⟩
        · have n0 : (k == 0) = false := beq_eq_false_iff_ne.mpr h0
          have e : kl b k = false := by unfold kl; exact decide_eq_false (by rintro (h | h | h | h); exact h1 h.1; exact h2 h.1; exact h3 h.1; exact h0 h.1)
          simp only [e]
          clear e C1 C2 C3 C0 h1 h2 h3 h0
          go_enter Tryz.func64, Tryz.ntmps64
          go_wp2
          go_ret
          exact ⟨rfl, 0, _, B0.out⟩
end Go.Proofs.YtjnjlgaemmdkhaaGreatDoor
