/-
  What GetReg of both does of a processor that is right, by its parts; conditions: those in each head.
-/
import Derived.Test.YtbcbepdfijcbmaaDoorWalkCpuO
import Derived.Test.YtbcbepdfijcbmaaDoorWalkOpd
import Derived.Test.YtbcbepdfijcbmaaDoorWalkSign
namespace Go.Proofs.YtbcbepdfijcbmaaDoor
open Go.RowKit
set_option linter.unusedVariables false
theorem okSize_iff (n : Int) : okSize n ↔ (n = 1 ∨ n = 2 ∨ n = 4 ∨ n = 8) := Iff.rfl
theorem noSize_of {n : Int} (h : ¬ okSize n) : NoSize n := by unfold okSize at h; unfold NoSize; omega
theorem isRegSz (a s : Int) (w : World) (h : NoSize s) :
    Calls Tryd.prog 34 #[.int .i64 a, .int .i64 s] w fun e w' => e = .returned (.bool false) ∧ w = w' := by
  have HC := Lib.hid (noneSize a s w h)
  clear h
  go_enter Tryd.func34, Tryd.ntmps34
  go_wp2_with fail
  refine (HC.out).mono ?_
  rintro e w' ⟨rfl, rfl⟩
  go_wp2
  go_ret
  exact ⟨rfl, rfl⟩
instance (n : Int) : Decidable (okSize n) := by unfold okSize; exact inferInstance
theorem isRegAll (a n : Int) (w : World) (hR : Regs w) :
    Calls Tryd.prog 34 #[.int .i64 a, .int .i64 n] w fun e w' => e = .returned (.bool (decide (okSize n ∧ 0 ≤ a ∧ a ≤ topReg n))) ∧ w = w' := by
  by_cases h : okSize n
  · obtain ⟨z, rfl⟩ : ∃ z : Nat, n = (z : Int) := Int.eq_ofNat_of_zero_le (by unfold okSize at h; omega)
    have hz : Size4 z := by unfold okSize at h; unfold Size4; omega
    refine (isRegC z a w hz hR).mono ?_
    rintro e w' ⟨rfl, rfl⟩
    refine ⟨?_, rfl⟩
    rw [regs_top z hz]
    congr 2
    exact decide_eq_decide.mpr ⟨fun h2 => ⟨h, h2.1, by omega⟩, fun h2 => ⟨h2.2.1, by omega⟩⟩
  · rw [decide_eq_false (fun e => h e.1)]
    exact isRegSz a n w (noSize_of h)
theorem cut8C (v : Int) (w : World) :
    Calls Tryd.prog 67 #[.int .i64 v] w fun e w' => e = .returned (.int .i64 (v % 256)) ∧ w = w' := by
  go_enter Tryd.func67, Tryd.ntmps67
  go_wp2
  go_ret
  exact ⟨rfl, rfl⟩
set_option maxHeartbeats 1000000 in
theorem getI (W : World) (b : Nat) (v x z : Int) (k : Nat) (hk : k < 16) (hc : W.cell? ⟨b, k, none⟩ = some (.int .i64 v)) (hU : ∀ w, Calls Tryd.prog 46 #[.int .i64 v, .int .i64 z] w fun e w' => e = .returned (.tuple #[.int .i64 x, .nilIface]) ∧ w = w') :
    Calls Tryd.prog 35 #[.pointer (some ⟨b, 0, none⟩), .int .i64 (k : Int), .int .i64 z] W fun e w' => e = .returned (.int .i64 x) ∧ W = w' := by
  have CU := Lib.hid hU
  have h0 : (0 : Int) ≤ (k : Int) := by omega
  have h1 : (k : Int) < 16 := by omega
  have h2 : ((k : Int)).toNat = k := by omega
  have h3 : decide ((16 : Int) ≤ k) = false := decide_eq_false (by omega)
  clear hU hk
  go_enter Tryd.func35, Tryd.ntmps35
  go_wp2_with fail
  refine (CU.out _).mono ?_
  rintro e w1 ⟨rfl, rfl⟩
  go_wp2
  go_ret
  exact ⟨rfl, rfl⟩
set_option maxHeartbeats 1000000 in
theorem getIH (W : World) (b : Nat) (v z : Int) (k : Nat) (hk : k < 4) (hc : W.cell? ⟨b, k, none⟩ = some (.int .i64 v)) :
    Calls Tryd.prog 35 #[.pointer (some ⟨b, 0, none⟩), .int .i64 ((k : Int) + 16), .int .i64 z] W fun e w' => e = .returned (.int .i64 (v / 256 % 256)) ∧ W = w' := by
  have CU := Lib.hid (cut8C (v / 256))
  have h0 : (0 : Int) ≤ (k : Int) := by omega
  have h1 : (k : Int) < 16 := by omega
  have h2 : ((k : Int)).toNat = k := by omega
  have h3 : decide ((16 : Int) ≤ (k : Int) + 16) = true := decide_eq_true (by omega)
  have h4 : wrap64 ((k : Int) + 16 - 16) = k := by unfold wrap64; omega
  clear hk
  go_enter Tryd.func35, Tryd.ntmps35
  go_wp2_with fail
  refine (CU.out _).mono ?_
  rintro e w1 ⟨rfl, rfl⟩
  go_wp2
  go_ret
  exact ⟨rfl, rfl⟩
theorem cpuBoxR (w : World) (c : Cp) (k : Nat) (hk : k < 16) : (w.alloc (.cells (cpV c) 27)).cell? ⟨w.heap.size, k, none⟩ = some (.int .i64 (c.rs k)) := (cell_of_row _ _ k _ _ _ (heap_alloc_new w _)).trans (cpV_at c k hk)
set_option maxHeartbeats 1000000 in
theorem getS (c : Cp) (x z : Int) (k : Nat) (hk : k < 16) (hU : ∀ w, Calls Tryd.prog 64 #[.int .i64 (c.rs k), .int .i64 z] w fun e w' => e = .returned (.int .i64 x) ∧ w = w') (W : World) :
    Calls Tryd.prog 31 #[.agg (cpV c), .int .i64 (k : Int), .int .i64 z] W fun e w' => e = .returned (.int .i64 x) ∧ Below W.heap.size W w' := by
  have CU := Lib.hid hU
  have hc := cpuBoxR W c k hk
  generalize c.rs k = v at *
  generalize cpV c = V at *
  have h0 : (0 : Int) ≤ (k : Int) := by omega
  have h1 : (k : Int) < 16 := by omega
  have h2 : ((k : Int)).toNat = k := by omega
  have h3 : decide ((16 : Int) ≤ k) = false := decide_eq_false (by omega)
  clear hU hk
  go_enter Tryd.func31, Tryd.ntmps31
  go_wp2_with fail
  refine (CU.out _).mono ?_
  rintro e w1 ⟨rfl, rfl⟩
  go_wp2
  go_ret
  exact ⟨rfl, (Below.refl _ _).alloc (Nat.le_refl _) _⟩
set_option maxHeartbeats 1000000 in
theorem getSH (c : Cp) (x z : Int) (k : Nat) (hk : k < 4) (hU : ∀ w, Calls Tryd.prog 64 #[.int .i64 (wrap64 (IntKind.u64.wrap (c.rs k) / 256)), .int .i64 1] w fun e w' => e = .returned (.int .i64 x) ∧ w = w') (W : World) :
    Calls Tryd.prog 31 #[.agg (cpV c), .int .i64 ((k : Int) + 16), .int .i64 z] W fun e w' => e = .returned (.int .i64 x) ∧ Below W.heap.size W w' := by
  have CU := Lib.hid hU
  have hc := cpuBoxR W c k (by omega)
  generalize c.rs k = v at *
  generalize cpV c = V at *
  have h0 : (0 : Int) ≤ (k : Int) := by omega
  have h1 : (k : Int) < 16 := by omega
  have h2 : ((k : Int)).toNat = k := by omega
  have h3 : decide ((16 : Int) ≤ (k : Int) + 16) = true := decide_eq_true (by omega)
  have h4 : wrap64 ((k : Int) + 16 - 16) = k := by unfold wrap64; omega
  clear hU hk
  go_enter Tryd.func31, Tryd.ntmps31
  go_wp2_with fail
  refine (CU.out _).mono ?_
  rintro e w1 ⟨rfl, rfl⟩
  go_wp2
  go_ret
  exact ⟨rfl, (Below.refl _ _).alloc (Nat.le_refl _) _⟩
theorem sizeS (n : Int) (w : World) : Calls Tryd.prog 48 #[.int .i64 n] w fun e w' => e = .returned (.bool (decide (okSize n))) ∧ w = w' := by
  by_cases h : okSize n
  · rw [decide_eq_true h]; exact sizeYes n w h
  · rw [decide_eq_false h]; exact sizeNo n w h
theorem inS (v lo hi : Int) (w : World) : Calls Tryd.prog 65 #[.int .i64 v, .int .i64 lo, .int .i64 hi] w fun e w' => e = .returned (.bool (decide (lo ≤ v ∧ v ≤ hi))) ∧ w = w' := by
  by_cases h : lo ≤ v ∧ v ≤ hi
  · rw [decide_eq_true h]; exact (inYes v lo hi w h.1 h.2).mono fun _ _ h => ⟨h.1, h.2.symm⟩
  · rw [decide_eq_false h]; exact (inNo v lo hi w (by omega)).mono fun _ _ h => ⟨h.1, h.2.symm⟩
set_option maxHeartbeats 1000000 in
theorem regOKS (a n : Int) (w : World) : Calls Tryd.prog 30 #[.int .i64 a, .int .i64 n] w fun e w' => e = .returned (.bool (decide (okSize n ∧ 0 ≤ a ∧ a ≤ topReg n))) ∧ w = w' := by
  have CS := Lib.hid (sizeS n)
  have C1 := Lib.hid (inS a 0 15)
  have C2 := Lib.hid (inS a 16 19)
  by_cases hs : okSize n
  · rw [decide_eq_true hs] at CS
    by_cases h1 : 0 ≤ a ∧ a ≤ 15
    · rw [decide_eq_true h1] at C1
      have e : decide (okSize n ∧ 0 ≤ a ∧ a ≤ topReg n) = true := decide_eq_true ⟨hs, h1.1, by unfold topReg; split <;> omega⟩
      rw [e]
      clear hs h1 e C2
      go_enter Tryd.func30, Tryd.ntmps30
      go_wp2_with fail
      refine (CS.out _).mono ?_
      rintro e w1 ⟨rfl, rfl⟩
      go_wp2_with fail
      refine (C1.out _).mono ?_
      rintro e w1 ⟨rfl, rfl⟩
      go_wp2
      go_ret
      exact ⟨rfl, rfl⟩
    · rw [decide_eq_false h1] at C1
      by_cases hn : n = 1
      · subst hn
        have e : decide (okSize 1 ∧ 0 ≤ a ∧ a ≤ topReg 1) = decide (16 ≤ a ∧ a ≤ 19) := decide_eq_decide.mpr ⟨fun h => by have := h.2.2; unfold topReg at this; simp at this; omega, fun h => ⟨hs, by omega, by unfold topReg; simp; omega⟩⟩
        rw [e]
        generalize decide (16 ≤ a ∧ a ≤ 19) = v at *
        clear hs h1 e
        cases v
        all_goals
          go_enter Tryd.func30, Tryd.ntmps30
          go_wp2_with fail
          refine (CS.out _).mono ?_
          rintro e w1 ⟨rfl, rfl⟩
          go_wp2_with fail
          refine (C1.out _).mono ?_
          rintro e w1 ⟨rfl, rfl⟩
          go_wp2_with fail
          refine (C2.out _).mono ?_
          rintro e w1 ⟨rfl, rfl⟩
          go_wp2
          go_ret
          exact ⟨rfl, rfl⟩
      · have e : decide (okSize n ∧ 0 ≤ a ∧ a ≤ topReg n) = false := decide_eq_false (fun h => by have := h.2; unfold topReg at this; simp [hn] at this; omega)
        rw [e]
        have hn' : (n == 1) = false := beq_eq_false_iff_ne.mpr hn
        clear hs h1 e C2 hn
        go_enter Tryd.func30, Tryd.ntmps30
        go_wp2_with fail
        refine (CS.out _).mono ?_
        rintro e w1 ⟨rfl, rfl⟩
        go_wp2_with fail
        refine (C1.out _).mono ?_
        rintro e w1 ⟨rfl, rfl⟩
        go_wp2
        go_ret
        exact ⟨rfl, rfl⟩
  · rw [decide_eq_false hs] at CS
    rw [decide_eq_false (fun e => hs e.1)]
    clear hs C1 C2
    go_enter Tryd.func30, Tryd.ntmps30
    go_wp2_with fail
    refine (CS.out _).mono ?_
    rintro e w1 ⟨rfl, rfl⟩
    go_wp2
    go_ret
    exact ⟨rfl, rfl⟩
end Go.Proofs.YtbcbepdfijcbmaaDoor
