/-
  What spec.l03First, spec.l03Second and spec.l03Shape do: the shape of a byte, changing nothing that was there; no condition but those in each head.
-/
import Derived.Test.YtinjpobepcenfaaDoorWalkShape2
namespace Go.Proofs.YtinjpobepcenfaaDoor
open Go.RowKit
theorem shape2_64 : ∀ b, b < 256 → 64 ≤ b → b ≤ 79 → shape2 b = ⟨36, 2, 0, false, 0⟩ := by decide +kernel
theorem shape2_128 : ∀ b, b < 256 → 128 ≤ b → b ≤ 143 → shape2 b = ⟨33, 10, 0, false, 0⟩ := by decide +kernel
theorem shape2_144 : ∀ b, b < 256 → 144 ≤ b → b ≤ 159 → shape2 b = ⟨35, 6, 0, true, 0⟩ := by decide +kernel
theorem shape2_rest (b : Nat) (hb : b < 256) (h : ¬ (64 ≤ b ∧ b ≤ 79) ∧ ¬ (128 ≤ b ∧ b ≤ 143) ∧ ¬ (144 ≤ b ∧ b ≤ 159) ∧ b ≠ 5 ∧ b ≠ 175 ∧ b ≠ 182 ∧ b ≠ 183 ∧ b ≠ 190 ∧ b ≠ 191) : shape2 b = noShp := by
  unfold shape2
  simp only [rows2, lookIn]
  repeat rw [if_neg (by omega)]
set_option maxHeartbeats 1000000 in
set_option maxRecDepth 100000 in
theorem l03Second_w64 (b : Nat) (w : World) (hb : b < 256) (h1 : 64 ≤ b) (h2 : b ≤ 79) : Calls Tryd.prog 112 #[.int .i64 (b : Int)] w fun e w' => e = .returned (shpV (shape2 b)) ∧ Below w.heap.size w w' := by
  have HE := Lib.hid (shape2_64 b hb h1 h2)
  have g1 : (64 : Int) ≤ b := by omega
  have g2 : (b : Int) ≤ 79 := by omega
  have d0 : decide ((b : Int) < 64) = false := decide_eq_false (by omega)
  clear h1 h2
  go_enter Tryd.func112, Tryd.ntmps112
  go_wp2_with (go_at_call 42; first | ((with_reducible refine (inNo _ _ _ _ (by omega)).mono ?_); rintro e w' ⟨rfl, rfl⟩) | ((with_reducible refine (inYes _ _ _ _ (by omega) (by omega)).mono ?_); rintro e w' ⟨rfl, rfl⟩))
  refine bodyPost_ret (v := .agg (shpL ⟨36, 2, 0, false, 0⟩).toArray) (by exact results_cell_row Tryd.results112 _ _ w.heap.size 55 _ (0, 0) _ rfl (heap_alloc_new w _) Tryd.underlying55 rfl (by kernel_rfl)) (by rfl) ⟨by rw [HE.out]; rfl, (Below.refl _ _).alloc (Nat.le_refl _) _⟩
set_option maxHeartbeats 1000000 in
set_option maxRecDepth 100000 in
theorem l03Second_w128 (b : Nat) (w : World) (hb : b < 256) (h1 : 128 ≤ b) (h2 : b ≤ 143) : Calls Tryd.prog 112 #[.int .i64 (b : Int)] w fun e w' => e = .returned (shpV (shape2 b)) ∧ Below w.heap.size w w' := by
  have HE := Lib.hid (shape2_128 b hb h1 h2)
  have g1 : (128 : Int) ≤ b := by omega
  have g2 : (b : Int) ≤ 143 := by omega
  have d0 : decide ((b : Int) < 64) = false := decide_eq_false (by omega)
  clear h1 h2
  go_enter Tryd.func112, Tryd.ntmps112
  go_wp2_with (go_at_call 42; first | ((with_reducible refine (inNo _ _ _ _ (by omega)).mono ?_); rintro e w' ⟨rfl, rfl⟩) | ((with_reducible refine (inYes _ _ _ _ (by omega) (by omega)).mono ?_); rintro e w' ⟨rfl, rfl⟩))
  refine bodyPost_ret (v := .agg (shpL ⟨33, 10, 0, false, 0⟩).toArray) (by exact results_cell_row Tryd.results112 _ _ w.heap.size 55 _ (0, 0) _ rfl (heap_alloc_new w _) Tryd.underlying55 rfl (by kernel_rfl)) (by rfl) ⟨by rw [HE.out]; rfl, (Below.refl _ _).alloc (Nat.le_refl _) _⟩
set_option maxHeartbeats 1000000 in
set_option maxRecDepth 100000 in
theorem l03Second_w144 (b : Nat) (w : World) (hb : b < 256) (h1 : 144 ≤ b) (h2 : b ≤ 159) : Calls Tryd.prog 112 #[.int .i64 (b : Int)] w fun e w' => e = .returned (shpV (shape2 b)) ∧ Below w.heap.size w w' := by
  have HE := Lib.hid (shape2_144 b hb h1 h2)
  have g1 : (144 : Int) ≤ b := by omega
  have g2 : (b : Int) ≤ 159 := by omega
  have d0 : decide ((b : Int) < 64) = false := decide_eq_false (by omega)
  clear h1 h2
  go_enter Tryd.func112, Tryd.ntmps112
  go_wp2_with (go_at_call 42; first | ((with_reducible refine (inNo _ _ _ _ (by omega)).mono ?_); rintro e w' ⟨rfl, rfl⟩) | ((with_reducible refine (inYes _ _ _ _ (by omega) (by omega)).mono ?_); rintro e w' ⟨rfl, rfl⟩))
  refine bodyPost_ret (v := .agg (shpL ⟨35, 6, 0, true, 0⟩).toArray) (by exact results_cell_row Tryd.results112 _ _ w.heap.size 55 _ (0, 0) _ rfl (heap_alloc_new w _) Tryd.underlying55 rfl (by kernel_rfl)) (by rfl) ⟨by rw [HE.out]; rfl, (Below.refl _ _).alloc (Nat.le_refl _) _⟩
set_option maxHeartbeats 1000000 in
set_option maxRecDepth 100000 in
theorem l03Second_w5 (w : World) : Calls Tryd.prog 112 #[.int .i64 5] w fun e w' => e = .returned (shpV (shape2 5)) ∧ Below w.heap.size w w' := by
  have HE : Hid (shape2 5 = ⟨43, 14, 0, false, 0⟩) := Lib.hid (by decide +kernel)
  go_enter Tryd.func112, Tryd.ntmps112
  go_wp2_with (go_at_call 42; first | ((with_reducible refine (inNo _ _ _ _ (by omega)).mono ?_); rintro e w' ⟨rfl, rfl⟩) | ((with_reducible refine (inYes _ _ _ _ (by omega) (by omega)).mono ?_); rintro e w' ⟨rfl, rfl⟩))
  refine bodyPost_ret (v := .agg (shpL ⟨43, 14, 0, false, 0⟩).toArray) (by exact results_cell_row Tryd.results112 _ _ w.heap.size 55 _ (0, 0) _ rfl (heap_alloc_new w _) Tryd.underlying55 rfl (by kernel_rfl)) (by rfl) ⟨by rw [HE.out]; rfl, (Below.refl _ _).alloc (Nat.le_refl _) _⟩
set_option maxHeartbeats 1000000 in
set_option maxRecDepth 100000 in
theorem l03Second_w175 (w : World) : Calls Tryd.prog 112 #[.int .i64 175] w fun e w' => e = .returned (shpV (shape2 175)) ∧ Below w.heap.size w w' := by
  have HE : Hid (shape2 175 = ⟨17, 2, 0, false, 0⟩) := Lib.hid (by decide +kernel)
  go_enter Tryd.func112, Tryd.ntmps112
  go_wp2_with (go_at_call 42; first | ((with_reducible refine (inNo _ _ _ _ (by omega)).mono ?_); rintro e w' ⟨rfl, rfl⟩) | ((with_reducible refine (inYes _ _ _ _ (by omega) (by omega)).mono ?_); rintro e w' ⟨rfl, rfl⟩))
  refine bodyPost_ret (v := .agg (shpL ⟨17, 2, 0, false, 0⟩).toArray) (by exact results_cell_row Tryd.results112 _ _ w.heap.size 55 _ (0, 0) _ rfl (heap_alloc_new w _) Tryd.underlying55 rfl (by kernel_rfl)) (by rfl) ⟨by rw [HE.out]; rfl, (Below.refl _ _).alloc (Nat.le_refl _) _⟩
set_option maxHeartbeats 1000000 in
set_option maxRecDepth 100000 in
theorem l03Second_w182 (w : World) : Calls Tryd.prog 112 #[.int .i64 182] w fun e w' => e = .returned (shpV (shape2 182)) ∧ Below w.heap.size w w' := by
  have HE : Hid (shape2 182 = ⟨26, 17, 0, false, 1⟩) := Lib.hid (by decide +kernel)
  go_enter Tryd.func112, Tryd.ntmps112
  go_wp2_with (go_at_call 42; first | ((with_reducible refine (inNo _ _ _ _ (by omega)).mono ?_); rintro e w' ⟨rfl, rfl⟩) | ((with_reducible refine (inYes _ _ _ _ (by omega) (by omega)).mono ?_); rintro e w' ⟨rfl, rfl⟩))
  refine bodyPost_ret (v := .agg (shpL ⟨26, 17, 0, false, 1⟩).toArray) (by exact results_cell_row Tryd.results112 _ _ w.heap.size 55 _ (0, 0) _ rfl (heap_alloc_new w _) Tryd.underlying55 rfl (by kernel_rfl)) (by rfl) ⟨by rw [HE.out]; rfl, (Below.refl _ _).alloc (Nat.le_refl _) _⟩
set_option maxHeartbeats 1000000 in
set_option maxRecDepth 100000 in
theorem l03Second_w183 (w : World) : Calls Tryd.prog 112 #[.int .i64 183] w fun e w' => e = .returned (shpV (shape2 183)) ∧ Below w.heap.size w w' := by
  have HE : Hid (shape2 183 = ⟨26, 17, 0, false, 2⟩) := Lib.hid (by decide +kernel)
  go_enter Tryd.func112, Tryd.ntmps112
  go_wp2_with (go_at_call 42; first | ((with_reducible refine (inNo _ _ _ _ (by omega)).mono ?_); rintro e w' ⟨rfl, rfl⟩) | ((with_reducible refine (inYes _ _ _ _ (by omega) (by omega)).mono ?_); rintro e w' ⟨rfl, rfl⟩))
  refine bodyPost_ret (v := .agg (shpL ⟨26, 17, 0, false, 2⟩).toArray) (by exact results_cell_row Tryd.results112 _ _ w.heap.size 55 _ (0, 0) _ rfl (heap_alloc_new w _) Tryd.underlying55 rfl (by kernel_rfl)) (by rfl) ⟨by rw [HE.out]; rfl, (Below.refl _ _).alloc (Nat.le_refl _) _⟩
set_option maxHeartbeats 1000000 in
set_option maxRecDepth 100000 in
theorem l03Second_w190 (w : World) : Calls Tryd.prog 112 #[.int .i64 190] w fun e w' => e = .returned (shpV (shape2 190)) ∧ Below w.heap.size w w' := by
  have HE : Hid (shape2 190 = ⟨27, 17, 0, false, 1⟩) := Lib.hid (by decide +kernel)
  go_enter Tryd.func112, Tryd.ntmps112
  go_wp2_with (go_at_call 42; first | ((with_reducible refine (inNo _ _ _ _ (by omega)).mono ?_); rintro e w' ⟨rfl, rfl⟩) | ((with_reducible refine (inYes _ _ _ _ (by omega) (by omega)).mono ?_); rintro e w' ⟨rfl, rfl⟩))
  refine bodyPost_ret (v := .agg (shpL ⟨27, 17, 0, false, 1⟩).toArray) (by exact results_cell_row Tryd.results112 _ _ w.heap.size 55 _ (0, 0) _ rfl (heap_alloc_new w _) Tryd.underlying55 rfl (by kernel_rfl)) (by rfl) ⟨by rw [HE.out]; rfl, (Below.refl _ _).alloc (Nat.le_refl _) _⟩
set_option maxHeartbeats 1000000 in
set_option maxRecDepth 100000 in
theorem l03Second_w191 (w : World) : Calls Tryd.prog 112 #[.int .i64 191] w fun e w' => e = .returned (shpV (shape2 191)) ∧ Below w.heap.size w w' := by
  have HE : Hid (shape2 191 = ⟨27, 17, 0, false, 2⟩) := Lib.hid (by decide +kernel)
  go_enter Tryd.func112, Tryd.ntmps112
  go_wp2_with (go_at_call 42; first | ((with_reducible refine (inNo _ _ _ _ (by omega)).mono ?_); rintro e w' ⟨rfl, rfl⟩) | ((with_reducible refine (inYes _ _ _ _ (by omega) (by omega)).mono ?_); rintro e w' ⟨rfl, rfl⟩))
  refine bodyPost_ret (v := .agg (shpL ⟨27, 17, 0, false, 2⟩).toArray) (by exact results_cell_row Tryd.results112 _ _ w.heap.size 55 _ (0, 0) _ rfl (heap_alloc_new w _) Tryd.underlying55 rfl (by kernel_rfl)) (by rfl) ⟨by rw [HE.out]; rfl, (Below.refl _ _).alloc (Nat.le_refl _) _⟩
set_option maxHeartbeats 1000000 in
set_option maxRecDepth 100000 in
theorem l03Second_rest (b : Nat) (w : World) (hb : b < 256) (h : ¬ (64 ≤ b ∧ b ≤ 79) ∧ ¬ (128 ≤ b ∧ b ≤ 143) ∧ ¬ (144 ≤ b ∧ b ≤ 159) ∧ b ≠ 5 ∧ b ≠ 175 ∧ b ≠ 182 ∧ b ≠ 183 ∧ b ≠ 190 ∧ b ≠ 191) : Calls Tryd.prog 112 #[.int .i64 (b : Int)] w fun e w' => e = .returned (shpV (shape2 b)) ∧ Below w.heap.size w w' := by
  have HE := Lib.hid (shape2_rest b hb h)
  have n5 : ((b : Int) == 5) = false := beq_eq_false_iff_ne.mpr (by omega)
  have n175 : ((b : Int) == 175) = false := beq_eq_false_iff_ne.mpr (by omega)
  have n182 : ((b : Int) == 182) = false := beq_eq_false_iff_ne.mpr (by omega)
  have n183 : ((b : Int) == 183) = false := beq_eq_false_iff_ne.mpr (by omega)
  have n190 : ((b : Int) == 190) = false := beq_eq_false_iff_ne.mpr (by omega)
  have n191 : ((b : Int) == 191) = false := beq_eq_false_iff_ne.mpr (by omega)
  go_enter Tryd.func112, Tryd.ntmps112
  go_wp2_with (go_at_call 42; first | ((with_reducible refine (inNo _ _ _ _ (by omega)).mono ?_); rintro e w' ⟨rfl, rfl⟩) | ((with_reducible refine (inYes _ _ _ _ (by omega) (by omega)).mono ?_); rintro e w' ⟨rfl, rfl⟩))
  refine bodyPost_ret (v := .agg (shpL noShp).toArray) (by exact results_cell_row Tryd.results112 _ _ w.heap.size 55 _ (0, 0) _ rfl (heap_alloc_new w _) Tryd.underlying55 rfl (by kernel_rfl)) (by rfl) ⟨by rw [HE.out]; rfl, (Below.refl _ _).alloc (Nat.le_refl _) _⟩
theorem l03SecondC (b : Nat) (w : World) (hb : b < 256) : Calls Tryd.prog 112 #[.int .i64 (b : Int)] w fun e w' => e = .returned (shpV (shape2 b)) ∧ Below w.heap.size w w' := by
  by_cases r64 : 64 ≤ b ∧ b ≤ 79
  · exact l03Second_w64 b w hb r64.1 r64.2
  by_cases r128 : 128 ≤ b ∧ b ≤ 143
  · exact l03Second_w128 b w hb r128.1 r128.2
  by_cases r144 : 144 ≤ b ∧ b ≤ 159
  · exact l03Second_w144 b w hb r144.1 r144.2
  by_cases o5 : b = 5
  · subst o5; exact l03Second_w5 w
  by_cases o175 : b = 175
  · subst o175; exact l03Second_w175 w
  by_cases o182 : b = 182
  · subst o182; exact l03Second_w182 w
  by_cases o183 : b = 183
  · subst o183; exact l03Second_w183 w
  by_cases o190 : b = 190
  · subst o190; exact l03Second_w190 w
  by_cases o191 : b = 191
  · subst o191; exact l03Second_w191 w
  exact l03Second_rest b w hb (by omega)
theorem shape1_80 : ∀ b, b < 256 → 80 ≤ b → b ≤ 87 → shape1 b = ⟨29, 7, 0, false, 0⟩ := by decide +kernel
theorem shape1_88 : ∀ b, b < 256 → 88 ≤ b → b ≤ 95 → shape1 b = ⟨30, 7, 0, false, 0⟩ := by decide +kernel
theorem shape1_112 : ∀ b, b < 256 → 112 ≤ b → b ≤ 127 → shape1 b = ⟨33, 9, 0, false, 0⟩ := by decide +kernel
theorem shape1_176 : ∀ b, b < 256 → 176 ≤ b → b ≤ 183 → shape1 b = ⟨9, 8, 0, true, 0⟩ := by decide +kernel
theorem shape1_184 : ∀ b, b < 256 → 184 ≤ b → b ≤ 191 → shape1 b = ⟨9, 8, 0, false, 0⟩ := by decide +kernel
theorem shape1_rest (b : Nat) (hb : b < 256) (h : ¬ (80 ≤ b ∧ b ≤ 87) ∧ ¬ (88 ≤ b ∧ b ≤ 95) ∧ ¬ (112 ≤ b ∧ b ≤ 127) ∧ ¬ (176 ≤ b ∧ b ≤ 183) ∧ ¬ (184 ≤ b ∧ b ≤ 191) ∧ b ≠ 99 ∧ b ≠ 104 ∧ b ≠ 106 ∧ b ≠ 128 ∧ b ≠ 129 ∧ b ≠ 131 ∧ b ≠ 132 ∧ b ≠ 133 ∧ b ≠ 134 ∧ b ≠ 135 ∧ b ≠ 136 ∧ b ≠ 137 ∧ b ≠ 138 ∧ b ≠ 139 ∧ b ≠ 141 ∧ b ≠ 143 ∧ b ≠ 144 ∧ b ≠ 152 ∧ b ≠ 153 ∧ b ≠ 164 ∧ b ≠ 168 ∧ b ≠ 169 ∧ b ≠ 170 ∧ b ≠ 192 ∧ b ≠ 193 ∧ b ≠ 195 ∧ b ≠ 198 ∧ b ≠ 199 ∧ b ≠ 205 ∧ b ≠ 208 ∧ b ≠ 209 ∧ b ≠ 210 ∧ b ≠ 211 ∧ b ≠ 232 ∧ b ≠ 233 ∧ b ≠ 235 ∧ b ≠ 244 ∧ b ≠ 246 ∧ b ≠ 247 ∧ b ≠ 254 ∧ b ≠ 255 ∧ ¬ (b < 64 ∧ b % 8 < 6)) : shape1 b = noShp := by
  unfold shape1
  rw [if_neg (by omega)]
  simp only [rows1, lookIn]
  repeat rw [if_neg (by omega)]
set_option maxHeartbeats 1000000 in
set_option maxRecDepth 100000 in
theorem l03First_w80 (b : Nat) (w : World) (hb : b < 256) (h1 : 80 ≤ b) (h2 : b ≤ 87) : Calls Tryd.prog 113 #[.int .i64 (b : Int)] w fun e w' => e = .returned (shpV (shape1 b)) ∧ Below w.heap.size w w' := by
  have HE := Lib.hid (shape1_80 b hb h1 h2)
  have g1 : (80 : Int) ≤ b := by omega
  have g2 : (b : Int) ≤ 87 := by omega
  have d0 : decide ((b : Int) < 64) = false := decide_eq_false (by omega)
  clear h1 h2
  go_enter Tryd.func113, Tryd.ntmps113
  go_wp2_with (go_at_call 42; first | ((with_reducible refine (inNo _ _ _ _ (by omega)).mono ?_); rintro e w' ⟨rfl, rfl⟩) | ((with_reducible refine (inYes _ _ _ _ (by omega) (by omega)).mono ?_); rintro e w' ⟨rfl, rfl⟩))
  refine bodyPost_ret (v := .agg (shpL ⟨29, 7, 0, false, 0⟩).toArray) (by exact results_cell_row Tryd.results113 _ _ w.heap.size 55 _ (0, 0) _ rfl (heap_alloc_new w _) Tryd.underlying55 rfl (by kernel_rfl)) (by rfl) ⟨by rw [HE.out]; rfl, (Below.refl _ _).alloc (Nat.le_refl _) _⟩
set_option maxHeartbeats 1000000 in
set_option maxRecDepth 100000 in
theorem l03First_w88 (b : Nat) (w : World) (hb : b < 256) (h1 : 88 ≤ b) (h2 : b ≤ 95) : Calls Tryd.prog 113 #[.int .i64 (b : Int)] w fun e w' => e = .returned (shpV (shape1 b)) ∧ Below w.heap.size w w' := by
  have HE := Lib.hid (shape1_88 b hb h1 h2)
  have g1 : (88 : Int) ≤ b := by omega
  have g2 : (b : Int) ≤ 95 := by omega
  have d0 : decide ((b : Int) < 64) = false := decide_eq_false (by omega)
  clear h1 h2
  go_enter Tryd.func113, Tryd.ntmps113
  go_wp2_with (go_at_call 42; first | ((with_reducible refine (inNo _ _ _ _ (by omega)).mono ?_); rintro e w' ⟨rfl, rfl⟩) | ((with_reducible refine (inYes _ _ _ _ (by omega) (by omega)).mono ?_); rintro e w' ⟨rfl, rfl⟩))
  refine bodyPost_ret (v := .agg (shpL ⟨30, 7, 0, false, 0⟩).toArray) (by exact results_cell_row Tryd.results113 _ _ w.heap.size 55 _ (0, 0) _ rfl (heap_alloc_new w _) Tryd.underlying55 rfl (by kernel_rfl)) (by rfl) ⟨by rw [HE.out]; rfl, (Below.refl _ _).alloc (Nat.le_refl _) _⟩
set_option maxHeartbeats 1000000 in
set_option maxRecDepth 100000 in
theorem l03First_w112 (b : Nat) (w : World) (hb : b < 256) (h1 : 112 ≤ b) (h2 : b ≤ 127) : Calls Tryd.prog 113 #[.int .i64 (b : Int)] w fun e w' => e = .returned (shpV (shape1 b)) ∧ Below w.heap.size w w' := by
  have HE := Lib.hid (shape1_112 b hb h1 h2)
  have g1 : (112 : Int) ≤ b := by omega
  have g2 : (b : Int) ≤ 127 := by omega
  have d0 : decide ((b : Int) < 64) = false := decide_eq_false (by omega)
  clear h1 h2
  go_enter Tryd.func113, Tryd.ntmps113
  go_wp2_with (go_at_call 42; first | ((with_reducible refine (inNo _ _ _ _ (by omega)).mono ?_); rintro e w' ⟨rfl, rfl⟩) | ((with_reducible refine (inYes _ _ _ _ (by omega) (by omega)).mono ?_); rintro e w' ⟨rfl, rfl⟩))
  refine bodyPost_ret (v := .agg (shpL ⟨33, 9, 0, false, 0⟩).toArray) (by exact results_cell_row Tryd.results113 _ _ w.heap.size 55 _ (0, 0) _ rfl (heap_alloc_new w _) Tryd.underlying55 rfl (by kernel_rfl)) (by rfl) ⟨by rw [HE.out]; rfl, (Below.refl _ _).alloc (Nat.le_refl _) _⟩
set_option maxHeartbeats 1000000 in
set_option maxRecDepth 100000 in
theorem l03First_w176 (b : Nat) (w : World) (hb : b < 256) (h1 : 176 ≤ b) (h2 : b ≤ 183) : Calls Tryd.prog 113 #[.int .i64 (b : Int)] w fun e w' => e = .returned (shpV (shape1 b)) ∧ Below w.heap.size w w' := by
  have HE := Lib.hid (shape1_176 b hb h1 h2)
  have g1 : (176 : Int) ≤ b := by omega
  have g2 : (b : Int) ≤ 183 := by omega
  have d0 : decide ((b : Int) < 64) = false := decide_eq_false (by omega)
  have d1 : decide ((b : Int) < 184) = true := decide_eq_true (by omega)
  clear h1 h2
  go_enter Tryd.func113, Tryd.ntmps113
  go_wp2_with (go_at_call 42; first | ((with_reducible refine (inNo _ _ _ _ (by omega)).mono ?_); rintro e w' ⟨rfl, rfl⟩) | ((with_reducible refine (inYes _ _ _ _ (by omega) (by omega)).mono ?_); rintro e w' ⟨rfl, rfl⟩))
  refine bodyPost_ret (v := .agg (shpL ⟨9, 8, 0, true, 0⟩).toArray) (by exact results_cell_row Tryd.results113 _ _ w.heap.size 55 _ (0, 0) _ rfl (heap_alloc_new w _) Tryd.underlying55 rfl (by kernel_rfl)) (by rfl) ⟨by rw [HE.out]; rfl, (Below.refl _ _).alloc (Nat.le_refl _) _⟩
set_option maxHeartbeats 1000000 in
set_option maxRecDepth 100000 in
theorem l03First_w184 (b : Nat) (w : World) (hb : b < 256) (h1 : 184 ≤ b) (h2 : b ≤ 191) : Calls Tryd.prog 113 #[.int .i64 (b : Int)] w fun e w' => e = .returned (shpV (shape1 b)) ∧ Below w.heap.size w w' := by
  have HE := Lib.hid (shape1_184 b hb h1 h2)
  have g1 : (184 : Int) ≤ b := by omega
  have g2 : (b : Int) ≤ 191 := by omega
  have d0 : decide ((b : Int) < 64) = false := decide_eq_false (by omega)
  have d1 : decide ((b : Int) < 184) = false := decide_eq_false (by omega)
  clear h1 h2
  go_enter Tryd.func113, Tryd.ntmps113
  go_wp2_with (go_at_call 42; first | ((with_reducible refine (inNo _ _ _ _ (by omega)).mono ?_); rintro e w' ⟨rfl, rfl⟩) | ((with_reducible refine (inYes _ _ _ _ (by omega) (by omega)).mono ?_); rintro e w' ⟨rfl, rfl⟩))
  refine bodyPost_ret (v := .agg (shpL ⟨9, 8, 0, false, 0⟩).toArray) (by exact results_cell_row Tryd.results113 _ _ w.heap.size 55 _ (0, 0) _ rfl (heap_alloc_new w _) Tryd.underlying55 rfl (by kernel_rfl)) (by rfl) ⟨by rw [HE.out]; rfl, (Below.refl _ _).alloc (Nat.le_refl _) _⟩
set_option maxHeartbeats 1000000 in
set_option maxRecDepth 100000 in
theorem l03First_w99 (w : World) : Calls Tryd.prog 113 #[.int .i64 99] w fun e w' => e = .returned (shpV (shape1 99)) ∧ Below w.heap.size w w' := by
  have HE : Hid (shape1 99 = ⟨27, 17, 0, false, 4⟩) := Lib.hid (by decide +kernel)
  go_enter Tryd.func113, Tryd.ntmps113
  go_wp2_with (go_at_call 42; first | ((with_reducible refine (inNo _ _ _ _ (by omega)).mono ?_); rintro e w' ⟨rfl, rfl⟩) | ((with_reducible refine (inYes _ _ _ _ (by omega) (by omega)).mono ?_); rintro e w' ⟨rfl, rfl⟩))
  refine bodyPost_ret (v := .agg (shpL ⟨27, 17, 0, false, 4⟩).toArray) (by exact results_cell_row Tryd.results113 _ _ w.heap.size 55 _ (0, 0) _ rfl (heap_alloc_new w _) Tryd.underlying55 rfl (by kernel_rfl)) (by rfl) ⟨by rw [HE.out]; rfl, (Below.refl _ _).alloc (Nat.le_refl _) _⟩
set_option maxHeartbeats 1000000 in
set_option maxRecDepth 100000 in
theorem l03First_w104 (w : World) : Calls Tryd.prog 113 #[.int .i64 104] w fun e w' => e = .returned (shpV (shape1 104)) ∧ Below w.heap.size w w' := by
  have HE : Hid (shape1 104 = ⟨29, 16, 0, false, 0⟩) := Lib.hid (by decide +kernel)
  go_enter Tryd.func113, Tryd.ntmps113
  go_wp2_with (go_at_call 42; first | ((with_reducible refine (inNo _ _ _ _ (by omega)).mono ?_); rintro e w' ⟨rfl, rfl⟩) | ((with_reducible refine (inYes _ _ _ _ (by omega) (by omega)).mono ?_); rintro e w' ⟨rfl, rfl⟩))
  refine bodyPost_ret (v := .agg (shpL ⟨29, 16, 0, false, 0⟩).toArray) (by exact results_cell_row Tryd.results113 _ _ w.heap.size 55 _ (0, 0) _ rfl (heap_alloc_new w _) Tryd.underlying55 rfl (by kernel_rfl)) (by rfl) ⟨by rw [HE.out]; rfl, (Below.refl _ _).alloc (Nat.le_refl _) _⟩
set_option maxHeartbeats 1000000 in
set_option maxRecDepth 100000 in
theorem l03First_w106 (w : World) : Calls Tryd.prog 113 #[.int .i64 106] w fun e w' => e = .returned (shpV (shape1 106)) ∧ Below w.heap.size w w' := by
  have HE : Hid (shape1 106 = ⟨29, 15, 0, false, 0⟩) := Lib.hid (by decide +kernel)
  go_enter Tryd.func113, Tryd.ntmps113
  go_wp2_with (go_at_call 42; first | ((with_reducible refine (inNo _ _ _ _ (by omega)).mono ?_); rintro e w' ⟨rfl, rfl⟩) | ((with_reducible refine (inYes _ _ _ _ (by omega) (by omega)).mono ?_); rintro e w' ⟨rfl, rfl⟩))
  refine bodyPost_ret (v := .agg (shpL ⟨29, 15, 0, false, 0⟩).toArray) (by exact results_cell_row Tryd.results113 _ _ w.heap.size 55 _ (0, 0) _ rfl (heap_alloc_new w _) Tryd.underlying55 rfl (by kernel_rfl)) (by rfl) ⟨by rw [HE.out]; rfl, (Below.refl _ _).alloc (Nat.le_refl _) _⟩
set_option maxHeartbeats 1000000 in
set_option maxRecDepth 100000 in
theorem l03First_w128 (w : World) : Calls Tryd.prog 113 #[.int .i64 128] w fun e w' => e = .returned (shpV (shape1 128)) ∧ Below w.heap.size w w' := by
  have HE : Hid (shape1 128 = ⟨0, 5, 1, true, 0⟩) := Lib.hid (by decide +kernel)
  go_enter Tryd.func113, Tryd.ntmps113
  go_wp2_with (go_at_call 42; first | ((with_reducible refine (inNo _ _ _ _ (by omega)).mono ?_); rintro e w' ⟨rfl, rfl⟩) | ((with_reducible refine (inYes _ _ _ _ (by omega) (by omega)).mono ?_); rintro e w' ⟨rfl, rfl⟩))
  refine bodyPost_ret (v := .agg (shpL ⟨0, 5, 1, true, 0⟩).toArray) (by exact results_cell_row Tryd.results113 _ _ w.heap.size 55 _ (0, 0) _ rfl (heap_alloc_new w _) Tryd.underlying55 rfl (by kernel_rfl)) (by rfl) ⟨by rw [HE.out]; rfl, (Below.refl _ _).alloc (Nat.le_refl _) _⟩
set_option maxHeartbeats 1000000 in
set_option maxRecDepth 100000 in
theorem l03First_w129 (w : World) : Calls Tryd.prog 113 #[.int .i64 129] w fun e w' => e = .returned (shpV (shape1 129)) ∧ Below w.heap.size w w' := by
  have HE : Hid (shape1 129 = ⟨0, 5, 1, false, 0⟩) := Lib.hid (by decide +kernel)
  go_enter Tryd.func113, Tryd.ntmps113
  go_wp2_with (go_at_call 42; first | ((with_reducible refine (inNo _ _ _ _ (by omega)).mono ?_); rintro e w' ⟨rfl, rfl⟩) | ((with_reducible refine (inYes _ _ _ _ (by omega) (by omega)).mono ?_); rintro e w' ⟨rfl, rfl⟩))
  refine bodyPost_ret (v := .agg (shpL ⟨0, 5, 1, false, 0⟩).toArray) (by exact results_cell_row Tryd.results113 _ _ w.heap.size 55 _ (0, 0) _ rfl (heap_alloc_new w _) Tryd.underlying55 rfl (by kernel_rfl)) (by rfl) ⟨by rw [HE.out]; rfl, (Below.refl _ _).alloc (Nat.le_refl _) _⟩
set_option maxHeartbeats 1000000 in
set_option maxRecDepth 100000 in
theorem l03First_w131 (w : World) : Calls Tryd.prog 113 #[.int .i64 131] w fun e w' => e = .returned (shpV (shape1 131)) ∧ Below w.heap.size w w' := by
  have HE : Hid (shape1 131 = ⟨0, 4, 1, false, 0⟩) := Lib.hid (by decide +kernel)
  go_enter Tryd.func113, Tryd.ntmps113
  go_wp2_with (go_at_call 42; first | ((with_reducible refine (inNo _ _ _ _ (by omega)).mono ?_); rintro e w' ⟨rfl, rfl⟩) | ((with_reducible refine (inYes _ _ _ _ (by omega) (by omega)).mono ?_); rintro e w' ⟨rfl, rfl⟩))
  refine bodyPost_ret (v := .agg (shpL ⟨0, 4, 1, false, 0⟩).toArray) (by exact results_cell_row Tryd.results113 _ _ w.heap.size 55 _ (0, 0) _ rfl (heap_alloc_new w _) Tryd.underlying55 rfl (by kernel_rfl)) (by rfl) ⟨by rw [HE.out]; rfl, (Below.refl _ _).alloc (Nat.le_refl _) _⟩
set_option maxHeartbeats 1000000 in
set_option maxRecDepth 100000 in
theorem l03First_w132 (w : World) : Calls Tryd.prog 113 #[.int .i64 132] w fun e w' => e = .returned (shpV (shape1 132)) ∧ Below w.heap.size w w' := by
  have HE : Hid (shape1 132 = ⟨10, 1, 0, true, 0⟩) := Lib.hid (by decide +kernel)
  go_enter Tryd.func113, Tryd.ntmps113
  go_wp2_with (go_at_call 42; first | ((with_reducible refine (inNo _ _ _ _ (by omega)).mono ?_); rintro e w' ⟨rfl, rfl⟩) | ((with_reducible refine (inYes _ _ _ _ (by omega) (by omega)).mono ?_); rintro e w' ⟨rfl, rfl⟩))
  refine bodyPost_ret (v := .agg (shpL ⟨10, 1, 0, true, 0⟩).toArray) (by exact results_cell_row Tryd.results113 _ _ w.heap.size 55 _ (0, 0) _ rfl (heap_alloc_new w _) Tryd.underlying55 rfl (by kernel_rfl)) (by rfl) ⟨by rw [HE.out]; rfl, (Below.refl _ _).alloc (Nat.le_refl _) _⟩
set_option maxHeartbeats 1000000 in
set_option maxRecDepth 100000 in
theorem l03First_w133 (w : World) : Calls Tryd.prog 113 #[.int .i64 133] w fun e w' => e = .returned (shpV (shape1 133)) ∧ Below w.heap.size w w' := by
  have HE : Hid (shape1 133 = ⟨10, 1, 0, false, 0⟩) := Lib.hid (by decide +kernel)
  go_enter Tryd.func113, Tryd.ntmps113
  go_wp2_with (go_at_call 42; first | ((with_reducible refine (inNo _ _ _ _ (by omega)).mono ?_); rintro e w' ⟨rfl, rfl⟩) | ((with_reducible refine (inYes _ _ _ _ (by omega) (by omega)).mono ?_); rintro e w' ⟨rfl, rfl⟩))
  refine bodyPost_ret (v := .agg (shpL ⟨10, 1, 0, false, 0⟩).toArray) (by exact results_cell_row Tryd.results113 _ _ w.heap.size 55 _ (0, 0) _ rfl (heap_alloc_new w _) Tryd.underlying55 rfl (by kernel_rfl)) (by rfl) ⟨by rw [HE.out]; rfl, (Below.refl _ _).alloc (Nat.le_refl _) _⟩
set_option maxHeartbeats 1000000 in
set_option maxRecDepth 100000 in
theorem l03First_w134 (w : World) : Calls Tryd.prog 113 #[.int .i64 134] w fun e w' => e = .returned (shpV (shape1 134)) ∧ Below w.heap.size w w' := by
  have HE : Hid (shape1 134 = ⟨28, 1, 0, true, 0⟩) := Lib.hid (by decide +kernel)
  go_enter Tryd.func113, Tryd.ntmps113
  go_wp2_with (go_at_call 42; first | ((with_reducible refine (inNo _ _ _ _ (by omega)).mono ?_); rintro e w' ⟨rfl, rfl⟩) | ((with_reducible refine (inYes _ _ _ _ (by omega) (by omega)).mono ?_); rintro e w' ⟨rfl, rfl⟩))
  refine bodyPost_ret (v := .agg (shpL ⟨28, 1, 0, true, 0⟩).toArray) (by exact results_cell_row Tryd.results113 _ _ w.heap.size 55 _ (0, 0) _ rfl (heap_alloc_new w _) Tryd.underlying55 rfl (by kernel_rfl)) (by rfl) ⟨by rw [HE.out]; rfl, (Below.refl _ _).alloc (Nat.le_refl _) _⟩
set_option maxHeartbeats 1000000 in
set_option maxRecDepth 100000 in
theorem l03First_w135 (w : World) : Calls Tryd.prog 113 #[.int .i64 135] w fun e w' => e = .returned (shpV (shape1 135)) ∧ Below w.heap.size w w' := by
  have HE : Hid (shape1 135 = ⟨28, 1, 0, false, 0⟩) := Lib.hid (by decide +kernel)
  go_enter Tryd.func113, Tryd.ntmps113
  go_wp2_with (go_at_call 42; first | ((with_reducible refine (inNo _ _ _ _ (by omega)).mono ?_); rintro e w' ⟨rfl, rfl⟩) | ((with_reducible refine (inYes _ _ _ _ (by omega) (by omega)).mono ?_); rintro e w' ⟨rfl, rfl⟩))
  refine bodyPost_ret (v := .agg (shpL ⟨28, 1, 0, false, 0⟩).toArray) (by exact results_cell_row Tryd.results113 _ _ w.heap.size 55 _ (0, 0) _ rfl (heap_alloc_new w _) Tryd.underlying55 rfl (by kernel_rfl)) (by rfl) ⟨by rw [HE.out]; rfl, (Below.refl _ _).alloc (Nat.le_refl _) _⟩
set_option maxHeartbeats 1000000 in
set_option maxRecDepth 100000 in
theorem l03First_w136 (w : World) : Calls Tryd.prog 113 #[.int .i64 136] w fun e w' => e = .returned (shpV (shape1 136)) ∧ Below w.heap.size w w' := by
  have HE : Hid (shape1 136 = ⟨9, 1, 0, true, 0⟩) := Lib.hid (by decide +kernel)
  go_enter Tryd.func113, Tryd.ntmps113
  go_wp2_with (go_at_call 42; first | ((with_reducible refine (inNo _ _ _ _ (by omega)).mono ?_); rintro e w' ⟨rfl, rfl⟩) | ((with_reducible refine (inYes _ _ _ _ (by omega) (by omega)).mono ?_); rintro e w' ⟨rfl, rfl⟩))
  refine bodyPost_ret (v := .agg (shpL ⟨9, 1, 0, true, 0⟩).toArray) (by exact results_cell_row Tryd.results113 _ _ w.heap.size 55 _ (0, 0) _ rfl (heap_alloc_new w _) Tryd.underlying55 rfl (by kernel_rfl)) (by rfl) ⟨by rw [HE.out]; rfl, (Below.refl _ _).alloc (Nat.le_refl _) _⟩
set_option maxHeartbeats 1000000 in
set_option maxRecDepth 100000 in
theorem l03First_w137 (w : World) : Calls Tryd.prog 113 #[.int .i64 137] w fun e w' => e = .returned (shpV (shape1 137)) ∧ Below w.heap.size w w' := by
  have HE : Hid (shape1 137 = ⟨9, 1, 0, false, 0⟩) := Lib.hid (by decide +kernel)
  go_enter Tryd.func113, Tryd.ntmps113
  go_wp2_with (go_at_call 42; first | ((with_reducible refine (inNo _ _ _ _ (by omega)).mono ?_); rintro e w' ⟨rfl, rfl⟩) | ((with_reducible refine (inYes _ _ _ _ (by omega) (by omega)).mono ?_); rintro e w' ⟨rfl, rfl⟩))
  refine bodyPost_ret (v := .agg (shpL ⟨9, 1, 0, false, 0⟩).toArray) (by exact results_cell_row Tryd.results113 _ _ w.heap.size 55 _ (0, 0) _ rfl (heap_alloc_new w _) Tryd.underlying55 rfl (by kernel_rfl)) (by rfl) ⟨by rw [HE.out]; rfl, (Below.refl _ _).alloc (Nat.le_refl _) _⟩
set_option maxHeartbeats 1000000 in
set_option maxRecDepth 100000 in
theorem l03First_w138 (w : World) : Calls Tryd.prog 113 #[.int .i64 138] w fun e w' => e = .returned (shpV (shape1 138)) ∧ Below w.heap.size w w' := by
  have HE : Hid (shape1 138 = ⟨9, 2, 0, true, 0⟩) := Lib.hid (by decide +kernel)
  go_enter Tryd.func113, Tryd.ntmps113
  go_wp2_with (go_at_call 42; first | ((with_reducible refine (inNo _ _ _ _ (by omega)).mono ?_); rintro e w' ⟨rfl, rfl⟩) | ((with_reducible refine (inYes _ _ _ _ (by omega) (by omega)).mono ?_); rintro e w' ⟨rfl, rfl⟩))
  refine bodyPost_ret (v := .agg (shpL ⟨9, 2, 0, true, 0⟩).toArray) (by exact results_cell_row Tryd.results113 _ _ w.heap.size 55 _ (0, 0) _ rfl (heap_alloc_new w _) Tryd.underlying55 rfl (by kernel_rfl)) (by rfl) ⟨by rw [HE.out]; rfl, (Below.refl _ _).alloc (Nat.le_refl _) _⟩
set_option maxHeartbeats 1000000 in
set_option maxRecDepth 100000 in
theorem l03First_w139 (w : World) : Calls Tryd.prog 113 #[.int .i64 139] w fun e w' => e = .returned (shpV (shape1 139)) ∧ Below w.heap.size w w' := by
  have HE : Hid (shape1 139 = ⟨9, 2, 0, false, 0⟩) := Lib.hid (by decide +kernel)
  go_enter Tryd.func113, Tryd.ntmps113
  go_wp2_with (go_at_call 42; first | ((with_reducible refine (inNo _ _ _ _ (by omega)).mono ?_); rintro e w' ⟨rfl, rfl⟩) | ((with_reducible refine (inYes _ _ _ _ (by omega) (by omega)).mono ?_); rintro e w' ⟨rfl, rfl⟩))
  refine bodyPost_ret (v := .agg (shpL ⟨9, 2, 0, false, 0⟩).toArray) (by exact results_cell_row Tryd.results113 _ _ w.heap.size 55 _ (0, 0) _ rfl (heap_alloc_new w _) Tryd.underlying55 rfl (by kernel_rfl)) (by rfl) ⟨by rw [HE.out]; rfl, (Below.refl _ _).alloc (Nat.le_refl _) _⟩
set_option maxHeartbeats 1000000 in
set_option maxRecDepth 100000 in
theorem l03First_w141 (w : World) : Calls Tryd.prog 113 #[.int .i64 141] w fun e w' => e = .returned (shpV (shape1 141)) ∧ Below w.heap.size w w' := by
  have HE : Hid (shape1 141 = ⟨25, 2, 0, false, 0⟩) := Lib.hid (by decide +kernel)
  go_enter Tryd.func113, Tryd.ntmps113
  go_wp2_with (go_at_call 42; first | ((with_reducible refine (inNo _ _ _ _ (by omega)).mono ?_); rintro e w' ⟨rfl, rfl⟩) | ((with_reducible refine (inYes _ _ _ _ (by omega) (by omega)).mono ?_); rintro e w' ⟨rfl, rfl⟩))
  refine bodyPost_ret (v := .agg (shpL ⟨25, 2, 0, false, 0⟩).toArray) (by exact results_cell_row Tryd.results113 _ _ w.heap.size 55 _ (0, 0) _ rfl (heap_alloc_new w _) Tryd.underlying55 rfl (by kernel_rfl)) (by rfl) ⟨by rw [HE.out]; rfl, (Below.refl _ _).alloc (Nat.le_refl _) _⟩
set_option maxHeartbeats 1000000 in
set_option maxRecDepth 100000 in
theorem l03First_w143 (w : World) : Calls Tryd.prog 113 #[.int .i64 143] w fun e w' => e = .returned (shpV (shape1 143)) ∧ Below w.heap.size w w' := by
  have HE : Hid (shape1 143 = ⟨0, 6, 6, false, 0⟩) := Lib.hid (by decide +kernel)
  go_enter Tryd.func113, Tryd.ntmps113
  go_wp2_with (go_at_call 42; first | ((with_reducible refine (inNo _ _ _ _ (by omega)).mono ?_); rintro e w' ⟨rfl, rfl⟩) | ((with_reducible refine (inYes _ _ _ _ (by omega) (by omega)).mono ?_); rintro e w' ⟨rfl, rfl⟩))
  refine bodyPost_ret (v := .agg (shpL ⟨0, 6, 6, false, 0⟩).toArray) (by exact results_cell_row Tryd.results113 _ _ w.heap.size 55 _ (0, 0) _ rfl (heap_alloc_new w _) Tryd.underlying55 rfl (by kernel_rfl)) (by rfl) ⟨by rw [HE.out]; rfl, (Below.refl _ _).alloc (Nat.le_refl _) _⟩
set_option maxHeartbeats 1000000 in
set_option maxRecDepth 100000 in
theorem l03First_w144 (w : World) : Calls Tryd.prog 113 #[.int .i64 144] w fun e w' => e = .returned (shpV (shape1 144)) ∧ Below w.heap.size w w' := by
  have HE : Hid (shape1 144 = ⟨37, 14, 0, false, 0⟩) := Lib.hid (by decide +kernel)
  go_enter Tryd.func113, Tryd.ntmps113
  go_wp2_with (go_at_call 42; first | ((with_reducible refine (inNo _ _ _ _ (by omega)).mono ?_); rintro e w' ⟨rfl, rfl⟩) | ((with_reducible refine (inYes _ _ _ _ (by omega) (by omega)).mono ?_); rintro e w' ⟨rfl, rfl⟩))
  refine bodyPost_ret (v := .agg (shpL ⟨37, 14, 0, false, 0⟩).toArray) (by exact results_cell_row Tryd.results113 _ _ w.heap.size 55 _ (0, 0) _ rfl (heap_alloc_new w _) Tryd.underlying55 rfl (by kernel_rfl)) (by rfl) ⟨by rw [HE.out]; rfl, (Below.refl _ _).alloc (Nat.le_refl _) _⟩
set_option maxHeartbeats 1000000 in
set_option maxRecDepth 100000 in
theorem l03First_w152 (w : World) : Calls Tryd.prog 113 #[.int .i64 152] w fun e w' => e = .returned (shpV (shape1 152)) ∧ Below w.heap.size w w' := by
  have HE : Hid (shape1 152 = ⟨39, 14, 0, false, 0⟩) := Lib.hid (by decide +kernel)
  go_enter Tryd.func113, Tryd.ntmps113
  go_wp2_with (go_at_call 42; first | ((with_reducible refine (inNo _ _ _ _ (by omega)).mono ?_); rintro e w' ⟨rfl, rfl⟩) | ((with_reducible refine (inYes _ _ _ _ (by omega) (by omega)).mono ?_); rintro e w' ⟨rfl, rfl⟩))
  refine bodyPost_ret (v := .agg (shpL ⟨39, 14, 0, false, 0⟩).toArray) (by exact results_cell_row Tryd.results113 _ _ w.heap.size 55 _ (0, 0) _ rfl (heap_alloc_new w _) Tryd.underlying55 rfl (by kernel_rfl)) (by rfl) ⟨by rw [HE.out]; rfl, (Below.refl _ _).alloc (Nat.le_refl _) _⟩
set_option maxHeartbeats 1000000 in
set_option maxRecDepth 100000 in
theorem l03First_w153 (w : World) : Calls Tryd.prog 113 #[.int .i64 153] w fun e w' => e = .returned (shpV (shape1 153)) ∧ Below w.heap.size w w' := by
  have HE : Hid (shape1 153 = ⟨40, 14, 0, false, 0⟩) := Lib.hid (by decide +kernel)
  go_enter Tryd.func113, Tryd.ntmps113
  go_wp2_with (go_at_call 42; first | ((with_reducible refine (inNo _ _ _ _ (by omega)).mono ?_); rintro e w' ⟨rfl, rfl⟩) | ((with_reducible refine (inYes _ _ _ _ (by omega) (by omega)).mono ?_); rintro e w' ⟨rfl, rfl⟩))
  refine bodyPost_ret (v := .agg (shpL ⟨40, 14, 0, false, 0⟩).toArray) (by exact results_cell_row Tryd.results113 _ _ w.heap.size 55 _ (0, 0) _ rfl (heap_alloc_new w _) Tryd.underlying55 rfl (by kernel_rfl)) (by rfl) ⟨by rw [HE.out]; rfl, (Below.refl _ _).alloc (Nat.le_refl _) _⟩
set_option maxHeartbeats 1000000 in
set_option maxRecDepth 100000 in
theorem l03First_w164 (w : World) : Calls Tryd.prog 113 #[.int .i64 164] w fun e w' => e = .returned (shpV (shape1 164)) ∧ Below w.heap.size w w' := by
  have HE : Hid (shape1 164 = ⟨42, 14, 0, true, 0⟩) := Lib.hid (by decide +kernel)
  go_enter Tryd.func113, Tryd.ntmps113
  go_wp2_with (go_at_call 42; first | ((with_reducible refine (inNo _ _ _ _ (by omega)).mono ?_); rintro e w' ⟨rfl, rfl⟩) | ((with_reducible refine (inYes _ _ _ _ (by omega) (by omega)).mono ?_); rintro e w' ⟨rfl, rfl⟩))
  refine bodyPost_ret (v := .agg (shpL ⟨42, 14, 0, true, 0⟩).toArray) (by exact results_cell_row Tryd.results113 _ _ w.heap.size 55 _ (0, 0) _ rfl (heap_alloc_new w _) Tryd.underlying55 rfl (by kernel_rfl)) (by rfl) ⟨by rw [HE.out]; rfl, (Below.refl _ _).alloc (Nat.le_refl _) _⟩
set_option maxHeartbeats 1000000 in
set_option maxRecDepth 100000 in
theorem l03First_w168 (w : World) : Calls Tryd.prog 113 #[.int .i64 168] w fun e w' => e = .returned (shpV (shape1 168)) ∧ Below w.heap.size w w' := by
  have HE : Hid (shape1 168 = ⟨10, 3, 0, true, 0⟩) := Lib.hid (by decide +kernel)
  go_enter Tryd.func113, Tryd.ntmps113
  go_wp2_with (go_at_call 42; first | ((with_reducible refine (inNo _ _ _ _ (by omega)).mono ?_); rintro e w' ⟨rfl, rfl⟩) | ((with_reducible refine (inYes _ _ _ _ (by omega) (by omega)).mono ?_); rintro e w' ⟨rfl, rfl⟩))
  refine bodyPost_ret (v := .agg (shpL ⟨10, 3, 0, true, 0⟩).toArray) (by exact results_cell_row Tryd.results113 _ _ w.heap.size 55 _ (0, 0) _ rfl (heap_alloc_new w _) Tryd.underlying55 rfl (by kernel_rfl)) (by rfl) ⟨by rw [HE.out]; rfl, (Below.refl _ _).alloc (Nat.le_refl _) _⟩
set_option maxHeartbeats 1000000 in
set_option maxRecDepth 100000 in
theorem l03First_w169 (w : World) : Calls Tryd.prog 113 #[.int .i64 169] w fun e w' => e = .returned (shpV (shape1 169)) ∧ Below w.heap.size w w' := by
  have HE : Hid (shape1 169 = ⟨10, 3, 0, false, 0⟩) := Lib.hid (by decide +kernel)
  go_enter Tryd.func113, Tryd.ntmps113
  go_wp2_with (go_at_call 42; first | ((with_reducible refine (inNo _ _ _ _ (by omega)).mono ?_); rintro e w' ⟨rfl, rfl⟩) | ((with_reducible refine (inYes _ _ _ _ (by omega) (by omega)).mono ?_); rintro e w' ⟨rfl, rfl⟩))
  refine bodyPost_ret (v := .agg (shpL ⟨10, 3, 0, false, 0⟩).toArray) (by exact results_cell_row Tryd.results113 _ _ w.heap.size 55 _ (0, 0) _ rfl (heap_alloc_new w _) Tryd.underlying55 rfl (by kernel_rfl)) (by rfl) ⟨by rw [HE.out]; rfl, (Below.refl _ _).alloc (Nat.le_refl _) _⟩
set_option maxHeartbeats 1000000 in
set_option maxRecDepth 100000 in
theorem l03First_w170 (w : World) : Calls Tryd.prog 113 #[.int .i64 170] w fun e w' => e = .returned (shpV (shape1 170)) ∧ Below w.heap.size w w' := by
  have HE : Hid (shape1 170 = ⟨41, 14, 0, true, 0⟩) := Lib.hid (by decide +kernel)
  go_enter Tryd.func113, Tryd.ntmps113
  go_wp2_with (go_at_call 42; first | ((with_reducible refine (inNo _ _ _ _ (by omega)).mono ?_); rintro e w' ⟨rfl, rfl⟩) | ((with_reducible refine (inYes _ _ _ _ (by omega) (by omega)).mono ?_); rintro e w' ⟨rfl, rfl⟩))
  refine bodyPost_ret (v := .agg (shpL ⟨41, 14, 0, true, 0⟩).toArray) (by exact results_cell_row Tryd.results113 _ _ w.heap.size 55 _ (0, 0) _ rfl (heap_alloc_new w _) Tryd.underlying55 rfl (by kernel_rfl)) (by rfl) ⟨by rw [HE.out]; rfl, (Below.refl _ _).alloc (Nat.le_refl _) _⟩
set_option maxHeartbeats 1000000 in
set_option maxRecDepth 100000 in
theorem l03First_w192 (w : World) : Calls Tryd.prog 113 #[.int .i64 192] w fun e w' => e = .returned (shpV (shape1 192)) ∧ Below w.heap.size w w' := by
  have HE : Hid (shape1 192 = ⟨0, 11, 2, true, 0⟩) := Lib.hid (by decide +kernel)
  go_enter Tryd.func113, Tryd.ntmps113
  go_wp2_with (go_at_call 42; first | ((with_reducible refine (inNo _ _ _ _ (by omega)).mono ?_); rintro e w' ⟨rfl, rfl⟩) | ((with_reducible refine (inYes _ _ _ _ (by omega) (by omega)).mono ?_); rintro e w' ⟨rfl, rfl⟩))
  refine bodyPost_ret (v := .agg (shpL ⟨0, 11, 2, true, 0⟩).toArray) (by exact results_cell_row Tryd.results113 _ _ w.heap.size 55 _ (0, 0) _ rfl (heap_alloc_new w _) Tryd.underlying55 rfl (by kernel_rfl)) (by rfl) ⟨by rw [HE.out]; rfl, (Below.refl _ _).alloc (Nat.le_refl _) _⟩
set_option maxHeartbeats 1000000 in
set_option maxRecDepth 100000 in
theorem l03First_w193 (w : World) : Calls Tryd.prog 113 #[.int .i64 193] w fun e w' => e = .returned (shpV (shape1 193)) ∧ Below w.heap.size w w' := by
  have HE : Hid (shape1 193 = ⟨0, 11, 2, false, 0⟩) := Lib.hid (by decide +kernel)
  go_enter Tryd.func113, Tryd.ntmps113
  go_wp2_with (go_at_call 42; first | ((with_reducible refine (inNo _ _ _ _ (by omega)).mono ?_); rintro e w' ⟨rfl, rfl⟩) | ((with_reducible refine (inYes _ _ _ _ (by omega) (by omega)).mono ?_); rintro e w' ⟨rfl, rfl⟩))
  refine bodyPost_ret (v := .agg (shpL ⟨0, 11, 2, false, 0⟩).toArray) (by exact results_cell_row Tryd.results113 _ _ w.heap.size 55 _ (0, 0) _ rfl (heap_alloc_new w _) Tryd.underlying55 rfl (by kernel_rfl)) (by rfl) ⟨by rw [HE.out]; rfl, (Below.refl _ _).alloc (Nat.le_refl _) _⟩
set_option maxHeartbeats 1000000 in
set_option maxRecDepth 100000 in
theorem l03First_w195 (w : World) : Calls Tryd.prog 113 #[.int .i64 195] w fun e w' => e = .returned (shpV (shape1 195)) ∧ Below w.heap.size w w' := by
  have HE : Hid (shape1 195 = ⟨34, 14, 0, false, 0⟩) := Lib.hid (by decide +kernel)
  go_enter Tryd.func113, Tryd.ntmps113
  go_wp2_with (go_at_call 42; first | ((with_reducible refine (inNo _ _ _ _ (by omega)).mono ?_); rintro e w' ⟨rfl, rfl⟩) | ((with_reducible refine (inYes _ _ _ _ (by omega) (by omega)).mono ?_); rintro e w' ⟨rfl, rfl⟩))
  refine bodyPost_ret (v := .agg (shpL ⟨34, 14, 0, false, 0⟩).toArray) (by exact results_cell_row Tryd.results113 _ _ w.heap.size 55 _ (0, 0) _ rfl (heap_alloc_new w _) Tryd.underlying55 rfl (by kernel_rfl)) (by rfl) ⟨by rw [HE.out]; rfl, (Below.refl _ _).alloc (Nat.le_refl _) _⟩
set_option maxHeartbeats 1000000 in
set_option maxRecDepth 100000 in
theorem l03First_w198 (w : World) : Calls Tryd.prog 113 #[.int .i64 198] w fun e w' => e = .returned (shpV (shape1 198)) ∧ Below w.heap.size w w' := by
  have HE : Hid (shape1 198 = ⟨0, 5, 7, true, 0⟩) := Lib.hid (by decide +kernel)
  go_enter Tryd.func113, Tryd.ntmps113
  go_wp2_with (go_at_call 42; first | ((with_reducible refine (inNo _ _ _ _ (by omega)).mono ?_); rintro e w' ⟨rfl, rfl⟩) | ((with_reducible refine (inYes _ _ _ _ (by omega) (by omega)).mono ?_); rintro e w' ⟨rfl, rfl⟩))
  refine bodyPost_ret (v := .agg (shpL ⟨0, 5, 7, true, 0⟩).toArray) (by exact results_cell_row Tryd.results113 _ _ w.heap.size 55 _ (0, 0) _ rfl (heap_alloc_new w _) Tryd.underlying55 rfl (by kernel_rfl)) (by rfl) ⟨by rw [HE.out]; rfl, (Below.refl _ _).alloc (Nat.le_refl _) _⟩
set_option maxHeartbeats 1000000 in
set_option maxRecDepth 100000 in
theorem l03First_w199 (w : World) : Calls Tryd.prog 113 #[.int .i64 199] w fun e w' => e = .returned (shpV (shape1 199)) ∧ Below w.heap.size w w' := by
  have HE : Hid (shape1 199 = ⟨0, 5, 7, false, 0⟩) := Lib.hid (by decide +kernel)
  go_enter Tryd.func113, Tryd.ntmps113
  go_wp2_with (go_at_call 42; first | ((with_reducible refine (inNo _ _ _ _ (by omega)).mono ?_); rintro e w' ⟨rfl, rfl⟩) | ((with_reducible refine (inYes _ _ _ _ (by omega) (by omega)).mono ?_); rintro e w' ⟨rfl, rfl⟩))
  refine bodyPost_ret (v := .agg (shpL ⟨0, 5, 7, false, 0⟩).toArray) (by exact results_cell_row Tryd.results113 _ _ w.heap.size 55 _ (0, 0) _ rfl (heap_alloc_new w _) Tryd.underlying55 rfl (by kernel_rfl)) (by rfl) ⟨by rw [HE.out]; rfl, (Below.refl _ _).alloc (Nat.le_refl _) _⟩
set_option maxHeartbeats 1000000 in
set_option maxRecDepth 100000 in
theorem l03First_w205 (w : World) : Calls Tryd.prog 113 #[.int .i64 205] w fun e w' => e = .returned (shpV (shape1 205)) ∧ Below w.heap.size w w' := by
  have HE : Hid (shape1 205 = ⟨44, 15, 0, false, 0⟩) := Lib.hid (by decide +kernel)
  go_enter Tryd.func113, Tryd.ntmps113
  go_wp2_with (go_at_call 42; first | ((with_reducible refine (inNo _ _ _ _ (by omega)).mono ?_); rintro e w' ⟨rfl, rfl⟩) | ((with_reducible refine (inYes _ _ _ _ (by omega) (by omega)).mono ?_); rintro e w' ⟨rfl, rfl⟩))
  refine bodyPost_ret (v := .agg (shpL ⟨44, 15, 0, false, 0⟩).toArray) (by exact results_cell_row Tryd.results113 _ _ w.heap.size 55 _ (0, 0) _ rfl (heap_alloc_new w _) Tryd.underlying55 rfl (by kernel_rfl)) (by rfl) ⟨by rw [HE.out]; rfl, (Below.refl _ _).alloc (Nat.le_refl _) _⟩
set_option maxHeartbeats 1000000 in
set_option maxRecDepth 100000 in
theorem l03First_w208 (w : World) : Calls Tryd.prog 113 #[.int .i64 208] w fun e w' => e = .returned (shpV (shape1 208)) ∧ Below w.heap.size w w' := by
  have HE : Hid (shape1 208 = ⟨0, 12, 2, true, 0⟩) := Lib.hid (by decide +kernel)
  go_enter Tryd.func113, Tryd.ntmps113
  go_wp2_with (go_at_call 42; first | ((with_reducible refine (inNo _ _ _ _ (by omega)).mono ?_); rintro e w' ⟨rfl, rfl⟩) | ((with_reducible refine (inYes _ _ _ _ (by omega) (by omega)).mono ?_); rintro e w' ⟨rfl, rfl⟩))
  refine bodyPost_ret (v := .agg (shpL ⟨0, 12, 2, true, 0⟩).toArray) (by exact results_cell_row Tryd.results113 _ _ w.heap.size 55 _ (0, 0) _ rfl (heap_alloc_new w _) Tryd.underlying55 rfl (by kernel_rfl)) (by rfl) ⟨by rw [HE.out]; rfl, (Below.refl _ _).alloc (Nat.le_refl _) _⟩
set_option maxHeartbeats 1000000 in
set_option maxRecDepth 100000 in
theorem l03First_w209 (w : World) : Calls Tryd.prog 113 #[.int .i64 209] w fun e w' => e = .returned (shpV (shape1 209)) ∧ Below w.heap.size w w' := by
  have HE : Hid (shape1 209 = ⟨0, 12, 2, false, 0⟩) := Lib.hid (by decide +kernel)
  go_enter Tryd.func113, Tryd.ntmps113
  go_wp2_with (go_at_call 42; first | ((with_reducible refine (inNo _ _ _ _ (by omega)).mono ?_); rintro e w' ⟨rfl, rfl⟩) | ((with_reducible refine (inYes _ _ _ _ (by omega) (by omega)).mono ?_); rintro e w' ⟨rfl, rfl⟩))
  refine bodyPost_ret (v := .agg (shpL ⟨0, 12, 2, false, 0⟩).toArray) (by exact results_cell_row Tryd.results113 _ _ w.heap.size 55 _ (0, 0) _ rfl (heap_alloc_new w _) Tryd.underlying55 rfl (by kernel_rfl)) (by rfl) ⟨by rw [HE.out]; rfl, (Below.refl _ _).alloc (Nat.le_refl _) _⟩
set_option maxHeartbeats 1000000 in
set_option maxRecDepth 100000 in
theorem l03First_w210 (w : World) : Calls Tryd.prog 113 #[.int .i64 210] w fun e w' => e = .returned (shpV (shape1 210)) ∧ Below w.heap.size w w' := by
  have HE : Hid (shape1 210 = ⟨0, 13, 2, true, 0⟩) := Lib.hid (by decide +kernel)
  go_enter Tryd.func113, Tryd.ntmps113
  go_wp2_with (go_at_call 42; first | ((with_reducible refine (inNo _ _ _ _ (by omega)).mono ?_); rintro e w' ⟨rfl, rfl⟩) | ((with_reducible refine (inYes _ _ _ _ (by omega) (by omega)).mono ?_); rintro e w' ⟨rfl, rfl⟩))
  refine bodyPost_ret (v := .agg (shpL ⟨0, 13, 2, true, 0⟩).toArray) (by exact results_cell_row Tryd.results113 _ _ w.heap.size 55 _ (0, 0) _ rfl (heap_alloc_new w _) Tryd.underlying55 rfl (by kernel_rfl)) (by rfl) ⟨by rw [HE.out]; rfl, (Below.refl _ _).alloc (Nat.le_refl _) _⟩
set_option maxHeartbeats 1000000 in
set_option maxRecDepth 100000 in
theorem l03First_w211 (w : World) : Calls Tryd.prog 113 #[.int .i64 211] w fun e w' => e = .returned (shpV (shape1 211)) ∧ Below w.heap.size w w' := by
  have HE : Hid (shape1 211 = ⟨0, 13, 2, false, 0⟩) := Lib.hid (by decide +kernel)
  go_enter Tryd.func113, Tryd.ntmps113
  go_wp2_with (go_at_call 42; first | ((with_reducible refine (inNo _ _ _ _ (by omega)).mono ?_); rintro e w' ⟨rfl, rfl⟩) | ((with_reducible refine (inYes _ _ _ _ (by omega) (by omega)).mono ?_); rintro e w' ⟨rfl, rfl⟩))
  refine bodyPost_ret (v := .agg (shpL ⟨0, 13, 2, false, 0⟩).toArray) (by exact results_cell_row Tryd.results113 _ _ w.heap.size 55 _ (0, 0) _ rfl (heap_alloc_new w _) Tryd.underlying55 rfl (by kernel_rfl)) (by rfl) ⟨by rw [HE.out]; rfl, (Below.refl _ _).alloc (Nat.le_refl _) _⟩
set_option maxHeartbeats 1000000 in
set_option maxRecDepth 100000 in
theorem l03First_w232 (w : World) : Calls Tryd.prog 113 #[.int .i64 232] w fun e w' => e = .returned (shpV (shape1 232)) ∧ Below w.heap.size w w' := by
  have HE : Hid (shape1 232 = ⟨31, 10, 0, false, 0⟩) := Lib.hid (by decide +kernel)
  go_enter Tryd.func113, Tryd.ntmps113
  go_wp2_with (go_at_call 42; first | ((with_reducible refine (inNo _ _ _ _ (by omega)).mono ?_); rintro e w' ⟨rfl, rfl⟩) | ((with_reducible refine (inYes _ _ _ _ (by omega) (by omega)).mono ?_); rintro e w' ⟨rfl, rfl⟩))
  refine bodyPost_ret (v := .agg (shpL ⟨31, 10, 0, false, 0⟩).toArray) (by exact results_cell_row Tryd.results113 _ _ w.heap.size 55 _ (0, 0) _ rfl (heap_alloc_new w _) Tryd.underlying55 rfl (by kernel_rfl)) (by rfl) ⟨by rw [HE.out]; rfl, (Below.refl _ _).alloc (Nat.le_refl _) _⟩
set_option maxHeartbeats 1000000 in
set_option maxRecDepth 100000 in
theorem l03First_w233 (w : World) : Calls Tryd.prog 113 #[.int .i64 233] w fun e w' => e = .returned (shpV (shape1 233)) ∧ Below w.heap.size w w' := by
  have HE : Hid (shape1 233 = ⟨32, 10, 0, false, 0⟩) := Lib.hid (by decide +kernel)
  go_enter Tryd.func113, Tryd.ntmps113
  go_wp2_with (go_at_call 42; first | ((with_reducible refine (inNo _ _ _ _ (by omega)).mono ?_); rintro e w' ⟨rfl, rfl⟩) | ((with_reducible refine (inYes _ _ _ _ (by omega) (by omega)).mono ?_); rintro e w' ⟨rfl, rfl⟩))
  refine bodyPost_ret (v := .agg (shpL ⟨32, 10, 0, false, 0⟩).toArray) (by exact results_cell_row Tryd.results113 _ _ w.heap.size 55 _ (0, 0) _ rfl (heap_alloc_new w _) Tryd.underlying55 rfl (by kernel_rfl)) (by rfl) ⟨by rw [HE.out]; rfl, (Below.refl _ _).alloc (Nat.le_refl _) _⟩
set_option maxHeartbeats 1000000 in
set_option maxRecDepth 100000 in
theorem l03First_w235 (w : World) : Calls Tryd.prog 113 #[.int .i64 235] w fun e w' => e = .returned (shpV (shape1 235)) ∧ Below w.heap.size w w' := by
  have HE : Hid (shape1 235 = ⟨32, 9, 0, false, 0⟩) := Lib.hid (by decide +kernel)
  go_enter Tryd.func113, Tryd.ntmps113
  go_wp2_with (go_at_call 42; first | ((with_reducible refine (inNo _ _ _ _ (by omega)).mono ?_); rintro e w' ⟨rfl, rfl⟩) | ((with_reducible refine (inYes _ _ _ _ (by omega) (by omega)).mono ?_); rintro e w' ⟨rfl, rfl⟩))
  refine bodyPost_ret (v := .agg (shpL ⟨32, 9, 0, false, 0⟩).toArray) (by exact results_cell_row Tryd.results113 _ _ w.heap.size 55 _ (0, 0) _ rfl (heap_alloc_new w _) Tryd.underlying55 rfl (by kernel_rfl)) (by rfl) ⟨by rw [HE.out]; rfl, (Below.refl _ _).alloc (Nat.le_refl _) _⟩
set_option maxHeartbeats 1000000 in
set_option maxRecDepth 100000 in
theorem l03First_w244 (w : World) : Calls Tryd.prog 113 #[.int .i64 244] w fun e w' => e = .returned (shpV (shape1 244)) ∧ Below w.heap.size w w' := by
  have HE : Hid (shape1 244 = ⟨38, 14, 0, false, 0⟩) := Lib.hid (by decide +kernel)
  go_enter Tryd.func113, Tryd.ntmps113
  go_wp2_with (go_at_call 42; first | ((with_reducible refine (inNo _ _ _ _ (by omega)).mono ?_); rintro e w' ⟨rfl, rfl⟩) | ((with_reducible refine (inYes _ _ _ _ (by omega) (by omega)).mono ?_); rintro e w' ⟨rfl, rfl⟩))
  refine bodyPost_ret (v := .agg (shpL ⟨38, 14, 0, false, 0⟩).toArray) (by exact results_cell_row Tryd.results113 _ _ w.heap.size 55 _ (0, 0) _ rfl (heap_alloc_new w _) Tryd.underlying55 rfl (by kernel_rfl)) (by rfl) ⟨by rw [HE.out]; rfl, (Below.refl _ _).alloc (Nat.le_refl _) _⟩
set_option maxHeartbeats 1000000 in
set_option maxRecDepth 100000 in
theorem l03First_w246 (w : World) : Calls Tryd.prog 113 #[.int .i64 246] w fun e w' => e = .returned (shpV (shape1 246)) ∧ Below w.heap.size w w' := by
  have HE : Hid (shape1 246 = ⟨0, 6, 3, true, 0⟩) := Lib.hid (by decide +kernel)
  go_enter Tryd.func113, Tryd.ntmps113
  go_wp2_with (go_at_call 42; first | ((with_reducible refine (inNo _ _ _ _ (by omega)).mono ?_); rintro e w' ⟨rfl, rfl⟩) | ((with_reducible refine (inYes _ _ _ _ (by omega) (by omega)).mono ?_); rintro e w' ⟨rfl, rfl⟩))
  refine bodyPost_ret (v := .agg (shpL ⟨0, 6, 3, true, 0⟩).toArray) (by exact results_cell_row Tryd.results113 _ _ w.heap.size 55 _ (0, 0) _ rfl (heap_alloc_new w _) Tryd.underlying55 rfl (by kernel_rfl)) (by rfl) ⟨by rw [HE.out]; rfl, (Below.refl _ _).alloc (Nat.le_refl _) _⟩
set_option maxHeartbeats 1000000 in
set_option maxRecDepth 100000 in
theorem l03First_w247 (w : World) : Calls Tryd.prog 113 #[.int .i64 247] w fun e w' => e = .returned (shpV (shape1 247)) ∧ Below w.heap.size w w' := by
  have HE : Hid (shape1 247 = ⟨0, 6, 3, false, 0⟩) := Lib.hid (by decide +kernel)
  go_enter Tryd.func113, Tryd.ntmps113
  go_wp2_with (go_at_call 42; first | ((with_reducible refine (inNo _ _ _ _ (by omega)).mono ?_); rintro e w' ⟨rfl, rfl⟩) | ((with_reducible refine (inYes _ _ _ _ (by omega) (by omega)).mono ?_); rintro e w' ⟨rfl, rfl⟩))
  refine bodyPost_ret (v := .agg (shpL ⟨0, 6, 3, false, 0⟩).toArray) (by exact results_cell_row Tryd.results113 _ _ w.heap.size 55 _ (0, 0) _ rfl (heap_alloc_new w _) Tryd.underlying55 rfl (by kernel_rfl)) (by rfl) ⟨by rw [HE.out]; rfl, (Below.refl _ _).alloc (Nat.le_refl _) _⟩
set_option maxHeartbeats 1000000 in
set_option maxRecDepth 100000 in
theorem l03First_w254 (w : World) : Calls Tryd.prog 113 #[.int .i64 254] w fun e w' => e = .returned (shpV (shape1 254)) ∧ Below w.heap.size w w' := by
  have HE : Hid (shape1 254 = ⟨0, 6, 4, true, 0⟩) := Lib.hid (by decide +kernel)
  go_enter Tryd.func113, Tryd.ntmps113
  go_wp2_with (go_at_call 42; first | ((with_reducible refine (inNo _ _ _ _ (by omega)).mono ?_); rintro e w' ⟨rfl, rfl⟩) | ((with_reducible refine (inYes _ _ _ _ (by omega) (by omega)).mono ?_); rintro e w' ⟨rfl, rfl⟩))
  refine bodyPost_ret (v := .agg (shpL ⟨0, 6, 4, true, 0⟩).toArray) (by exact results_cell_row Tryd.results113 _ _ w.heap.size 55 _ (0, 0) _ rfl (heap_alloc_new w _) Tryd.underlying55 rfl (by kernel_rfl)) (by rfl) ⟨by rw [HE.out]; rfl, (Below.refl _ _).alloc (Nat.le_refl _) _⟩
set_option maxHeartbeats 1000000 in
set_option maxRecDepth 100000 in
theorem l03First_w255 (w : World) : Calls Tryd.prog 113 #[.int .i64 255] w fun e w' => e = .returned (shpV (shape1 255)) ∧ Below w.heap.size w w' := by
  have HE : Hid (shape1 255 = ⟨0, 6, 5, false, 0⟩) := Lib.hid (by decide +kernel)
  go_enter Tryd.func113, Tryd.ntmps113
  go_wp2_with (go_at_call 42; first | ((with_reducible refine (inNo _ _ _ _ (by omega)).mono ?_); rintro e w' ⟨rfl, rfl⟩) | ((with_reducible refine (inYes _ _ _ _ (by omega) (by omega)).mono ?_); rintro e w' ⟨rfl, rfl⟩))
  refine bodyPost_ret (v := .agg (shpL ⟨0, 6, 5, false, 0⟩).toArray) (by exact results_cell_row Tryd.results113 _ _ w.heap.size 55 _ (0, 0) _ rfl (heap_alloc_new w _) Tryd.underlying55 rfl (by kernel_rfl)) (by rfl) ⟨by rw [HE.out]; rfl, (Below.refl _ _).alloc (Nat.le_refl _) _⟩
set_option maxHeartbeats 1000000 in
set_option maxRecDepth 100000 in
theorem l03First_rest (b : Nat) (w : World) (hb : b < 256) (h : ¬ (80 ≤ b ∧ b ≤ 87) ∧ ¬ (88 ≤ b ∧ b ≤ 95) ∧ ¬ (112 ≤ b ∧ b ≤ 127) ∧ ¬ (176 ≤ b ∧ b ≤ 183) ∧ ¬ (184 ≤ b ∧ b ≤ 191) ∧ b ≠ 99 ∧ b ≠ 104 ∧ b ≠ 106 ∧ b ≠ 128 ∧ b ≠ 129 ∧ b ≠ 131 ∧ b ≠ 132 ∧ b ≠ 133 ∧ b ≠ 134 ∧ b ≠ 135 ∧ b ≠ 136 ∧ b ≠ 137 ∧ b ≠ 138 ∧ b ≠ 139 ∧ b ≠ 141 ∧ b ≠ 143 ∧ b ≠ 144 ∧ b ≠ 152 ∧ b ≠ 153 ∧ b ≠ 164 ∧ b ≠ 168 ∧ b ≠ 169 ∧ b ≠ 170 ∧ b ≠ 192 ∧ b ≠ 193 ∧ b ≠ 195 ∧ b ≠ 198 ∧ b ≠ 199 ∧ b ≠ 205 ∧ b ≠ 208 ∧ b ≠ 209 ∧ b ≠ 210 ∧ b ≠ 211 ∧ b ≠ 232 ∧ b ≠ 233 ∧ b ≠ 235 ∧ b ≠ 244 ∧ b ≠ 246 ∧ b ≠ 247 ∧ b ≠ 254 ∧ b ≠ 255 ∧ ¬ (b < 64 ∧ b % 8 < 6)) : Calls Tryd.prog 113 #[.int .i64 (b : Int)] w fun e w' => e = .returned (shpV (shape1 b)) ∧ Below w.heap.size w w' := by
  have HE := Lib.hid (shape1_rest b hb h)
  have HT : Hid (b < 64 → decide ((b : Int).tmod 8 < 6) = false) := Lib.hid (fun h1 => decide_eq_false (fun h2 => by rw [Int.tmod_eq_emod_of_nonneg (by omega)] at h2; omega))
  have n99 : ((b : Int) == 99) = false := beq_eq_false_iff_ne.mpr (by omega)
  have n104 : ((b : Int) == 104) = false := beq_eq_false_iff_ne.mpr (by omega)
  have n106 : ((b : Int) == 106) = false := beq_eq_false_iff_ne.mpr (by omega)
  have n128 : ((b : Int) == 128) = false := beq_eq_false_iff_ne.mpr (by omega)
  have n129 : ((b : Int) == 129) = false := beq_eq_false_iff_ne.mpr (by omega)
  have n131 : ((b : Int) == 131) = false := beq_eq_false_iff_ne.mpr (by omega)
  have n132 : ((b : Int) == 132) = false := beq_eq_false_iff_ne.mpr (by omega)
  have n133 : ((b : Int) == 133) = false := beq_eq_false_iff_ne.mpr (by omega)
  have n134 : ((b : Int) == 134) = false := beq_eq_false_iff_ne.mpr (by omega)
  have n135 : ((b : Int) == 135) = false := beq_eq_false_iff_ne.mpr (by omega)
  have n136 : ((b : Int) == 136) = false := beq_eq_false_iff_ne.mpr (by omega)
  have n137 : ((b : Int) == 137) = false := beq_eq_false_iff_ne.mpr (by omega)
  have n138 : ((b : Int) == 138) = false := beq_eq_false_iff_ne.mpr (by omega)
  have n139 : ((b : Int) == 139) = false := beq_eq_false_iff_ne.mpr (by omega)
  have n141 : ((b : Int) == 141) = false := beq_eq_false_iff_ne.mpr (by omega)
  have n143 : ((b : Int) == 143) = false := beq_eq_false_iff_ne.mpr (by omega)
  have n144 : ((b : Int) == 144) = false := beq_eq_false_iff_ne.mpr (by omega)
  have n152 : ((b : Int) == 152) = false := beq_eq_false_iff_ne.mpr (by omega)
  have n153 : ((b : Int) == 153) = false := beq_eq_false_iff_ne.mpr (by omega)
  have n164 : ((b : Int) == 164) = false := beq_eq_false_iff_ne.mpr (by omega)
  have n168 : ((b : Int) == 168) = false := beq_eq_false_iff_ne.mpr (by omega)
  have n169 : ((b : Int) == 169) = false := beq_eq_false_iff_ne.mpr (by omega)
  have n170 : ((b : Int) == 170) = false := beq_eq_false_iff_ne.mpr (by omega)
  have n192 : ((b : Int) == 192) = false := beq_eq_false_iff_ne.mpr (by omega)
  have n193 : ((b : Int) == 193) = false := beq_eq_false_iff_ne.mpr (by omega)
  have n195 : ((b : Int) == 195) = false := beq_eq_false_iff_ne.mpr (by omega)
  have n198 : ((b : Int) == 198) = false := beq_eq_false_iff_ne.mpr (by omega)
  have n199 : ((b : Int) == 199) = false := beq_eq_false_iff_ne.mpr (by omega)
  have n205 : ((b : Int) == 205) = false := beq_eq_false_iff_ne.mpr (by omega)
  have n208 : ((b : Int) == 208) = false := beq_eq_false_iff_ne.mpr (by omega)
  have n209 : ((b : Int) == 209) = false := beq_eq_false_iff_ne.mpr (by omega)
  have n210 : ((b : Int) == 210) = false := beq_eq_false_iff_ne.mpr (by omega)
  have n211 : ((b : Int) == 211) = false := beq_eq_false_iff_ne.mpr (by omega)
  have n232 : ((b : Int) == 232) = false := beq_eq_false_iff_ne.mpr (by omega)
  have n233 : ((b : Int) == 233) = false := beq_eq_false_iff_ne.mpr (by omega)
  have n235 : ((b : Int) == 235) = false := beq_eq_false_iff_ne.mpr (by omega)
  have n244 : ((b : Int) == 244) = false := beq_eq_false_iff_ne.mpr (by omega)
  have n246 : ((b : Int) == 246) = false := beq_eq_false_iff_ne.mpr (by omega)
  have n247 : ((b : Int) == 247) = false := beq_eq_false_iff_ne.mpr (by omega)
  have n254 : ((b : Int) == 254) = false := beq_eq_false_iff_ne.mpr (by omega)
  have n255 : ((b : Int) == 255) = false := beq_eq_false_iff_ne.mpr (by omega)
  by_cases h64 : b < 64
  · have d0 : decide ((b : Int) < 64) = true := decide_eq_true (by omega)
    have d1 := HT.out h64
    go_enter Tryd.func113, Tryd.ntmps113
    go_wp2_with (go_at_call 42; first | ((with_reducible refine (inNo _ _ _ _ (by omega)).mono ?_); rintro e w' ⟨rfl, rfl⟩) | ((with_reducible refine (inYes _ _ _ _ (by omega) (by omega)).mono ?_); rintro e w' ⟨rfl, rfl⟩))
    refine bodyPost_ret (v := .agg (shpL noShp).toArray) (by exact results_cell_row Tryd.results113 _ _ w.heap.size 55 _ (0, 0) _ rfl (heap_alloc_new w _) Tryd.underlying55 rfl (by kernel_rfl)) (by rfl) ⟨by rw [HE.out]; rfl, (Below.refl _ _).alloc (Nat.le_refl _) _⟩
  · have d0 : decide ((b : Int) < 64) = false := decide_eq_false (by omega)
    go_enter Tryd.func113, Tryd.ntmps113
    go_wp2_with (go_at_call 42; first | ((with_reducible refine (inNo _ _ _ _ (by omega)).mono ?_); rintro e w' ⟨rfl, rfl⟩) | ((with_reducible refine (inYes _ _ _ _ (by omega) (by omega)).mono ?_); rintro e w' ⟨rfl, rfl⟩))
    refine bodyPost_ret (v := .agg (shpL noShp).toArray) (by exact results_cell_row Tryd.results113 _ _ w.heap.size 55 _ (0, 0) _ rfl (heap_alloc_new w _) Tryd.underlying55 rfl (by kernel_rfl)) (by rfl) ⟨by rw [HE.out]; rfl, (Below.refl _ _).alloc (Nat.le_refl _) _⟩
set_option maxHeartbeats 1000000 in
set_option maxRecDepth 100000 in
theorem l03First_a0 (q : Nat) (w : World) (hq : q < 8) : Calls Tryd.prog 113 #[.int .i64 ((8 * q + 0 : Nat) : Int)] w fun e w' => e = .returned (shpV (shape1 (8 * q + 0))) ∧ Below w.heap.size w w' := by
  have HE : Hid (shape1 (8 * q + 0) = ⟨(q : Int) + 1, 1, 0, true, 0⟩) := Lib.hid (by
    unfold shape1
    rw [if_pos ⟨by omega, by omega⟩, show (8 * q + 0) % 8 = 0 by omega, show (8 * q + 0) / 8 = q by omega, Int.add_comm]
    rfl)
  obtain ⟨b, hb⟩ : ∃ b : Int, b = ((8 * q + 0 : Nat) : Int) := ⟨_, rfl⟩
  rw [← hb]
  have e1 : b.tmod 8 = 0 := by rw [Int.tmod_eq_emod_of_nonneg (by omega)]; omega
  have e2 : b.tdiv 8 = (q : Int) := by rw [Int.tdiv_eq_ediv_of_nonneg (by omega)]; omega
  have e3 : b.tmod 2 = 0 := by rw [Int.tmod_eq_emod_of_nonneg (by omega)]; omega
  have d0 : decide (b < 64) = true := decide_eq_true (by omega)
  have q2 : (q : Int) < 8 := by omega
  clear hb
  go_enter Tryd.func113, Tryd.ntmps113
  go_wp2
  refine bodyPost_ret (v := .agg (shpL ⟨(q : Int) + 1, 1, 0, true, 0⟩).toArray) (by exact results_cell_row Tryd.results113 _ _ w.heap.size 55 _ (0, 0) _ rfl ((Below.heap_alloc _ _ _ (by simp)).trans (heap_alloc_new w _)) Tryd.underlying55 rfl (by kernel_rfl)) (by rfl) ⟨by rw [HE.out]; rfl, ((Below.refl _ _).alloc (Nat.le_refl _) _).alloc (by simp) _⟩
set_option maxHeartbeats 1000000 in
set_option maxRecDepth 100000 in
theorem l03First_a1 (q : Nat) (w : World) (hq : q < 8) : Calls Tryd.prog 113 #[.int .i64 ((8 * q + 1 : Nat) : Int)] w fun e w' => e = .returned (shpV (shape1 (8 * q + 1))) ∧ Below w.heap.size w w' := by
  have HE : Hid (shape1 (8 * q + 1) = ⟨(q : Int) + 1, 1, 0, false, 0⟩) := Lib.hid (by
    unfold shape1
    rw [if_pos ⟨by omega, by omega⟩, show (8 * q + 1) % 8 = 1 by omega, show (8 * q + 1) / 8 = q by omega, Int.add_comm]
    rfl)
  obtain ⟨b, hb⟩ : ∃ b : Int, b = ((8 * q + 1 : Nat) : Int) := ⟨_, rfl⟩
  rw [← hb]
  have e1 : b.tmod 8 = 1 := by rw [Int.tmod_eq_emod_of_nonneg (by omega)]; omega
  have e2 : b.tdiv 8 = (q : Int) := by rw [Int.tdiv_eq_ediv_of_nonneg (by omega)]; omega
  have e3 : b.tmod 2 = 1 := by rw [Int.tmod_eq_emod_of_nonneg (by omega)]; omega
  have d0 : decide (b < 64) = true := decide_eq_true (by omega)
  have q2 : (q : Int) < 8 := by omega
  clear hb
  go_enter Tryd.func113, Tryd.ntmps113
  go_wp2
  refine bodyPost_ret (v := .agg (shpL ⟨(q : Int) + 1, 1, 0, false, 0⟩).toArray) (by exact results_cell_row Tryd.results113 _ _ w.heap.size 55 _ (0, 0) _ rfl ((Below.heap_alloc _ _ _ (by simp)).trans (heap_alloc_new w _)) Tryd.underlying55 rfl (by kernel_rfl)) (by rfl) ⟨by rw [HE.out]; rfl, ((Below.refl _ _).alloc (Nat.le_refl _) _).alloc (by simp) _⟩
set_option maxHeartbeats 1000000 in
set_option maxRecDepth 100000 in
theorem l03First_a2 (q : Nat) (w : World) (hq : q < 8) : Calls Tryd.prog 113 #[.int .i64 ((8 * q + 2 : Nat) : Int)] w fun e w' => e = .returned (shpV (shape1 (8 * q + 2))) ∧ Below w.heap.size w w' := by
  have HE : Hid (shape1 (8 * q + 2) = ⟨(q : Int) + 1, 2, 0, true, 0⟩) := Lib.hid (by
    unfold shape1
    rw [if_pos ⟨by omega, by omega⟩, show (8 * q + 2) % 8 = 2 by omega, show (8 * q + 2) / 8 = q by omega, Int.add_comm]
    rfl)
  obtain ⟨b, hb⟩ : ∃ b : Int, b = ((8 * q + 2 : Nat) : Int) := ⟨_, rfl⟩
  rw [← hb]
  have e1 : b.tmod 8 = 2 := by rw [Int.tmod_eq_emod_of_nonneg (by omega)]; omega
  have e2 : b.tdiv 8 = (q : Int) := by rw [Int.tdiv_eq_ediv_of_nonneg (by omega)]; omega
  have e3 : b.tmod 2 = 0 := by rw [Int.tmod_eq_emod_of_nonneg (by omega)]; omega
  have d0 : decide (b < 64) = true := decide_eq_true (by omega)
  have q2 : (q : Int) < 8 := by omega
  clear hb
  go_enter Tryd.func113, Tryd.ntmps113
  go_wp2
  refine bodyPost_ret (v := .agg (shpL ⟨(q : Int) + 1, 2, 0, true, 0⟩).toArray) (by exact results_cell_row Tryd.results113 _ _ w.heap.size 55 _ (0, 0) _ rfl ((Below.heap_alloc _ _ _ (by simp)).trans (heap_alloc_new w _)) Tryd.underlying55 rfl (by kernel_rfl)) (by rfl) ⟨by rw [HE.out]; rfl, ((Below.refl _ _).alloc (Nat.le_refl _) _).alloc (by simp) _⟩
set_option maxHeartbeats 1000000 in
set_option maxRecDepth 100000 in
theorem l03First_a3 (q : Nat) (w : World) (hq : q < 8) : Calls Tryd.prog 113 #[.int .i64 ((8 * q + 3 : Nat) : Int)] w fun e w' => e = .returned (shpV (shape1 (8 * q + 3))) ∧ Below w.heap.size w w' := by
  have HE : Hid (shape1 (8 * q + 3) = ⟨(q : Int) + 1, 2, 0, false, 0⟩) := Lib.hid (by
    unfold shape1
    rw [if_pos ⟨by omega, by omega⟩, show (8 * q + 3) % 8 = 3 by omega, show (8 * q + 3) / 8 = q by omega, Int.add_comm]
    rfl)
  obtain ⟨b, hb⟩ : ∃ b : Int, b = ((8 * q + 3 : Nat) : Int) := ⟨_, rfl⟩
  rw [← hb]
  have e1 : b.tmod 8 = 3 := by rw [Int.tmod_eq_emod_of_nonneg (by omega)]; omega
  have e2 : b.tdiv 8 = (q : Int) := by rw [Int.tdiv_eq_ediv_of_nonneg (by omega)]; omega
  have e3 : b.tmod 2 = 1 := by rw [Int.tmod_eq_emod_of_nonneg (by omega)]; omega
  have d0 : decide (b < 64) = true := decide_eq_true (by omega)
  have q2 : (q : Int) < 8 := by omega
  clear hb
  go_enter Tryd.func113, Tryd.ntmps113
  go_wp2
  refine bodyPost_ret (v := .agg (shpL ⟨(q : Int) + 1, 2, 0, false, 0⟩).toArray) (by exact results_cell_row Tryd.results113 _ _ w.heap.size 55 _ (0, 0) _ rfl ((Below.heap_alloc _ _ _ (by simp)).trans (heap_alloc_new w _)) Tryd.underlying55 rfl (by kernel_rfl)) (by rfl) ⟨by rw [HE.out]; rfl, ((Below.refl _ _).alloc (Nat.le_refl _) _).alloc (by simp) _⟩
set_option maxHeartbeats 1000000 in
set_option maxRecDepth 100000 in
theorem l03First_a4 (q : Nat) (w : World) (hq : q < 8) : Calls Tryd.prog 113 #[.int .i64 ((8 * q + 4 : Nat) : Int)] w fun e w' => e = .returned (shpV (shape1 (8 * q + 4))) ∧ Below w.heap.size w w' := by
  have HE : Hid (shape1 (8 * q + 4) = ⟨(q : Int) + 1, 3, 0, true, 0⟩) := Lib.hid (by
    unfold shape1
    rw [if_pos ⟨by omega, by omega⟩, show (8 * q + 4) % 8 = 4 by omega, show (8 * q + 4) / 8 = q by omega, Int.add_comm]
    rfl)
  obtain ⟨b, hb⟩ : ∃ b : Int, b = ((8 * q + 4 : Nat) : Int) := ⟨_, rfl⟩
  rw [← hb]
  have e1 : b.tmod 8 = 4 := by rw [Int.tmod_eq_emod_of_nonneg (by omega)]; omega
  have e2 : b.tdiv 8 = (q : Int) := by rw [Int.tdiv_eq_ediv_of_nonneg (by omega)]; omega
  have e3 : b.tmod 2 = 0 := by rw [Int.tmod_eq_emod_of_nonneg (by omega)]; omega
  have d0 : decide (b < 64) = true := decide_eq_true (by omega)
  have q2 : (q : Int) < 8 := by omega
  clear hb
  go_enter Tryd.func113, Tryd.ntmps113
  go_wp2
  refine bodyPost_ret (v := .agg (shpL ⟨(q : Int) + 1, 3, 0, true, 0⟩).toArray) (by exact results_cell_row Tryd.results113 _ _ w.heap.size 55 _ (0, 0) _ rfl ((Below.heap_alloc _ _ _ (by simp)).trans (heap_alloc_new w _)) Tryd.underlying55 rfl (by kernel_rfl)) (by rfl) ⟨by rw [HE.out]; rfl, ((Below.refl _ _).alloc (Nat.le_refl _) _).alloc (by simp) _⟩
set_option maxHeartbeats 1000000 in
set_option maxRecDepth 100000 in
theorem l03First_a5 (q : Nat) (w : World) (hq : q < 8) : Calls Tryd.prog 113 #[.int .i64 ((8 * q + 5 : Nat) : Int)] w fun e w' => e = .returned (shpV (shape1 (8 * q + 5))) ∧ Below w.heap.size w w' := by
  have HE : Hid (shape1 (8 * q + 5) = ⟨(q : Int) + 1, 3, 0, false, 0⟩) := Lib.hid (by
    unfold shape1
    rw [if_pos ⟨by omega, by omega⟩, show (8 * q + 5) % 8 = 5 by omega, show (8 * q + 5) / 8 = q by omega, Int.add_comm]
    rfl)
  obtain ⟨b, hb⟩ : ∃ b : Int, b = ((8 * q + 5 : Nat) : Int) := ⟨_, rfl⟩
  rw [← hb]
  have e1 : b.tmod 8 = 5 := by rw [Int.tmod_eq_emod_of_nonneg (by omega)]; omega
  have e2 : b.tdiv 8 = (q : Int) := by rw [Int.tdiv_eq_ediv_of_nonneg (by omega)]; omega
  have e3 : b.tmod 2 = 1 := by rw [Int.tmod_eq_emod_of_nonneg (by omega)]; omega
  have d0 : decide (b < 64) = true := decide_eq_true (by omega)
  have q2 : (q : Int) < 8 := by omega
  clear hb
  go_enter Tryd.func113, Tryd.ntmps113
  go_wp2
  refine bodyPost_ret (v := .agg (shpL ⟨(q : Int) + 1, 3, 0, false, 0⟩).toArray) (by exact results_cell_row Tryd.results113 _ _ w.heap.size 55 _ (0, 0) _ rfl ((Below.heap_alloc _ _ _ (by simp)).trans (heap_alloc_new w _)) Tryd.underlying55 rfl (by kernel_rfl)) (by rfl) ⟨by rw [HE.out]; rfl, ((Below.refl _ _).alloc (Nat.le_refl _) _).alloc (by simp) _⟩
theorem l03FirstC (b : Nat) (w : World) (hb : b < 256) : Calls Tryd.prog 113 #[.int .i64 (b : Int)] w fun e w' => e = .returned (shpV (shape1 b)) ∧ Below w.heap.size w w' := by
  by_cases a : b < 64 ∧ b % 8 < 6
  · obtain ⟨q, i, rfl, hi, hq⟩ : ∃ q i, b = 8 * q + i ∧ i < 6 ∧ q < 8 := ⟨b / 8, b % 8, by omega, a.2, by omega⟩
    rcases (show i = 0 ∨ i = 1 ∨ i = 2 ∨ i = 3 ∨ i = 4 ∨ i = 5 by omega) with rfl | rfl | rfl | rfl | rfl | rfl
    · exact l03First_a0 q w hq
    · exact l03First_a1 q w hq
    · exact l03First_a2 q w hq
    · exact l03First_a3 q w hq
    · exact l03First_a4 q w hq
    · exact l03First_a5 q w hq
  by_cases r80 : 80 ≤ b ∧ b ≤ 87
  · exact l03First_w80 b w hb r80.1 r80.2
  by_cases r88 : 88 ≤ b ∧ b ≤ 95
  · exact l03First_w88 b w hb r88.1 r88.2
  by_cases r112 : 112 ≤ b ∧ b ≤ 127
  · exact l03First_w112 b w hb r112.1 r112.2
  by_cases r176 : 176 ≤ b ∧ b ≤ 183
  · exact l03First_w176 b w hb r176.1 r176.2
  by_cases r184 : 184 ≤ b ∧ b ≤ 191
  · exact l03First_w184 b w hb r184.1 r184.2
  by_cases o99 : b = 99
  · subst o99; exact l03First_w99 w
  by_cases o104 : b = 104
  · subst o104; exact l03First_w104 w
  by_cases o106 : b = 106
  · subst o106; exact l03First_w106 w
  by_cases o128 : b = 128
  · subst o128; exact l03First_w128 w
  by_cases o129 : b = 129
  · subst o129; exact l03First_w129 w
  by_cases o131 : b = 131
  · subst o131; exact l03First_w131 w
  by_cases o132 : b = 132
  · subst o132; exact l03First_w132 w
  by_cases o133 : b = 133
  · subst o133; exact l03First_w133 w
  by_cases o134 : b = 134
  · subst o134; exact l03First_w134 w
  by_cases o135 : b = 135
  · subst o135; exact l03First_w135 w
  by_cases o136 : b = 136
  · subst o136; exact l03First_w136 w
  by_cases o137 : b = 137
  · subst o137; exact l03First_w137 w
  by_cases o138 : b = 138
  · subst o138; exact l03First_w138 w
  by_cases o139 : b = 139
  · subst o139; exact l03First_w139 w
  by_cases o141 : b = 141
  · subst o141; exact l03First_w141 w
  by_cases o143 : b = 143
  · subst o143; exact l03First_w143 w
  by_cases o144 : b = 144
  · subst o144; exact l03First_w144 w
  by_cases o152 : b = 152
  · subst o152; exact l03First_w152 w
  by_cases o153 : b = 153
  · subst o153; exact l03First_w153 w
  by_cases o164 : b = 164
  · subst o164; exact l03First_w164 w
  by_cases o168 : b = 168
  · subst o168; exact l03First_w168 w
  by_cases o169 : b = 169
  · subst o169; exact l03First_w169 w
  by_cases o170 : b = 170
  · subst o170; exact l03First_w170 w
  by_cases o192 : b = 192
  · subst o192; exact l03First_w192 w
  by_cases o193 : b = 193
  · subst o193; exact l03First_w193 w
  by_cases o195 : b = 195
  · subst o195; exact l03First_w195 w
  by_cases o198 : b = 198
  · subst o198; exact l03First_w198 w
  by_cases o199 : b = 199
  · subst o199; exact l03First_w199 w
  by_cases o205 : b = 205
  · subst o205; exact l03First_w205 w
  by_cases o208 : b = 208
  · subst o208; exact l03First_w208 w
  by_cases o209 : b = 209
  · subst o209; exact l03First_w209 w
  by_cases o210 : b = 210
  · subst o210; exact l03First_w210 w
  by_cases o211 : b = 211
  · subst o211; exact l03First_w211 w
  by_cases o232 : b = 232
  · subst o232; exact l03First_w232 w
  by_cases o233 : b = 233
  · subst o233; exact l03First_w233 w
  by_cases o235 : b = 235
  · subst o235; exact l03First_w235 w
  by_cases o244 : b = 244
  · subst o244; exact l03First_w244 w
  by_cases o246 : b = 246
  · subst o246; exact l03First_w246 w
  by_cases o247 : b = 247
  · subst o247; exact l03First_w247 w
  by_cases o254 : b = 254
  · subst o254; exact l03First_w254 w
  by_cases o255 : b = 255
  · subst o255; exact l03First_w255 w
  exact l03First_rest b w hb (by omega)
end Go.Proofs.YtinjpobepcenfaaDoor
