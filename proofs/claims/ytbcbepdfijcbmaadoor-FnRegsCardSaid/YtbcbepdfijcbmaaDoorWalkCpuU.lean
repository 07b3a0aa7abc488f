/-
  What spec.l07Set gives of a register that there is; conditions: those in each head.
-/
import Derived.Test.YtbcbepdfijcbmaaDoorWalkCpuS
import Derived.Deep.Cut
namespace Go.Proofs.YtbcbepdfijcbmaaDoor
open Go.RowKit
set_option linter.unusedVariables false
theorem setNew (w : World) (V : Array Value) : Cpb ((w.alloc (.cells V 27)).alloc (.cells #[.int .i64 0, .int .i64 0, .int .i64 0, .int .i64 0, .int .i64 0, .int .i64 0, .int .i64 0, .int .i64 0, .int .i64 0, .int .i64 0, .int .i64 0, .int .i64 0, .int .i64 0, .int .i64 0, .int .i64 0, .int .i64 0, .int .i64 0, .int .i64 0] 27)) w.heap.size V ∧ Cpb ((w.alloc (.cells V 27)).alloc (.cells #[.int .i64 0, .int .i64 0, .int .i64 0, .int .i64 0, .int .i64 0, .int .i64 0, .int .i64 0, .int .i64 0, .int .i64 0, .int .i64 0, .int .i64 0, .int .i64 0, .int .i64 0, .int .i64 0, .int .i64 0, .int .i64 0, .int .i64 0, .int .i64 0] 27)) (w.heap.size + 1) #[.int .i64 0, .int .i64 0, .int .i64 0, .int .i64 0, .int .i64 0, .int .i64 0, .int .i64 0, .int .i64 0, .int .i64 0, .int .i64 0, .int .i64 0, .int .i64 0, .int .i64 0, .int .i64 0, .int .i64 0, .int .i64 0, .int .i64 0, .int .i64 0] ∧ Below w.heap.size w ((w.alloc (.cells V 27)).alloc (.cells #[.int .i64 0, .int .i64 0, .int .i64 0, .int .i64 0, .int .i64 0, .int .i64 0, .int .i64 0, .int .i64 0, .int .i64 0, .int .i64 0, .int .i64 0, .int .i64 0, .int .i64 0, .int .i64 0, .int .i64 0, .int .i64 0, .int .i64 0, .int .i64 0] 27)) := by
  have e1 := heap_alloc_new w (.cells V 27)
  have e2 := heap_alloc_new (w.alloc (.cells V 27)) (.cells #[.int .i64 0, .int .i64 0, .int .i64 0, .int .i64 0, .int .i64 0, .int .i64 0, .int .i64 0, .int .i64 0, .int .i64 0, .int .i64 0, .int .i64 0, .int .i64 0, .int .i64 0, .int .i64 0, .int .i64 0, .int .i64 0, .int .i64 0, .int .i64 0] 27)
  have z2 : (w.alloc (.cells V 27)).heap.size = w.heap.size + 1 := by simp
  rw [z2] at e2
  exact ⟨(Below.heap_alloc _ _ _ (by simp)).trans e1, e2, ((Below.refl _ _).alloc (Nat.le_refl _) _).alloc (by simp) _⟩
theorem Cpb.set {W : World} {b : Nat} {c : Cp} (h : Cpb W b (cpV c)) (k : Nat) (hk : k < 16) (v : Int) : Cpb (W.setCell ⟨b, k, none⟩ (.int .i64 v)) b (cpV (c.set k v)) := row_set h k _ (cpV_set c v k hk)
theorem Cpb.far {W : World} {b g : Nat} {V : Array Value} (h : Cpb W b V) (k : Nat) (v : Value) (hb : b ≠ g) : Cpb (W.setCell ⟨g, k, none⟩ v) b V := (Below.heap_setCell _ _ _ _ (by simpa using hb)).trans h
set_option maxRecDepth 100000 in
set_option maxHeartbeats 2000000 in
theorem setSh (c : Cp) (v x y : Int) (k : Nat) (hk : k < 4) (hy : wrap64 (bits .or .u64 (bits .andNot .u64 (IntKind.u64.wrap (c.rs k)) 65280) (IntKind.u64.wrap (IntKind.u64.wrap x * 256))) = y) (hU : ∀ w, Calls Tryd.prog 64 #[.int .i64 v, .int .i64 1] w fun e w' => e = .returned (.int .i64 x) ∧ w = w') (w : World) :
    Calls Tryd.prog 36 #[.agg (cpV c), .int .i64 ((k : Int) + 16), .int .i64 1, .int .i64 v] w fun e w' => e = .returned (.agg (cpV (c.set k y))) ∧ Below w.heap.size w w' := by
  have CU := Lib.hid hU
  obtain ⟨n1, n2, n3⟩ := setNew w (cpV c)
  have hc : ((w.alloc (.cells (cpV c) 27)).alloc (.cells #[.int .i64 0, .int .i64 0, .int .i64 0, .int .i64 0, .int .i64 0, .int .i64 0, .int .i64 0, .int .i64 0, .int .i64 0, .int .i64 0, .int .i64 0, .int .i64 0, .int .i64 0, .int .i64 0, .int .i64 0, .int .i64 0, .int .i64 0, .int .i64 0] 27)).cell? ⟨w.heap.size, k, none⟩ = some (.int .i64 (c.rs k)) := (cell_of_row _ _ k _ _ _ n1).trans (cpV_at c k (by omega))
  have hf : ((w.alloc (.cells (cpV c) 27)).alloc (.cells #[.int .i64 0, .int .i64 0, .int .i64 0, .int .i64 0, .int .i64 0, .int .i64 0, .int .i64 0, .int .i64 0, .int .i64 0, .int .i64 0, .int .i64 0, .int .i64 0, .int .i64 0, .int .i64 0, .int .i64 0, .int .i64 0, .int .i64 0, .int .i64 0] 27)).frozen? ⟨w.heap.size, k, none⟩ = false := by simp [World.frozen?, show _ = _ from n1]
  have R2 := Lib.hid (n1.set k (by omega) y)
  have Z2 := Lib.hid (n2.far (g := w.heap.size) k (.int .i64 y) (by omega))
  have B2 := Lib.hid (n3.setCell (p := ⟨w.heap.size, k, none⟩) (Nat.le_refl _) (.int .i64 y))
  have Y2 := Lib.hid (setRow_heap _ _ _ (cpV (c.set k y)) _ _ Z2.out)
  have D2 := Lib.hid (Go.below_setRow B2.out (by omega : w.heap.size ≤ w.heap.size + 1) (cpV (c.set k y)))
  have hO := Lib.hid (cpV_one (c.set k y))
  have h0 : (0 : Int) ≤ (k : Int) := by omega
  have h1 : (k : Int) < 16 := by omega
  have h2 : ((k : Int)).toNat = k := by omega
  have h3 : decide ((16 : Int) ≤ (k : Int) + 16) = true := decide_eq_true (by omega)
  have h4 : wrap64 ((k : Int) + 16 - 16) = k := by unfold wrap64; omega
  have sz : (cpV (c.set k y)).size = 18 := rfl
  generalize c.rs k = old at *
  generalize cpV (c.set k y) = V2 at *
  generalize cpV c = V at *
  have HS := Lib.hid sz
  clear hU hk sz n1 n2 n3
  have I18 := Lib.hid (show (Tryd.prog.info? 27).map (·.size) = some 18 by kernel_rfl)
  go_enter Tryd.func36, Tryd.ntmps36
  go_wp2_with fail
  refine (CU.out _).mono ?_
  rintro e w1 ⟨rfl, rfl⟩
  generalize ((w.alloc (.cells V 27)).alloc (.cells #[.int .i64 0, .int .i64 0, .int .i64 0, .int .i64 0, .int .i64 0, .int .i64 0, .int .i64 0, .int .i64 0, .int .i64 0, .int .i64 0, .int .i64 0, .int .i64 0, .int .i64 0, .int .i64 0, .int .i64 0, .int .i64 0, .int .i64 0, .int .i64 0] 27)) = W0 at *
  go_wp2_with (first | (refine wpList_load_row rfl 27 (.tmp 4) rfl w.heap.size rfl 27 V2 (0, 0) _ R2.out Tryd.underlying27 rfl (by rw [HS.out]; exact I18.out) ?_) | (refine wpList_store_row rfl 27 (.tmp 8) (.tmp 50) rfl (w.heap.size + 1) V2 rfl rfl 27 _ Z2.out (by rw [HS.out]; exact I18.out) (by rw [HS.out]; rfl) hO.out ?_))
  refine bodyPost_ret (v := .agg V2) (by exact results_cell_row Tryd.results36 _ _ (w.heap.size + 1) 27 V2 (0, 0) _ rfl Y2.out Tryd.underlying27 rfl (by rw [HS.out]; exact I18.out)) (by rfl) ⟨rfl, D2.out⟩
set_option maxRecDepth 100000 in
set_option maxHeartbeats 2000000 in
theorem setS1 (c : Cp) (v x y : Int) (k : Nat) (hk : k < 16) (hy : wrap64 (bits .or .u64 (bits .andNot .u64 (IntKind.u64.wrap (c.rs k)) 255) (IntKind.u64.wrap (IntKind.u64.wrap x))) = y) (hU : ∀ w, Calls Tryd.prog 64 #[.int .i64 v, .int .i64 1] w fun e w' => e = .returned (.int .i64 x) ∧ w = w') (w : World) :
    Calls Tryd.prog 36 #[.agg (cpV c), .int .i64 ((k : Int)), .int .i64 1, .int .i64 v] w fun e w' => e = .returned (.agg (cpV (c.set k y))) ∧ Below w.heap.size w w' := by
  have CU := Lib.hid hU
  obtain ⟨n1, n2, n3⟩ := setNew w (cpV c)
  have hc : ((w.alloc (.cells (cpV c) 27)).alloc (.cells #[.int .i64 0, .int .i64 0, .int .i64 0, .int .i64 0, .int .i64 0, .int .i64 0, .int .i64 0, .int .i64 0, .int .i64 0, .int .i64 0, .int .i64 0, .int .i64 0, .int .i64 0, .int .i64 0, .int .i64 0, .int .i64 0, .int .i64 0, .int .i64 0] 27)).cell? ⟨w.heap.size, k, none⟩ = some (.int .i64 (c.rs k)) := (cell_of_row _ _ k _ _ _ n1).trans (cpV_at c k (by omega))
  have hf : ((w.alloc (.cells (cpV c) 27)).alloc (.cells #[.int .i64 0, .int .i64 0, .int .i64 0, .int .i64 0, .int .i64 0, .int .i64 0, .int .i64 0, .int .i64 0, .int .i64 0, .int .i64 0, .int .i64 0, .int .i64 0, .int .i64 0, .int .i64 0, .int .i64 0, .int .i64 0, .int .i64 0, .int .i64 0] 27)).frozen? ⟨w.heap.size, k, none⟩ = false := by simp [World.frozen?, show _ = _ from n1]
  have R2 := Lib.hid (n1.set k (by omega) y)
  have Z2 := Lib.hid (n2.far (g := w.heap.size) k (.int .i64 y) (by omega))
  have B2 := Lib.hid (n3.setCell (p := ⟨w.heap.size, k, none⟩) (Nat.le_refl _) (.int .i64 y))
  have Y2 := Lib.hid (setRow_heap _ _ _ (cpV (c.set k y)) _ _ Z2.out)
  have D2 := Lib.hid (Go.below_setRow B2.out (by omega : w.heap.size ≤ w.heap.size + 1) (cpV (c.set k y)))
  have hO := Lib.hid (cpV_one (c.set k y))
  have h0 : (0 : Int) ≤ (k : Int) := by omega
  have h1 : (k : Int) < 16 := by omega
  have h2 : ((k : Int)).toNat = k := by omega
  have h3 : decide ((16 : Int) ≤ (k : Int)) = false := decide_eq_false (by omega)
  have sz : (cpV (c.set k y)).size = 18 := rfl
  generalize c.rs k = old at *
  generalize cpV (c.set k y) = V2 at *
  generalize cpV c = V at *
  have HS := Lib.hid sz
  clear hU hk sz n1 n2 n3
  have I18 := Lib.hid (show (Tryd.prog.info? 27).map (·.size) = some 18 by kernel_rfl)
  go_enter Tryd.func36, Tryd.ntmps36
  go_wp2_with fail
  refine (CU.out _).mono ?_
  rintro e w1 ⟨rfl, rfl⟩
  generalize ((w.alloc (.cells V 27)).alloc (.cells #[.int .i64 0, .int .i64 0, .int .i64 0, .int .i64 0, .int .i64 0, .int .i64 0, .int .i64 0, .int .i64 0, .int .i64 0, .int .i64 0, .int .i64 0, .int .i64 0, .int .i64 0, .int .i64 0, .int .i64 0, .int .i64 0, .int .i64 0, .int .i64 0] 27)) = W0 at *
  go_wp2_with (first | (refine wpList_load_row rfl 27 (.tmp 4) rfl w.heap.size rfl 27 V2 (0, 0) _ R2.out Tryd.underlying27 rfl (by rw [HS.out]; exact I18.out) ?_) | (refine wpList_store_row rfl 27 (.tmp 8) (.tmp 50) rfl (w.heap.size + 1) V2 rfl rfl 27 _ Z2.out (by rw [HS.out]; exact I18.out) (by rw [HS.out]; rfl) hO.out ?_))
  refine bodyPost_ret (v := .agg V2) (by exact results_cell_row Tryd.results36 _ _ (w.heap.size + 1) 27 V2 (0, 0) _ rfl Y2.out Tryd.underlying27 rfl (by rw [HS.out]; exact I18.out)) (by rfl) ⟨rfl, D2.out⟩
set_option maxRecDepth 100000 in
set_option maxHeartbeats 2000000 in
theorem setS2 (c : Cp) (v x y : Int) (k : Nat) (hk : k < 16) (hy : wrap64 (bits .or .u64 (bits .andNot .u64 (IntKind.u64.wrap (c.rs k)) 65535) (IntKind.u64.wrap (IntKind.u64.wrap x))) = y) (hU : ∀ w, Calls Tryd.prog 64 #[.int .i64 v, .int .i64 2] w fun e w' => e = .returned (.int .i64 x) ∧ w = w') (w : World) :
    Calls Tryd.prog 36 #[.agg (cpV c), .int .i64 ((k : Int)), .int .i64 2, .int .i64 v] w fun e w' => e = .returned (.agg (cpV (c.set k y))) ∧ Below w.heap.size w w' := by
  have CU := Lib.hid hU
  obtain ⟨n1, n2, n3⟩ := setNew w (cpV c)
  have hc : ((w.alloc (.cells (cpV c) 27)).alloc (.cells #[.int .i64 0, .int .i64 0, .int .i64 0, .int .i64 0, .int .i64 0, .int .i64 0, .int .i64 0, .int .i64 0, .int .i64 0, .int .i64 0, .int .i64 0, .int .i64 0, .int .i64 0, .int .i64 0, .int .i64 0, .int .i64 0, .int .i64 0, .int .i64 0] 27)).cell? ⟨w.heap.size, k, none⟩ = some (.int .i64 (c.rs k)) := (cell_of_row _ _ k _ _ _ n1).trans (cpV_at c k (by omega))
  have hf : ((w.alloc (.cells (cpV c) 27)).alloc (.cells #[.int .i64 0, .int .i64 0, .int .i64 0, .int .i64 0, .int .i64 0, .int .i64 0, .int .i64 0, .int .i64 0, .int .i64 0, .int .i64 0, .int .i64 0, .int .i64 0, .int .i64 0, .int .i64 0, .int .i64 0, .int .i64 0, .int .i64 0, .int .i64 0] 27)).frozen? ⟨w.heap.size, k, none⟩ = false := by simp [World.frozen?, show _ = _ from n1]
  have R2 := Lib.hid (n1.set k (by omega) y)
  have Z2 := Lib.hid (n2.far (g := w.heap.size) k (.int .i64 y) (by omega))
  have B2 := Lib.hid (n3.setCell (p := ⟨w.heap.size, k, none⟩) (Nat.le_refl _) (.int .i64 y))
  have Y2 := Lib.hid (setRow_heap _ _ _ (cpV (c.set k y)) _ _ Z2.out)
  have D2 := Lib.hid (Go.below_setRow B2.out (by omega : w.heap.size ≤ w.heap.size + 1) (cpV (c.set k y)))
  have hO := Lib.hid (cpV_one (c.set k y))
  have h0 : (0 : Int) ≤ (k : Int) := by omega
  have h1 : (k : Int) < 16 := by omega
  have h2 : ((k : Int)).toNat = k := by omega
  have h3 : decide ((16 : Int) ≤ (k : Int)) = false := decide_eq_false (by omega)
  have sz : (cpV (c.set k y)).size = 18 := rfl
  generalize c.rs k = old at *
  generalize cpV (c.set k y) = V2 at *
  generalize cpV c = V at *
  have HS := Lib.hid sz
  clear hU hk sz n1 n2 n3
  have I18 := Lib.hid (show (Tryd.prog.info? 27).map (·.size) = some 18 by kernel_rfl)
  go_enter Tryd.func36, Tryd.ntmps36
  go_wp2_with fail
  refine (CU.out _).mono ?_
  rintro e w1 ⟨rfl, rfl⟩
  generalize ((w.alloc (.cells V 27)).alloc (.cells #[.int .i64 0, .int .i64 0, .int .i64 0, .int .i64 0, .int .i64 0, .int .i64 0, .int .i64 0, .int .i64 0, .int .i64 0, .int .i64 0, .int .i64 0, .int .i64 0, .int .i64 0, .int .i64 0, .int .i64 0, .int .i64 0, .int .i64 0, .int .i64 0] 27)) = W0 at *
  go_wp2_with (first | (refine wpList_load_row rfl 27 (.tmp 4) rfl w.heap.size rfl 27 V2 (0, 0) _ R2.out Tryd.underlying27 rfl (by rw [HS.out]; exact I18.out) ?_) | (refine wpList_store_row rfl 27 (.tmp 8) (.tmp 50) rfl (w.heap.size + 1) V2 rfl rfl 27 _ Z2.out (by rw [HS.out]; exact I18.out) (by rw [HS.out]; rfl) hO.out ?_))
  refine bodyPost_ret (v := .agg V2) (by exact results_cell_row Tryd.results36 _ _ (w.heap.size + 1) 27 V2 (0, 0) _ rfl Y2.out Tryd.underlying27 rfl (by rw [HS.out]; exact I18.out)) (by rfl) ⟨rfl, D2.out⟩
set_option maxRecDepth 100000 in
set_option maxHeartbeats 2000000 in
theorem setS4 (c : Cp) (v x y : Int) (k : Nat) (hk : k < 16) (hU : ∀ w, Calls Tryd.prog 64 #[.int .i64 v, .int .i64 4] w fun e w' => e = .returned (.int .i64 x) ∧ w = w') (w : World) :
    Calls Tryd.prog 36 #[.agg (cpV c), .int .i64 ((k : Int)), .int .i64 4, .int .i64 v] w fun e w' => e = .returned (.agg (cpV (c.set k x))) ∧ Below w.heap.size w w' := by
  have CU := Lib.hid hU
  obtain ⟨n1, n2, n3⟩ := setNew w (cpV c)
  have hc : ((w.alloc (.cells (cpV c) 27)).alloc (.cells #[.int .i64 0, .int .i64 0, .int .i64 0, .int .i64 0, .int .i64 0, .int .i64 0, .int .i64 0, .int .i64 0, .int .i64 0, .int .i64 0, .int .i64 0, .int .i64 0, .int .i64 0, .int .i64 0, .int .i64 0, .int .i64 0, .int .i64 0, .int .i64 0] 27)).cell? ⟨w.heap.size, k, none⟩ = some (.int .i64 (c.rs k)) := (cell_of_row _ _ k _ _ _ n1).trans (cpV_at c k (by omega))
  have hf : ((w.alloc (.cells (cpV c) 27)).alloc (.cells #[.int .i64 0, .int .i64 0, .int .i64 0, .int .i64 0, .int .i64 0, .int .i64 0, .int .i64 0, .int .i64 0, .int .i64 0, .int .i64 0, .int .i64 0, .int .i64 0, .int .i64 0, .int .i64 0, .int .i64 0, .int .i64 0, .int .i64 0, .int .i64 0] 27)).frozen? ⟨w.heap.size, k, none⟩ = false := by simp [World.frozen?, show _ = _ from n1]
  have R2 := Lib.hid (n1.set k (by omega) x)
  have Z2 := Lib.hid (n2.far (g := w.heap.size) k (.int .i64 x) (by omega))
  have B2 := Lib.hid (n3.setCell (p := ⟨w.heap.size, k, none⟩) (Nat.le_refl _) (.int .i64 x))
  have Y2 := Lib.hid (setRow_heap _ _ _ (cpV (c.set k x)) _ _ Z2.out)
  have D2 := Lib.hid (Go.below_setRow B2.out (by omega : w.heap.size ≤ w.heap.size + 1) (cpV (c.set k x)))
  have hO := Lib.hid (cpV_one (c.set k x))
  have h0 : (0 : Int) ≤ (k : Int) := by omega
  have h1 : (k : Int) < 16 := by omega
  have h2 : ((k : Int)).toNat = k := by omega
  have h3 : decide ((16 : Int) ≤ (k : Int)) = false := decide_eq_false (by omega)
  have sz : (cpV (c.set k x)).size = 18 := rfl
  generalize c.rs k = old at *
  generalize cpV (c.set k x) = V2 at *
  generalize cpV c = V at *
  have HS := Lib.hid sz
  clear hU hk sz n1 n2 n3
  have I18 := Lib.hid (show (Tryd.prog.info? 27).map (·.size) = some 18 by kernel_rfl)
  go_enter Tryd.func36, Tryd.ntmps36
  go_wp2_with fail
  refine (CU.out _).mono ?_
  rintro e w1 ⟨rfl, rfl⟩
  generalize ((w.alloc (.cells V 27)).alloc (.cells #[.int .i64 0, .int .i64 0, .int .i64 0, .int .i64 0, .int .i64 0, .int .i64 0, .int .i64 0, .int .i64 0, .int .i64 0, .int .i64 0, .int .i64 0, .int .i64 0, .int .i64 0, .int .i64 0, .int .i64 0, .int .i64 0, .int .i64 0, .int .i64 0] 27)) = W0 at *
  go_wp2_with (first | (refine wpList_load_row rfl 27 (.tmp 4) rfl w.heap.size rfl 27 V2 (0, 0) _ R2.out Tryd.underlying27 rfl (by rw [HS.out]; exact I18.out) ?_) | (refine wpList_store_row rfl 27 (.tmp 8) (.tmp 24) rfl (w.heap.size + 1) V2 rfl rfl 27 _ Z2.out (by rw [HS.out]; exact I18.out) (by rw [HS.out]; rfl) hO.out ?_))
  refine bodyPost_ret (v := .agg V2) (by exact results_cell_row Tryd.results36 _ _ (w.heap.size + 1) 27 V2 (0, 0) _ rfl Y2.out Tryd.underlying27 rfl (by rw [HS.out]; exact I18.out)) (by rfl) ⟨rfl, D2.out⟩
set_option maxRecDepth 100000 in
set_option maxHeartbeats 2000000 in
theorem setS8 (c : Cp) (v x y : Int) (k : Nat) (hk : k < 16) (hU : ∀ w, Calls Tryd.prog 64 #[.int .i64 v, .int .i64 8] w fun e w' => e = .returned (.int .i64 x) ∧ w = w') (w : World) :
    Calls Tryd.prog 36 #[.agg (cpV c), .int .i64 ((k : Int)), .int .i64 8, .int .i64 v] w fun e w' => e = .returned (.agg (cpV (c.set k x))) ∧ Below w.heap.size w w' := by
  have CU := Lib.hid hU
  obtain ⟨n1, n2, n3⟩ := setNew w (cpV c)
  have hc : ((w.alloc (.cells (cpV c) 27)).alloc (.cells #[.int .i64 0, .int .i64 0, .int .i64 0, .int .i64 0, .int .i64 0, .int .i64 0, .int .i64 0, .int .i64 0, .int .i64 0, .int .i64 0, .int .i64 0, .int .i64 0, .int .i64 0, .int .i64 0, .int .i64 0, .int .i64 0, .int .i64 0, .int .i64 0] 27)).cell? ⟨w.heap.size, k, none⟩ = some (.int .i64 (c.rs k)) := (cell_of_row _ _ k _ _ _ n1).trans (cpV_at c k (by omega))
  have hf : ((w.alloc (.cells (cpV c) 27)).alloc (.cells #[.int .i64 0, .int .i64 0, .int .i64 0, .int .i64 0, .int .i64 0, .int .i64 0, .int .i64 0, .int .i64 0, .int .i64 0, .int .i64 0, .int .i64 0, .int .i64 0, .int .i64 0, .int .i64 0, .int .i64 0, .int .i64 0, .int .i64 0, .int .i64 0] 27)).frozen? ⟨w.heap.size, k, none⟩ = false := by simp [World.frozen?, show _ = _ from n1]
  have R2 := Lib.hid (n1.set k (by omega) x)
  have Z2 := Lib.hid (n2.far (g := w.heap.size) k (.int .i64 x) (by omega))
  have B2 := Lib.hid (n3.setCell (p := ⟨w.heap.size, k, none⟩) (Nat.le_refl _) (.int .i64 x))
  have Y2 := Lib.hid (setRow_heap _ _ _ (cpV (c.set k x)) _ _ Z2.out)
  have D2 := Lib.hid (Go.below_setRow B2.out (by omega : w.heap.size ≤ w.heap.size + 1) (cpV (c.set k x)))
  have hO := Lib.hid (cpV_one (c.set k x))
  have h0 : (0 : Int) ≤ (k : Int) := by omega
  have h1 : (k : Int) < 16 := by omega
  have h2 : ((k : Int)).toNat = k := by omega
  have h3 : decide ((16 : Int) ≤ (k : Int)) = false := decide_eq_false (by omega)
  have sz : (cpV (c.set k x)).size = 18 := rfl
  generalize c.rs k = old at *
  generalize cpV (c.set k x) = V2 at *
  generalize cpV c = V at *
  have HS := Lib.hid sz
  clear hU hk sz n1 n2 n3
  have I18 := Lib.hid (show (Tryd.prog.info? 27).map (·.size) = some 18 by kernel_rfl)
  go_enter Tryd.func36, Tryd.ntmps36
  go_wp2_with fail
  refine (CU.out _).mono ?_
  rintro e w1 ⟨rfl, rfl⟩
  generalize ((w.alloc (.cells V 27)).alloc (.cells #[.int .i64 0, .int .i64 0, .int .i64 0, .int .i64 0, .int .i64 0, .int .i64 0, .int .i64 0, .int .i64 0, .int .i64 0, .int .i64 0, .int .i64 0, .int .i64 0, .int .i64 0, .int .i64 0, .int .i64 0, .int .i64 0, .int .i64 0, .int .i64 0] 27)) = W0 at *
  go_wp2_with (first | (refine wpList_load_row rfl 27 (.tmp 4) rfl w.heap.size rfl 27 V2 (0, 0) _ R2.out Tryd.underlying27 rfl (by rw [HS.out]; exact I18.out) ?_) | (refine wpList_store_row rfl 27 (.tmp 8) (.tmp 24) rfl (w.heap.size + 1) V2 rfl rfl 27 _ Z2.out (by rw [HS.out]; exact I18.out) (by rw [HS.out]; rfl) hO.out ?_))
  refine bodyPost_ret (v := .agg V2) (by exact results_cell_row Tryd.results36 _ _ (w.heap.size + 1) 27 V2 (0, 0) _ rfl Y2.out Tryd.underlying27 rfl (by rw [HS.out]; exact I18.out)) (by rfl) ⟨rfl, D2.out⟩
end Go.Proofs.YtbcbepdfijcbmaaDoor
