/-
  GetReg of both: what is refused, and what is answered; conditions: those in each head.
-/
import Derived.Test.YtbcbepdfijcbmaaDoorWalkCpuG
import Derived.Deep.Cut
namespace Go.Proofs.YtbcbepdfijcbmaaDoor
open Go.RowKit
set_option linter.unusedVariables false
/-- block b holds the processor -/
def Cpb (W : World) (b : Nat) (V : Array Value) : Prop := W.heap[b]? = some (.cells V 27 (0, 0))
theorem Cpb.on {W W' : World} {b : Nat} {V : Array Value} (h : Cpb W b V) (hb : Below W.heap.size W W') : Cpb W' b V := (hb.block _ (lt_of_blk' h)).trans h
theorem Cpb.new (w : World) (V : Array Value) : Cpb (w.alloc (.cells V 27)) w.heap.size V := heap_alloc_new w _
set_option maxRecDepth 100000 in
set_option maxHeartbeats 1000000 in
theorem getRegIBad (c : Cp) (a n x : Int) (w : World) (hO : ∀ w, Calls Tryd.prog 33 #[.agg (cpV c)] w fun e w' => e = .returned (.bool false) ∧ Below w.heap.size w w') :
    Calls Tryd.prog 11 #[.agg (cpV c), .int .i64 a, .int .i64 n] w fun e w' => e = .returned (.tuple #[.int .i64 0, .int .i64 1]) ∧ Below w.heap.size w w' := by
  have CO := Lib.hid hO
  clear hO
  have R0 := Lib.hid (Cpb.new w (cpV c))
  have B0 := Lib.hid (show Below w.heap.size w (w.alloc (.cells (cpV c) 27)) from (Below.refl _ _).alloc (Nat.le_refl _) _)
  have sz : (cpV c).size = 18 := rfl
  generalize cpV c = V at *
  have HS := Lib.hid sz
  clear sz
  have I18 := Lib.hid (show (Tryd.prog.info? 27).map (·.size) = some 18 by kernel_rfl)
  go_enter Tryd.func11, Tryd.ntmps11
  go_wp2_with (refine wpList_load_row rfl 27 (.tmp 3) rfl w.heap.size rfl 27 V (0, 0) _ R0.out Tryd.underlying27 rfl (by rw [HS.out]; exact I18.out) ?_)
  refine (CO.out _).mono ?_
  rintro e w1 ⟨rfl, hb1⟩
  have B1 := Lib.hid (B0.out.trans (hb1.mono B0.out.size))
  have R1 := Lib.hid (R0.out.on hb1)
  clear hb1
  go_wp2
  go_ret2
  exact ⟨rfl, B1.out⟩
set_option maxRecDepth 100000 in
set_option maxHeartbeats 1000000 in
theorem getRegIRange (c : Cp) (a n x : Int) (w : World) (hO : ∀ w, Calls Tryd.prog 33 #[.agg (cpV c)] w fun e w' => e = .returned (.bool true) ∧ Below w.heap.size w w') (hR : ∀ W, Below w.heap.size w W → Calls Tryd.prog 34 #[.int .i64 a, .int .i64 n] W fun e w' => e = .returned (.bool false) ∧ W = w') :
    Calls Tryd.prog 11 #[.agg (cpV c), .int .i64 a, .int .i64 n] w fun e w' => e = .returned (.tuple #[.int .i64 0, .int .i64 4]) ∧ Below w.heap.size w w' := by
  have CO := Lib.hid hO; have CR := Lib.hid hR
  clear hO hR
  have R0 := Lib.hid (Cpb.new w (cpV c))
  have B0 := Lib.hid (show Below w.heap.size w (w.alloc (.cells (cpV c) 27)) from (Below.refl _ _).alloc (Nat.le_refl _) _)
  have sz : (cpV c).size = 18 := rfl
  generalize cpV c = V at *
  have HS := Lib.hid sz
  clear sz
  have I18 := Lib.hid (show (Tryd.prog.info? 27).map (·.size) = some 18 by kernel_rfl)
  go_enter Tryd.func11, Tryd.ntmps11
  go_wp2_with (refine wpList_load_row rfl 27 (.tmp 3) rfl w.heap.size rfl 27 V (0, 0) _ R0.out Tryd.underlying27 rfl (by rw [HS.out]; exact I18.out) ?_)
  refine (CO.out _).mono ?_
  rintro e w1 ⟨rfl, hb1⟩
  have B1 := Lib.hid (B0.out.trans (hb1.mono B0.out.size))
  have R1 := Lib.hid (R0.out.on hb1)
  clear hb1
  go_wp2_with fail
  refine (CR.out _ B1.out).mono ?_
  rintro e w2 ⟨rfl, rfl⟩
  go_wp2
  go_ret2
  exact ⟨rfl, B1.out⟩
set_option maxRecDepth 100000 in
set_option maxHeartbeats 1000000 in
theorem getRegIYes (c : Cp) (a n x : Int) (w : World) (hO : ∀ w, Calls Tryd.prog 33 #[.agg (cpV c)] w fun e w' => e = .returned (.bool true) ∧ Below w.heap.size w w') (hR : ∀ W, Below w.heap.size w W → Calls Tryd.prog 34 #[.int .i64 a, .int .i64 n] W fun e w' => e = .returned (.bool true) ∧ W = w') (hG : ∀ W b, Cpb W b (cpV c) → Calls Tryd.prog 35 #[.pointer (some ⟨b, 0, none⟩), .int .i64 a, .int .i64 n] W fun e w' => e = .returned (.int .i64 x) ∧ W = w') :
    Calls Tryd.prog 11 #[.agg (cpV c), .int .i64 a, .int .i64 n] w fun e w' => e = .returned (.tuple #[.int .i64 x, .int .i64 0]) ∧ Below w.heap.size w w' := by
  have CO := Lib.hid hO; have CR := Lib.hid hR; have CG := Lib.hid hG
  clear hO hR hG
  have R0 := Lib.hid (Cpb.new w (cpV c))
  have B0 := Lib.hid (show Below w.heap.size w (w.alloc (.cells (cpV c) 27)) from (Below.refl _ _).alloc (Nat.le_refl _) _)
  have sz : (cpV c).size = 18 := rfl
  generalize cpV c = V at *
  have HS := Lib.hid sz
  clear sz
  have I18 := Lib.hid (show (Tryd.prog.info? 27).map (·.size) = some 18 by kernel_rfl)
  go_enter Tryd.func11, Tryd.ntmps11
  go_wp2_with (refine wpList_load_row rfl 27 (.tmp 3) rfl w.heap.size rfl 27 V (0, 0) _ R0.out Tryd.underlying27 rfl (by rw [HS.out]; exact I18.out) ?_)
  refine (CO.out _).mono ?_
  rintro e w1 ⟨rfl, hb1⟩
  have B1 := Lib.hid (B0.out.trans (hb1.mono B0.out.size))
  have R1 := Lib.hid (R0.out.on hb1)
  clear hb1
  go_wp2_with fail
  refine (CR.out _ B1.out).mono ?_
  rintro e w2 ⟨rfl, rfl⟩
  go_wp2_with fail
  refine (CG.out _ _ R1.out).mono ?_
  rintro e w3 ⟨rfl, rfl⟩
  go_wp2
  go_ret2
  exact ⟨rfl, B1.out⟩
set_option maxRecDepth 100000 in
set_option maxHeartbeats 1000000 in
theorem getRegSBad (c : Cp) (a n x : Int) (w : World) (hO : ∀ w, Calls Tryd.prog 29 #[.agg (cpV c)] w fun e w' => e = .returned (.bool false) ∧ Below w.heap.size w w') :
    Calls Tryd.prog 9 #[.agg (cpV c), .int .i64 a, .int .i64 n] w fun e w' => e = .returned (.tuple #[.int .i64 0, .int .i64 1]) ∧ Below w.heap.size w w' := by
  have CO := Lib.hid hO
  clear hO
  have R0 := Lib.hid (Cpb.new w (cpV c))
  have B0 := Lib.hid (show Below w.heap.size w (w.alloc (.cells (cpV c) 27)) from (Below.refl _ _).alloc (Nat.le_refl _) _)
  have sz : (cpV c).size = 18 := rfl
  generalize cpV c = V at *
  have HS := Lib.hid sz
  clear sz
  have I18 := Lib.hid (show (Tryd.prog.info? 27).map (·.size) = some 18 by kernel_rfl)
  go_enter Tryd.func9, Tryd.ntmps9
  go_wp2_with (refine wpList_load_row rfl 27 (.tmp 3) rfl w.heap.size rfl 27 V (0, 0) _ R0.out Tryd.underlying27 rfl (by rw [HS.out]; exact I18.out) ?_)
  refine (CO.out _).mono ?_
  rintro e w1 ⟨rfl, hb1⟩
  have B1 := Lib.hid (B0.out.trans (hb1.mono B0.out.size))
  have R1 := Lib.hid (R0.out.on hb1)
  clear hb1
  go_wp2
  go_ret2
  exact ⟨rfl, B1.out⟩
set_option maxRecDepth 100000 in
set_option maxHeartbeats 1000000 in
theorem getRegSRange (c : Cp) (a n x : Int) (w : World) (hO : ∀ w, Calls Tryd.prog 29 #[.agg (cpV c)] w fun e w' => e = .returned (.bool true) ∧ Below w.heap.size w w') (hR : ∀ W, Below w.heap.size w W → Calls Tryd.prog 30 #[.int .i64 a, .int .i64 n] W fun e w' => e = .returned (.bool false) ∧ W = w') :
    Calls Tryd.prog 9 #[.agg (cpV c), .int .i64 a, .int .i64 n] w fun e w' => e = .returned (.tuple #[.int .i64 0, .int .i64 4]) ∧ Below w.heap.size w w' := by
  have CO := Lib.hid hO; have CR := Lib.hid hR
  clear hO hR
  have R0 := Lib.hid (Cpb.new w (cpV c))
  have B0 := Lib.hid (show Below w.heap.size w (w.alloc (.cells (cpV c) 27)) from (Below.refl _ _).alloc (Nat.le_refl _) _)
  have sz : (cpV c).size = 18 := rfl
  generalize cpV c = V at *
  have HS := Lib.hid sz
  clear sz
  have I18 := Lib.hid (show (Tryd.prog.info? 27).map (·.size) = some 18 by kernel_rfl)
  go_enter Tryd.func9, Tryd.ntmps9
  go_wp2_with (refine wpList_load_row rfl 27 (.tmp 3) rfl w.heap.size rfl 27 V (0, 0) _ R0.out Tryd.underlying27 rfl (by rw [HS.out]; exact I18.out) ?_)
  refine (CO.out _).mono ?_
  rintro e w1 ⟨rfl, hb1⟩
  have B1 := Lib.hid (B0.out.trans (hb1.mono B0.out.size))
  have R1 := Lib.hid (R0.out.on hb1)
  clear hb1
  go_wp2_with fail
  refine (CR.out _ B1.out).mono ?_
  rintro e w2 ⟨rfl, rfl⟩
  go_wp2
  go_ret2
  exact ⟨rfl, B1.out⟩
set_option maxRecDepth 100000 in
set_option maxHeartbeats 1000000 in
theorem getRegSYes (c : Cp) (a n x : Int) (w : World) (hO : ∀ w, Calls Tryd.prog 29 #[.agg (cpV c)] w fun e w' => e = .returned (.bool true) ∧ Below w.heap.size w w') (hR : ∀ W, Below w.heap.size w W → Calls Tryd.prog 30 #[.int .i64 a, .int .i64 n] W fun e w' => e = .returned (.bool true) ∧ W = w') (hG : ∀ W, Calls Tryd.prog 31 #[.agg (cpV c), .int .i64 a, .int .i64 n] W fun e w' => e = .returned (.int .i64 x) ∧ Below W.heap.size W w') :
    Calls Tryd.prog 9 #[.agg (cpV c), .int .i64 a, .int .i64 n] w fun e w' => e = .returned (.tuple #[.int .i64 x, .int .i64 0]) ∧ Below w.heap.size w w' := by
  have CO := Lib.hid hO; have CR := Lib.hid hR; have CG := Lib.hid hG
  clear hO hR hG
  have R0 := Lib.hid (Cpb.new w (cpV c))
  have B0 := Lib.hid (show Below w.heap.size w (w.alloc (.cells (cpV c) 27)) from (Below.refl _ _).alloc (Nat.le_refl _) _)
  have sz : (cpV c).size = 18 := rfl
  generalize cpV c = V at *
  have HS := Lib.hid sz
  clear sz
  have I18 := Lib.hid (show (Tryd.prog.info? 27).map (·.size) = some 18 by kernel_rfl)
  go_enter Tryd.func9, Tryd.ntmps9
  go_wp2_with (refine wpList_load_row rfl 27 (.tmp 3) rfl w.heap.size rfl 27 V (0, 0) _ R0.out Tryd.underlying27 rfl (by rw [HS.out]; exact I18.out) ?_)
  refine (CO.out _).mono ?_
  rintro e w1 ⟨rfl, hb1⟩
  have B1 := Lib.hid (B0.out.trans (hb1.mono B0.out.size))
  have R1 := Lib.hid (R0.out.on hb1)
  clear hb1
  go_wp2_with fail
  refine (CR.out _ B1.out).mono ?_
  rintro e w2 ⟨rfl, rfl⟩
  go_wp2_with (refine wpList_load_row rfl 27 (.tmp 3) rfl w.heap.size rfl 27 V (0, 0) _ R1.out Tryd.underlying27 rfl (by rw [HS.out]; exact I18.out) ?_)
  refine (CG.out _).mono ?_
  rintro e w3 ⟨rfl, hb3⟩
  have B3 := Lib.hid (B1.out.trans (hb3.mono B1.out.size))
  clear hb3
  go_wp2
  go_ret2
  exact ⟨rfl, B3.out⟩
/-- what a register of a size that it has reads: both answer alike -/
theorem getBoth (c : Cp) (a n : Int) (hw : CpW c) (h : okSize n ∧ 0 ≤ a ∧ a ≤ topReg n) : ∃ x,
    (∀ W b, Cpb W b (cpV c) → Calls Tryd.prog 35 #[.pointer (some ⟨b, 0, none⟩), .int .i64 a, .int .i64 n] W fun e w' => e = .returned (.int .i64 x) ∧ W = w') ∧
    (∀ W, Calls Tryd.prog 31 #[.agg (cpV c), .int .i64 a, .int .i64 n] W fun e w' => e = .returned (.int .i64 x) ∧ Below W.heap.size W w') := by
  obtain ⟨hn, h0, h1⟩ := h
  by_cases ha : a ≤ 15
  · obtain ⟨k, rfl⟩ := Int.eq_ofNat_of_zero_le h0
    have hk : k < 16 := by omega
    obtain ⟨X, hX⟩ := natU (c.rs k)
    have cell (W : World) (b : Nat) (hb : Cpb W b (cpV c)) := (cell_of_row W b k _ _ _ hb).trans (cpV_at c k hk)
    rcases hn with rfl | rfl | rfl | rfl
    · refine ⟨wrap64 ((X % 2 ^ (8 * 1) : Nat) : Int), fun W b hb => getI W b _ _ _ k hk (cell W b hb) (fun w => ?_), fun W => getS c _ _ k hk (fun w => specZeroL _ X 1 w hX (by decide) (by decide)) W⟩
      rw [eqZ1 hX]; exact unsigned1 _ w
    · refine ⟨wrap64 ((X % 2 ^ (8 * 2) : Nat) : Int), fun W b hb => getI W b _ _ _ k hk (cell W b hb) (fun w => ?_), fun W => getS c _ _ k hk (fun w => specZeroL _ X 2 w hX (by decide) (by decide)) W⟩
      rw [eqZ2 hX]; exact unsigned2 _ w
    · refine ⟨wrap64 ((X % 2 ^ (8 * 4) : Nat) : Int), fun W b hb => getI W b _ _ _ k hk (cell W b hb) (fun w => ?_), fun W => getS c _ _ k hk (fun w => specZeroL _ X 4 w hX (by decide) (by decide)) W⟩
      rw [eqZ4 hX]; exact unsigned4 _ w
    · refine ⟨wrap64 ((X % 2 ^ (8 * 8) : Nat) : Int), fun W b hb => getI W b _ _ _ k hk (cell W b hb) (fun w => ?_), fun W => getS c _ _ k hk (fun w => specZeroL _ X 8 w hX (by decide) (by decide)) W⟩
      rw [eqZ8 hX]; exact unsigned8 _ w
  · obtain ⟨k, rfl⟩ : ∃ k : Nat, a = (k : Int) + 16 := ⟨(a - 16).toNat, by omega⟩
    have hk : k < 4 := by unfold topReg at h1; split at h1 <;> omega
    have cell (W : World) (b : Nat) (hb : Cpb W b (cpV c)) := (cell_of_row W b k _ _ _ hb).trans (cpV_at c k (by omega))
    refine ⟨c.rs k / 256 % 256, fun W b hb => getIH W b _ _ k hk (cell W b hb), fun W => getSH c _ _ k hk (fun w => ?_) W⟩
    obtain ⟨Y, hY⟩ := natU (wrap64 (IntKind.u64.wrap (c.rs k) / 256))
    refine (specZeroL _ Y 1 w hY (by decide) (by decide)).mono ?_
    rintro e w' ⟨rfl, hw'⟩
    refine ⟨ret_i ?_, hw'⟩
    rw [eqZ1 hY]
    generalize c.rs k = v
    rw [wrapU]; unfold wrap64; omega
end Go.Proofs.YtbcbepdfijcbmaaDoor
