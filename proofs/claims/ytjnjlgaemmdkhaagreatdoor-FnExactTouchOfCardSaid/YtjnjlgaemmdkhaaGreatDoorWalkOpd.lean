/-
  What impl.OperandOK and spec.OperandOK do: they tell whether an operand is right for a size, changing nothing that was there; conditions: the tables of registers' names and the sentinels hold what the program's text lays there.
-/
import Derived.Test.YtjnjlgaemmdkhaaGreatDoorMathOpd
import Derived.Test.YtjnjlgaemmdkhaaGreatDoorWalkRegs
import Derived.Test.YtjnjlgaemmdkhaaGreatDoorWalkTake
import Derived.Deep.QuietTactic
import Derived.BigQuiet
import Derived.Stop.LaidErr
namespace Go.Proofs.YtjnjlgaemmdkhaaGreatDoor
open Go.RowKit
theorem ret_bo {a b : Bool} (h : a = b) : Ending.returned (.bool a) = .returned (.bool b) := by rw [h]
/-- the sentinel of ranges -/
def SentR (w : World) (aR : Addr) : Prop := w.cell? ⟨1, 0, none⟩ = some (.iface 120 (.pointer (some aR)))
theorem SentR.below {w w' : World} {aR : Addr} (h : SentR w aR) (hb : Below w.heap.size w w') : SentR w' aR := (hb.cell (p := ⟨1, 0, none⟩) (lt_of_cell h)).trans h
theorem sentR_of_laid {W : World} {q : List (String × DataW Unit)} (hq : (q.filter fun x => x.1 == "loop.example/g00664/impl.errRange") = [("loop.example/g00664/impl.errRange", Rows.laid_loop_example_g00664_impl_errRange)]) (h : laidMetH Tryz.prog q W) : ∃ aR, SentR W aR := by
  have h1 := h.filter (fun x => x.1 == "loop.example/g00664/impl.errRange")
  rw [hq, MakeChecks.laidMetH_plain _ _ _ (by kernel_rfl)] at h1
  obtain ⟨a, s, hv, _, _, _⟩ := Go.laid_sentinel h1 gRange tRange Tryz.underlying81 rowES Tryz.underlying120 Tryz.underlying137 rfl rfl Tryz.underlying9 cES cStrE
  exact ⟨a, World.var?_cell gRange hv 0⟩
set_option maxHeartbeats 400000 in
theorem noSizeR (n : Int) (w : World) (aR : Addr) (h : SentR w aR) :
    Calls Tryz.prog 83 #[.int .i64 n] w fun e w' => e = .returned (bErr sizeT n aR) ∧ w = w' := by
  have h1 : w.cell? ⟨1, 0, none⟩ = some (.iface 120 (.pointer (some aR))) := h
  clear h
  go_enter Tryz.func83, Tryz.ntmps83
  go_wp2
  go_ret
  exact ⟨rfl, rfl⟩
set_option maxHeartbeats 400000 in
theorem checkNoR (n : Int) (w : World) (aR : Addr) (hs : SentR w aR) (h : ¬ okSize n) : Calls Tryz.prog 66 #[.int .i64 n] w fun e w' => e = .returned (bErr sizeT n aR) ∧ w = w' := by
  have h1 : (n == 1) = false := beq_eq_false_iff_ne.mpr fun e => h (.inl e)
  have h2 : (n == 2) = false := beq_eq_false_iff_ne.mpr fun e => h (.inr (.inl e))
  have h4 : (n == 4) = false := beq_eq_false_iff_ne.mpr fun e => h (.inr (.inr (.inl e)))
  have h8 : (n == 8) = false := beq_eq_false_iff_ne.mpr fun e => h (.inr (.inr (.inr e)))
  have C := Lib.hid (noSizeR n w aR hs)
  clear h hs
  go_enter Tryz.func66, Tryz.ntmps66
  go_wp2_with (go_at_call 83; refine (C.out).mono ?_; rintro e w' ⟨rfl, rfl⟩)
  go_ret
  exact ⟨rfl, rfl⟩
theorem size_conv {s : Nat} (h : Size4 s) : okSize (s : Int) := by unfold Size4 at h; unfold okSize; omega
theorem nm_full (s i : Nat) (h : Size4 s) (hi : i < (regsL s).length) : (nm (regsL s) i).toList.isEmpty = false := by
  rcases h with rfl | rfl | rfl | rfl
  · have : ∀ i, i < 20 → (nm regs1 i).toList.isEmpty = false := by decide +kernel
    exact this i hi
  · have : ∀ i, i < 16 → (nm regs2 i).toList.isEmpty = false := by decide +kernel
    exact this i hi
  · have : ∀ i, i < 16 → (nm regs4 i).toList.isEmpty = false := by decide +kernel
    exact this i hi
  · have : ∀ i, i < 16 → (nm regs8 i).toList.isEmpty = false := by decide +kernel
    exact this i hi
theorem isRegYes (s i : Nat) (w : World) (h : Size4 s) (hi : i < (regsL s).length) (hR : Regs w) :
    Calls Tryz.prog 68 #[.int .i64 (i : Int), .int .i64 (s : Int)] w fun e w' => e = .returned (.bool true) ∧ w' = w := by
  have C := Lib.hid (regNameI s i w h hi hR)
  have hf := nm_full s i h hi
  clear h hi hR
  go_enter Tryz.func68, Tryz.ntmps68
  go_wp2_with fail
  refine (C.out).mono ?_
  rintro e w' ⟨rfl, rfl⟩
  go_wp2
  go_ret
  exact ⟨rfl, rfl⟩
theorem isRegNo (s : Nat) (a : Int) (w : World) (h : Size4 s) (ha : a < 0 ∨ ((regsL s).length : Int) ≤ a) :
    Calls Tryz.prog 68 #[.int .i64 a, .int .i64 (s : Int)] w fun e w' => e = .returned (.bool false) ∧ w' = w := by
  have C : Calls Tryz.prog 84 #[.int .i64 a, .int .i64 (s : Int)] w fun e w' => e = .returned (.string ⟨#[]⟩) ∧ w = w' := by
    rcases ha with ha | ha
    · exact noneNeg a w s ha
    · exact noneBig s a w h ha
  have HC := Lib.hid C
  clear h ha C
  go_enter Tryz.func68, Tryz.ntmps68
  go_wp2_with fail
  refine (HC.out).mono ?_
  rintro e w' ⟨rfl, rfl⟩
  go_wp2
  go_ret
  exact ⟨rfl, rfl⟩
theorem isRegC (s : Nat) (a : Int) (w : World) (h : Size4 s) (hR : Regs w) :
    Calls Tryz.prog 68 #[.int .i64 a, .int .i64 (s : Int)] w fun e w' => e = .returned (.bool (decide (0 ≤ a ∧ a < ((regsL s).length : Int)))) ∧ w' = w := by
  by_cases ha : a < 0 ∨ ((regsL s).length : Int) ≤ a
  · rw [decide_eq_false (by omega)]; exact isRegNo s a w h ha
  · obtain ⟨i, rfl⟩ := Int.eq_ofNat_of_zero_le (show 0 ≤ a by omega)
    rw [decide_eq_true (by omega)]; exact isRegYes s i w h (by omega) hR
theorem regs8_len : (regsL 8).length = 16 := by decide
theorem regs_top (s : Nat) (h : Size4 s) : ((regsL s).length : Int) = topReg s + 1 := by
  rcases h with rfl | rfl | rfl | rfl <;> decide
theorem cut32 (v : Int) (w : World) :
    Calls Tryz.prog 75 #[.int .i64 v] w fun e w' => e = .returned (.int .i64 (wrap64 (wrap32 v))) ∧ w' = w := by
  go_enter Tryz.func75, Tryz.ntmps75
  go_wp2
  go_ret
  exact ⟨rfl, rfl⟩
theorem fits32 (v : Int) (w : World) :
    Calls Tryz.prog 57 #[.int .i64 v] w fun e w' => e = .returned (.bool (v == wrap64 (wrap32 v))) ∧ w' = w := by
  have C := Lib.hid (cut32 v)
  go_enter Tryz.func57, Tryz.ntmps57
  go_wp2_with fail
  refine (C.out _).mono ?_
  rintro e w' ⟨rfl, rfl⟩
  go_wp2
  go_ret
  exact ⟨rfl, rfl⟩
theorem cut32_iff (v : Int) : v = wrap64 (wrap32 v) ↔ (-2147483648 ≤ v ∧ v ≤ 2147483647) := by
  unfold wrap64 wrap32; omega
set_option maxHeartbeats 1000000 in
theorem memI1 (k r b i s d m : Int) (w : World) (h : r ≠ 0) :
    Calls Tryz.prog 69 #[.agg #[.int .i64 k, .int .i64 r, .int .i64 b, .int .i64 i, .int .i64 s, .int .i64 d, .int .i64 m]] w fun e w' => e = .returned (.bool false) ∧ Below w.heap.size w w' := by
  go_enter Tryz.func69, Tryz.ntmps69
  go_wp2
  go_ret
  exact ⟨rfl, (Below.refl _ _).alloc (Nat.le_refl _) _⟩
set_option maxHeartbeats 1000000 in
theorem memI2 (k r b i s d m : Int) (w : World) (h1 : r = 0) (h : m ≠ 0) :
    Calls Tryz.prog 69 #[.agg #[.int .i64 k, .int .i64 r, .int .i64 b, .int .i64 i, .int .i64 s, .int .i64 d, .int .i64 m]] w fun e w' => e = .returned (.bool false) ∧ Below w.heap.size w w' := by
  subst h1
  go_enter Tryz.func69, Tryz.ntmps69
  go_wp2
  go_ret
  exact ⟨rfl, (Below.refl _ _).alloc (Nat.le_refl _) _⟩
set_option maxHeartbeats 1000000 in
theorem memI3 (k r b i s d m : Int) (w : World) (h1 : r = 0) (h2 : m = 0) (h : b < -1) :
    Calls Tryz.prog 69 #[.agg #[.int .i64 k, .int .i64 r, .int .i64 b, .int .i64 i, .int .i64 s, .int .i64 d, .int .i64 m]] w fun e w' => e = .returned (.bool false) ∧ Below w.heap.size w w' := by
  subst h1 h2
  go_enter Tryz.func69, Tryz.ntmps69
  go_wp2
  go_ret
  exact ⟨rfl, (Below.refl _ _).alloc (Nat.le_refl _) _⟩
set_option maxHeartbeats 1000000 in
theorem memI4 (k r b i s d m : Int) (w : World) (h1 : r = 0) (h2 : m = 0) (h3 : ¬ b < -1) (h : 16 < b) :
    Calls Tryz.prog 69 #[.agg #[.int .i64 k, .int .i64 r, .int .i64 b, .int .i64 i, .int .i64 s, .int .i64 d, .int .i64 m]] w fun e w' => e = .returned (.bool false) ∧ Below w.heap.size w w' := by
  subst h1 h2
  have d3 := decide_eq_false h3
  clear h3
  go_enter Tryz.func69, Tryz.ntmps69
  go_wp2
  go_ret
  exact ⟨rfl, (Below.refl _ _).alloc (Nat.le_refl _) _⟩
set_option maxHeartbeats 1000000 in
theorem memI5 (k r b i s d m : Int) (w : World) (h1 : r = 0) (h2 : m = 0) (h3 : ¬ b < -1) (h4 : ¬ 16 < b) (h5 : d ≠ wrap64 (wrap32 d)) :
    Calls Tryz.prog 69 #[.agg #[.int .i64 k, .int .i64 r, .int .i64 b, .int .i64 i, .int .i64 s, .int .i64 d, .int .i64 m]] w fun e w' => e = .returned (.bool false) ∧ Below w.heap.size w w' := by
  subst h1 h2
  have d3 := decide_eq_false h3
  have d4 := decide_eq_false h4
  have C := Lib.hid (fits32 d)
  have d5 : (d == wrap64 (wrap32 d)) = false := beq_eq_false_iff_ne.mpr h5
  clear h3 h4 h5
  go_enter Tryz.func69, Tryz.ntmps69
  go_wp2_with fail
  refine (C.out _).mono ?_
  rintro e w' ⟨rfl, rfl⟩
  go_wp2
  go_ret
  exact ⟨rfl, (Below.refl _ _).alloc (Nat.le_refl _) _⟩
set_option maxHeartbeats 1000000 in
theorem memI6 (k r b i s d m : Int) (w : World) (h1 : r = 0) (h2 : m = 0) (h3 : ¬ b < -1) (h4 : ¬ 16 < b) (h5 : d = wrap64 (wrap32 d)) (h6 : i = -1) :
    Calls Tryz.prog 69 #[.agg #[.int .i64 k, .int .i64 r, .int .i64 b, .int .i64 i, .int .i64 s, .int .i64 d, .int .i64 m]] w fun e w' => e = .returned (.bool (s == 1)) ∧ Below w.heap.size w w' := by
  subst h1 h2
  have d3 := decide_eq_false h3
  have d4 := decide_eq_false h4
  have C := Lib.hid (fits32 d)
  have d5 : (d == wrap64 (wrap32 d)) = true := beq_iff_eq.mpr h5
  clear h3 h4 h5
  subst h6
  go_enter Tryz.func69, Tryz.ntmps69
  go_wp2_with fail
  refine (C.out _).mono ?_
  rintro e w' ⟨rfl, rfl⟩
  go_wp2
  go_ret
  exact ⟨rfl, (Below.refl _ _).alloc (Nat.le_refl _) _⟩
set_option maxHeartbeats 1000000 in
theorem memI7 (k r b i s d m : Int) (w : World) (h1 : r = 0) (h2 : m = 0) (h3 : ¬ b < -1) (h4 : ¬ 16 < b) (h5 : d = wrap64 (wrap32 d)) (h6 : i ≠ -1) (h7 : i < 0 ∨ 15 < i) :
    Calls Tryz.prog 69 #[.agg #[.int .i64 k, .int .i64 r, .int .i64 b, .int .i64 i, .int .i64 s, .int .i64 d, .int .i64 m]] w fun e w' => e = .returned (.bool false) ∧ Below w.heap.size w w' := by
  subst h1 h2
  have d3 := decide_eq_false h3
  have d4 := decide_eq_false h4
  have C := Lib.hid (fits32 d)
  have d5 : (d == wrap64 (wrap32 d)) = true := beq_iff_eq.mpr h5
  clear h3 h4 h5
  have d6 : (i == -1) = false := beq_eq_false_iff_ne.mpr h6
  have CR := Lib.hid (fun w => isRegNo 8 i w (.inr (.inr (.inr rfl))) (by rw [regs8_len]; omega))
  clear h6 h7
  go_enter Tryz.func69, Tryz.ntmps69
  go_wp2_with fail
  refine (C.out _).mono ?_
  rintro e w' ⟨rfl, rfl⟩
  go_wp2_with ((go_at_call 68; (first | refine (CR.out (0 : Nat)).mono ?_ | refine (CR.out _).mono ?_); rintro e w' ⟨rfl, rfl⟩))
  go_ret
  exact ⟨rfl, (Below.refl _ _).alloc (Nat.le_refl _) _⟩
set_option maxHeartbeats 1000000 in
theorem memI8 (k r b i s d m : Int) (w : World) (h1 : r = 0) (h2 : m = 0) (h3 : ¬ b < -1) (h4 : ¬ 16 < b) (h5 : d = wrap64 (wrap32 d)) (h8 : i = 4) (hR : Regs w) :
    Calls Tryz.prog 69 #[.agg #[.int .i64 k, .int .i64 r, .int .i64 b, .int .i64 i, .int .i64 s, .int .i64 d, .int .i64 m]] w fun e w' => e = .returned (.bool false) ∧ Below w.heap.size w w' := by
  subst h8
  subst h1 h2
  have d3 := decide_eq_false h3
  have d4 := decide_eq_false h4
  have C := Lib.hid (fits32 d)
  have d5 : (d == wrap64 (wrap32 d)) = true := beq_iff_eq.mpr h5
  clear h3 h4 h5
  have CR : Hid (∀ q : Nat, Calls Tryz.prog 68 #[.int .i64 4, .int .i64 8] ((w.alloc (.cells #[.int .i64 k, .int .i64 0, .int .i64 b, .int .i64 4, .int .i64 s, .int .i64 d, .int .i64 0] 31))) fun e w' => e = .returned (.bool true) ∧ w' = (w.alloc (.cells #[.int .i64 k, .int .i64 0, .int .i64 b, .int .i64 4, .int .i64 s, .int .i64 d, .int .i64 0] 31))) := Lib.hid (fun q => isRegYes 8 4 _ (.inr (.inr (.inr rfl))) (by decide) (hR.below ((Below.refl _ _).alloc (Nat.le_refl _) _)))
  clear hR
  go_enter Tryz.func69, Tryz.ntmps69
  go_wp2_with fail
  refine (C.out _).mono ?_
  rintro e w' ⟨rfl, rfl⟩
  go_wp2_with ((go_at_call 68; (first | refine (CR.out (0 : Nat)).mono ?_ | refine (CR.out _).mono ?_); rintro e w' ⟨rfl, rfl⟩))
  go_ret
  exact ⟨rfl, (Below.refl _ _).alloc (Nat.le_refl _) _⟩
set_option maxHeartbeats 1000000 in
theorem memI9 (k r b i s d m : Int) (w : World) (h1 : r = 0) (h2 : m = 0) (h3 : ¬ b < -1) (h4 : ¬ 16 < b) (h5 : d = wrap64 (wrap32 d)) (h6 : i ≠ -1) (h7 : 0 ≤ i) (h7' : i ≤ 15) (hR : Regs w) (h8 : i ≠ 4) (h9 : b = 16) :
    Calls Tryz.prog 69 #[.agg #[.int .i64 k, .int .i64 r, .int .i64 b, .int .i64 i, .int .i64 s, .int .i64 d, .int .i64 m]] w fun e w' => e = .returned (.bool false) ∧ Below w.heap.size w w' := by
  subst h1 h2
  have d3 := decide_eq_false h3
  have d4 := decide_eq_false h4
  have C := Lib.hid (fits32 d)
  have d5 : (d == wrap64 (wrap32 d)) = true := beq_iff_eq.mpr h5
  clear h3 h4 h5
  have d6 : (i == -1) = false := beq_eq_false_iff_ne.mpr h6
  obtain ⟨i, rfl⟩ := Int.eq_ofNat_of_zero_le h7
  have hi : i < (regsL 8).length := by rw [regs8_len]; omega
  have CR : Hid (∀ q : Nat, Calls Tryz.prog 68 #[.int .i64 (i : Int), .int .i64 8] ((w.alloc (.cells #[.int .i64 k, .int .i64 0, .int .i64 b, .int .i64 (i : Int), .int .i64 s, .int .i64 d, .int .i64 0] 31))) fun e w' => e = .returned (.bool true) ∧ w' = (w.alloc (.cells #[.int .i64 k, .int .i64 0, .int .i64 b, .int .i64 (i : Int), .int .i64 s, .int .i64 d, .int .i64 0] 31))) := Lib.hid (fun q => isRegYes 8 i _ (.inr (.inr (.inr rfl))) hi (hR.below ((Below.refl _ _).alloc (Nat.le_refl _) _)))
  clear h6 h7 h7' hi hR
  have d8 : ((i : Int) != 4) = true := bne_iff_ne.mpr h8
  clear h8
  subst h9
  go_enter Tryz.func69, Tryz.ntmps69
  go_wp2_with fail
  refine (C.out _).mono ?_
  rintro e w' ⟨rfl, rfl⟩
  go_wp2_with ((go_at_call 68; (first | refine (CR.out (0 : Nat)).mono ?_ | refine (CR.out _).mono ?_); rintro e w' ⟨rfl, rfl⟩))
  go_ret
  exact ⟨rfl, (Below.refl _ _).alloc (Nat.le_refl _) _⟩
set_option maxHeartbeats 1000000 in
theorem memI10 (k r b i s d m : Int) (w : World) (h1 : r = 0) (h2 : m = 0) (h3 : ¬ b < -1) (h4 : ¬ 16 < b) (h5 : d = wrap64 (wrap32 d)) (h6 : i ≠ -1) (h7 : 0 ≤ i) (h7' : i ≤ 15) (hR : Regs w) (h8 : i ≠ 4) (h9 : b ≠ 16) (h10 : okSize s) :
    Calls Tryz.prog 69 #[.agg #[.int .i64 k, .int .i64 r, .int .i64 b, .int .i64 i, .int .i64 s, .int .i64 d, .int .i64 m]] w fun e w' => e = .returned (.bool true) ∧ Below w.heap.size w w' := by
  subst h1 h2
  have d3 := decide_eq_false h3
  have d4 := decide_eq_false h4
  have C := Lib.hid (fits32 d)
  have d5 : (d == wrap64 (wrap32 d)) = true := beq_iff_eq.mpr h5
  clear h3 h4 h5
  have d6 : (i == -1) = false := beq_eq_false_iff_ne.mpr h6
  obtain ⟨i, rfl⟩ := Int.eq_ofNat_of_zero_le h7
  have hi : i < (regsL 8).length := by rw [regs8_len]; omega
  have CR : Hid (∀ q : Nat, Calls Tryz.prog 68 #[.int .i64 (i : Int), .int .i64 8] ((w.alloc (.cells #[.int .i64 k, .int .i64 0, .int .i64 b, .int .i64 (i : Int), .int .i64 s, .int .i64 d, .int .i64 0] 31))) fun e w' => e = .returned (.bool true) ∧ w' = (w.alloc (.cells #[.int .i64 k, .int .i64 0, .int .i64 b, .int .i64 (i : Int), .int .i64 s, .int .i64 d, .int .i64 0] 31))) := Lib.hid (fun q => isRegYes 8 i _ (.inr (.inr (.inr rfl))) hi (hR.below ((Below.refl _ _).alloc (Nat.le_refl _) _)))
  clear h6 h7 h7' hi hR
  have d8 : ((i : Int) != 4) = true := bne_iff_ne.mpr h8
  clear h8
  have d9 : (b != 16) = true := bne_iff_ne.mpr h9
  clear h9
  have CS := Lib.hid (fun w => checkYes s w h10)
  clear h10
  go_enter Tryz.func69, Tryz.ntmps69
  go_wp2_with fail
  refine (C.out _).mono ?_
  rintro e w' ⟨rfl, rfl⟩
  go_wp2_with (first | (go_at_call 68; (first | refine (CR.out (0 : Nat)).mono ?_ | refine (CR.out _).mono ?_); rintro e w' ⟨rfl, rfl⟩) | (go_at_call 66; (first | refine (CS.out (0 : Nat)).mono ?_ | refine (CS.out _).mono ?_); rintro e w' ⟨rfl, rfl⟩))
  go_ret
  exact ⟨rfl, (Below.refl _ _).alloc (Nat.le_refl _) _⟩
set_option maxHeartbeats 1000000 in
theorem memI11 (k r b i s d m : Int) (w : World) (h1 : r = 0) (h2 : m = 0) (h3 : ¬ b < -1) (h4 : ¬ 16 < b) (h5 : d = wrap64 (wrap32 d)) (h6 : i ≠ -1) (h7 : 0 ≤ i) (h7' : i ≤ 15) (hR : Regs w) (h8 : i ≠ 4) (h9 : b ≠ 16) (h10 : ¬ okSize s) (aR : Addr) (hs : SentR w aR) :
    Calls Tryz.prog 69 #[.agg #[.int .i64 k, .int .i64 r, .int .i64 b, .int .i64 i, .int .i64 s, .int .i64 d, .int .i64 m]] w fun e w' => e = .returned (.bool false) ∧ Below w.heap.size w w' := by
  subst h1 h2
  have d3 := decide_eq_false h3
  have d4 := decide_eq_false h4
  have C := Lib.hid (fits32 d)
  have d5 : (d == wrap64 (wrap32 d)) = true := beq_iff_eq.mpr h5
  clear h3 h4 h5
  have d6 : (i == -1) = false := beq_eq_false_iff_ne.mpr h6
  obtain ⟨i, rfl⟩ := Int.eq_ofNat_of_zero_le h7
  have hi : i < (regsL 8).length := by rw [regs8_len]; omega
  have CR : Hid (∀ q : Nat, Calls Tryz.prog 68 #[.int .i64 (i : Int), .int .i64 8] ((w.alloc (.cells #[.int .i64 k, .int .i64 0, .int .i64 b, .int .i64 (i : Int), .int .i64 s, .int .i64 d, .int .i64 0] 31))) fun e w' => e = .returned (.bool true) ∧ w' = (w.alloc (.cells #[.int .i64 k, .int .i64 0, .int .i64 b, .int .i64 (i : Int), .int .i64 s, .int .i64 d, .int .i64 0] 31))) := Lib.hid (fun q => isRegYes 8 i _ (.inr (.inr (.inr rfl))) hi (hR.below ((Below.refl _ _).alloc (Nat.le_refl _) _)))
  clear h6 h7 h7' hi hR
  have d8 : ((i : Int) != 4) = true := bne_iff_ne.mpr h8
  clear h8
  have d9 : (b != 16) = true := bne_iff_ne.mpr h9
  clear h9
  have CS : Hid (∀ q : Nat, Calls Tryz.prog 66 #[.int .i64 s] ((w.alloc (.cells #[.int .i64 k, .int .i64 0, .int .i64 b, .int .i64 (i : Int), .int .i64 s, .int .i64 d, .int .i64 0] 31))) fun e w' => e = .returned (bErr sizeT s aR) ∧ (w.alloc (.cells #[.int .i64 k, .int .i64 0, .int .i64 b, .int .i64 (i : Int), .int .i64 s, .int .i64 d, .int .i64 0] 31)) = w') := Lib.hid (fun q => checkNoR s _ aR (hs.below ((Below.refl _ _).alloc (Nat.le_refl _) _)) h10)
  unfold bErr at CS
  clear h10 hs
  go_enter Tryz.func69, Tryz.ntmps69
  go_wp2_with fail
  refine (C.out _).mono ?_
  rintro e w' ⟨rfl, rfl⟩
  go_wp2_with (first | (go_at_call 68; (first | refine (CR.out (0 : Nat)).mono ?_ | refine (CR.out _).mono ?_); rintro e w' ⟨rfl, rfl⟩) | (go_at_call 66; (first | refine (CS.out (0 : Nat)).mono ?_ | refine (CS.out _).mono ?_); rintro e w' ⟨rfl, rfl⟩))
  go_ret
  exact ⟨rfl, (Below.refl _ _).alloc (Nat.le_refl _) _⟩
theorem memDec {x : Opd} {b : Bool} (h : MemOk' x ↔ b = true) : b = decide (MemOk' x) := by
  cases b <;> simp_all
theorem memOperandI (x : Opd) (w : World) (hR : Regs w) (aR : Addr) (hs : SentR w aR) :
    Calls Tryz.prog 69 #[.agg #[.int .i64 x.k, .int .i64 x.r, .int .i64 x.b, .int .i64 x.i, .int .i64 x.s, .int .i64 x.d, .int .i64 x.m]] w fun e w' => e = .returned (.bool (decide (MemOk' x))) ∧ Below w.heap.size w w' := by
  have c32 := cut32_iff x.d
  by_cases h1 : x.r = 0
  · by_cases h2 : x.m = 0
    · by_cases h3 : x.b < -1
      · rw [← memDec (b := false) (by unfold MemOk'; simp; omega)]; exact memI3 _ _ _ _ _ _ _ w h1 h2 h3
      · by_cases h4 : 16 < x.b
        · rw [← memDec (b := false) (by unfold MemOk'; simp; omega)]; exact memI4 _ _ _ _ _ _ _ w h1 h2 h3 h4
        · by_cases h5 : x.d = wrap64 (wrap32 x.d)
          · have h5' := c32.1 h5
            by_cases h6 : x.i = -1
            · rw [← memDec (b := x.s == 1) (by unfold MemOk'; rw [beq_iff_eq]; omega)]; exact memI6 _ _ _ _ _ _ _ w h1 h2 h3 h4 h5 h6
            · by_cases h7 : x.i < 0 ∨ 15 < x.i
              · rw [← memDec (b := false) (by unfold MemOk'; simp; omega)]; exact memI7 _ _ _ _ _ _ _ w h1 h2 h3 h4 h5 h6 h7
              · by_cases h8 : x.i = 4
                · rw [← memDec (b := false) (by unfold MemOk'; simp; omega)]; exact memI8 _ _ _ _ _ _ _ w h1 h2 h3 h4 h5 h8 hR
                · by_cases h9 : x.b = 16
                  · rw [← memDec (b := false) (by unfold MemOk'; simp; omega)]; exact memI9 _ _ _ _ _ _ _ w h1 h2 h3 h4 h5 h6 (by omega) (by omega) hR h8 h9
                  · by_cases h10 : okSize x.s
                    · rw [← memDec (b := true) (by unfold MemOk'; unfold okSize at h10; simp; omega)]; exact memI10 _ _ _ _ _ _ _ w h1 h2 h3 h4 h5 h6 (by omega) (by omega) hR h8 h9 h10
                    · rw [← memDec (b := false) (by unfold MemOk'; unfold okSize at h10; simp; omega)]; exact memI11 _ _ _ _ _ _ _ w h1 h2 h3 h4 h5 h6 (by omega) (by omega) hR h8 h9 h10 aR hs
          · have h5' := mt c32.2 h5
            rw [← memDec (b := false) (by unfold MemOk'; simp; omega)]; exact memI5 _ _ _ _ _ _ _ w h1 h2 h3 h4 h5
    · rw [← memDec (b := false) (by unfold MemOk'; simp; omega)]; exact memI2 _ _ _ _ _ _ _ w h1 h2
  · rw [← memDec (b := false) (by unfold MemOk'; simp; omega)]; exact memI1 _ _ _ _ _ _ _ w h1
end Go.Proofs.YtjnjlgaemmdkhaaGreatDoor
