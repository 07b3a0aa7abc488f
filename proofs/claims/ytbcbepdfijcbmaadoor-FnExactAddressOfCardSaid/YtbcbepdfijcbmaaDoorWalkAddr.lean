/-
  What the method address of impl.Cpu and spec.l07Address reckon; conditions: those in each head.
-/
import Derived.Test.YtbcbepdfijcbmaaDoorWalkCpuH
import Derived.Test.YtbcbepdfijcbmaaDoorWalkOpd2
import Derived.Deep.QuietTactic
import Derived.BigQuiet
namespace Go.Proofs.YtbcbepdfijcbmaaDoor
open Go.RowKit
set_option linter.unusedVariables false
theorem w64_mod (x : Int) : wrap64 (x % 18446744073709551616) = wrap64 x := by unfold wrap64; omega
theorem w64_mulU (a b : Int) : wrap64 (IntKind.u64.wrap (IntKind.u64.wrap a * IntKind.u64.wrap b)) = wrap64 (a * b) := by
  rw [wrapU, wrapU, wrapU, ← Int.mul_emod, w64_mod]
theorem plusS (a b : Int) (w : World) : Calls Tryd.prog 68 #[.int .i64 a, .int .i64 b] w fun e w' => e = .returned (.int .i64 (wrap64 (a + b))) ∧ w = w' := by
  go_enter Tryd.func68, Tryd.ntmps68
  go_wp2
  go_ret
  refine ⟨ret_i ?_, rfl⟩
  rw [wrapU, wrapU, wrapU]; unfold wrap64; omega
def baseN (c : Cp) (b d nx : Int) : Int := if b = -1 then d else if b = 16 then wrap64 (d + nx) else wrap64 (d + c.rs b.toNat)
def addrN (c : Cp) (x : Opd) (nx : Int) : Int := if x.i = -1 then baseN c x.b x.d nx else wrap64 (baseN c x.b x.d nx + wrap64 (c.rs x.i.toNat * x.s))
theorem dn {W : World} {B : Nat} {w : World} (h : Below B w W) (n : Nat) : Below B w (W.drewN n) := h.trans ⟨rfl, rfl, rfl, Nat.le_refl _, fun _ _ => rfl⟩
set_option maxRecDepth 100000 in
set_option maxHeartbeats 1000000 in
theorem addrINN (c : Cp) (k r s d m nx : Int) (W : World) (g : Nat) (hg : Cpb W g (cpV c)) :
    Calls Tryd.prog 42 #[.pointer (some ⟨g, 0, none⟩), .agg #[.int .i64 k, .int .i64 r, .int .i64 (-1), .int .i64 (-1), .int .i64 s, .int .i64 d, .int .i64 m], .int .i64 nx] W fun e w' => e = .returned (.int .i64 (d)) ∧ Below W.heap.size W w' := by
  have B1 := Lib.hid (show Below W.heap.size W (W.alloc (.cells #[.int .i64 k, .int .i64 r, .int .i64 (-1), .int .i64 (-1), .int .i64 s, .int .i64 d, .int .i64 m] 37)) from (Below.refl _ _).alloc (Nat.le_refl _) _)
  clear hg
  go_enter Tryd.func42, Tryd.ntmps42
  go_wp2_with fail
  go_ret
  exact ⟨rfl, by first | exact B1.out | exact dn B1.out _ | exact dn (dn B1.out _) _⟩
set_option maxRecDepth 100000 in
set_option maxHeartbeats 1000000 in
theorem addrINY (c : Cp) (k r s d m nx : Int) (j : Nat) (hj : j < 16) (W : World) (g : Nat) (hg : Cpb W g (cpV c)) :
    Calls Tryd.prog 42 #[.pointer (some ⟨g, 0, none⟩), .agg #[.int .i64 k, .int .i64 r, .int .i64 (-1), .int .i64 (j : Int), .int .i64 s, .int .i64 d, .int .i64 m], .int .i64 nx] W fun e w' => e = .returned (.int .i64 (wrap64 (d + wrap64 (c.rs j * s)))) ∧ Below W.heap.size W w' := by
  have j0 : (0 : Int) ≤ (j : Int) := by omega
  have j1 : (j : Int) < 16 := by omega
  have j2 : ((j : Int)).toNat = j := by omega
  have j3 : ((j : Int) != -1) = true := bne_iff_ne.mpr (by omega)
  have hcj : (W.alloc (.cells #[.int .i64 k, .int .i64 r, .int .i64 (-1), .int .i64 (j : Int), .int .i64 s, .int .i64 d, .int .i64 m] 37)).cell? ⟨g, j, none⟩ = some (.int .i64 (c.rs j)) := (cell_of_row _ _ j _ _ _ (hg.on (Below.refl _ _ |>.alloc (Nat.le_refl _) _))).trans (cpV_at c j hj)
  have B1 := Lib.hid (show Below W.heap.size W (W.alloc (.cells #[.int .i64 k, .int .i64 r, .int .i64 (-1), .int .i64 (j : Int), .int .i64 s, .int .i64 d, .int .i64 m] 37)) from (Below.refl _ _).alloc (Nat.le_refl _) _)
  clear hg hj
  go_enter Tryd.func42, Tryd.ntmps42
  go_wp2_with fail
  go_quiet (fail)
  go_wp2_with fail
  go_ret
  exact ⟨rfl, by first | exact B1.out | exact dn B1.out _ | exact dn (dn B1.out _) _⟩
set_option maxRecDepth 100000 in
set_option maxHeartbeats 1000000 in
theorem addrIPN (c : Cp) (k r s d m nx : Int) (W : World) (g : Nat) (hg : Cpb W g (cpV c)) :
    Calls Tryd.prog 42 #[.pointer (some ⟨g, 0, none⟩), .agg #[.int .i64 k, .int .i64 r, .int .i64 16, .int .i64 (-1), .int .i64 s, .int .i64 d, .int .i64 m], .int .i64 nx] W fun e w' => e = .returned (.int .i64 (wrap64 (d + nx))) ∧ Below W.heap.size W w' := by
  have B1 := Lib.hid (show Below W.heap.size W (W.alloc (.cells #[.int .i64 k, .int .i64 r, .int .i64 16, .int .i64 (-1), .int .i64 s, .int .i64 d, .int .i64 m] 37)) from (Below.refl _ _).alloc (Nat.le_refl _) _)
  clear hg
  go_enter Tryd.func42, Tryd.ntmps42
  go_wp2_with fail
  go_ret
  exact ⟨rfl, by first | exact B1.out | exact dn B1.out _ | exact dn (dn B1.out _) _⟩
set_option maxRecDepth 100000 in
set_option maxHeartbeats 1000000 in
theorem addrIPY (c : Cp) (k r s d m nx : Int) (j : Nat) (hj : j < 16) (W : World) (g : Nat) (hg : Cpb W g (cpV c)) :
    Calls Tryd.prog 42 #[.pointer (some ⟨g, 0, none⟩), .agg #[.int .i64 k, .int .i64 r, .int .i64 16, .int .i64 (j : Int), .int .i64 s, .int .i64 d, .int .i64 m], .int .i64 nx] W fun e w' => e = .returned (.int .i64 (wrap64 (wrap64 (d + nx) + wrap64 (c.rs j * s)))) ∧ Below W.heap.size W w' := by
  have j0 : (0 : Int) ≤ (j : Int) := by omega
  have j1 : (j : Int) < 16 := by omega
  have j2 : ((j : Int)).toNat = j := by omega
  have j3 : ((j : Int) != -1) = true := bne_iff_ne.mpr (by omega)
  have hcj : (W.alloc (.cells #[.int .i64 k, .int .i64 r, .int .i64 16, .int .i64 (j : Int), .int .i64 s, .int .i64 d, .int .i64 m] 37)).cell? ⟨g, j, none⟩ = some (.int .i64 (c.rs j)) := (cell_of_row _ _ j _ _ _ (hg.on (Below.refl _ _ |>.alloc (Nat.le_refl _) _))).trans (cpV_at c j hj)
  have B1 := Lib.hid (show Below W.heap.size W (W.alloc (.cells #[.int .i64 k, .int .i64 r, .int .i64 16, .int .i64 (j : Int), .int .i64 s, .int .i64 d, .int .i64 m] 37)) from (Below.refl _ _).alloc (Nat.le_refl _) _)
  clear hg hj
  go_enter Tryd.func42, Tryd.ntmps42
  go_wp2_with fail
  go_quiet (fail)
  go_wp2_with fail
  go_ret
  exact ⟨rfl, by first | exact B1.out | exact dn B1.out _ | exact dn (dn B1.out _) _⟩
set_option maxRecDepth 100000 in
set_option maxHeartbeats 1000000 in
theorem addrIRN (c : Cp) (k r s d m nx : Int) (q : Nat) (hq : q < 16) (W : World) (g : Nat) (hg : Cpb W g (cpV c)) :
    Calls Tryd.prog 42 #[.pointer (some ⟨g, 0, none⟩), .agg #[.int .i64 k, .int .i64 r, .int .i64 (q : Int), .int .i64 (-1), .int .i64 s, .int .i64 d, .int .i64 m], .int .i64 nx] W fun e w' => e = .returned (.int .i64 (wrap64 (d + c.rs q))) ∧ Below W.heap.size W w' := by
  have q0 : (0 : Int) ≤ (q : Int) := by omega
  have q1 : (q : Int) < 16 := by omega
  have q2 : ((q : Int)).toNat = q := by omega
  have q3 : ((q : Int) == -1) = false := beq_eq_false_iff_ne.mpr (by omega)
  have q4 : ((q : Int) == 16) = false := beq_eq_false_iff_ne.mpr (by omega)
  have hcq : (W.alloc (.cells #[.int .i64 k, .int .i64 r, .int .i64 (q : Int), .int .i64 (-1), .int .i64 s, .int .i64 d, .int .i64 m] 37)).cell? ⟨g, q, none⟩ = some (.int .i64 (c.rs q)) := (cell_of_row _ _ q _ _ _ (hg.on (Below.refl _ _ |>.alloc (Nat.le_refl _) _))).trans (cpV_at c q hq)
  have B1 := Lib.hid (show Below W.heap.size W (W.alloc (.cells #[.int .i64 k, .int .i64 r, .int .i64 (q : Int), .int .i64 (-1), .int .i64 s, .int .i64 d, .int .i64 m] 37)) from (Below.refl _ _).alloc (Nat.le_refl _) _)
  clear hg hq
  go_enter Tryd.func42, Tryd.ntmps42
  go_wp2_with fail
  go_quiet (fail)
  go_wp2_with fail
  go_ret
  exact ⟨rfl, by first | exact B1.out | exact dn B1.out _ | exact dn (dn B1.out _) _⟩
set_option maxRecDepth 100000 in
set_option maxHeartbeats 1000000 in
theorem addrIRY (c : Cp) (k r s d m nx : Int) (q : Nat) (hq : q < 16) (j : Nat) (hj : j < 16) (W : World) (g : Nat) (hg : Cpb W g (cpV c)) :
    Calls Tryd.prog 42 #[.pointer (some ⟨g, 0, none⟩), .agg #[.int .i64 k, .int .i64 r, .int .i64 (q : Int), .int .i64 (j : Int), .int .i64 s, .int .i64 d, .int .i64 m], .int .i64 nx] W fun e w' => e = .returned (.int .i64 (wrap64 (wrap64 (d + c.rs q) + wrap64 (c.rs j * s)))) ∧ Below W.heap.size W w' := by
  have q0 : (0 : Int) ≤ (q : Int) := by omega
  have q1 : (q : Int) < 16 := by omega
  have q2 : ((q : Int)).toNat = q := by omega
  have q3 : ((q : Int) == -1) = false := beq_eq_false_iff_ne.mpr (by omega)
  have q4 : ((q : Int) == 16) = false := beq_eq_false_iff_ne.mpr (by omega)
  have j0 : (0 : Int) ≤ (j : Int) := by omega
  have j1 : (j : Int) < 16 := by omega
  have j2 : ((j : Int)).toNat = j := by omega
  have j3 : ((j : Int) != -1) = true := bne_iff_ne.mpr (by omega)
  have hcq : (W.alloc (.cells #[.int .i64 k, .int .i64 r, .int .i64 (q : Int), .int .i64 (j : Int), .int .i64 s, .int .i64 d, .int .i64 m] 37)).cell? ⟨g, q, none⟩ = some (.int .i64 (c.rs q)) := (cell_of_row _ _ q _ _ _ (hg.on (Below.refl _ _ |>.alloc (Nat.le_refl _) _))).trans (cpV_at c q hq)
  have hcj : (W.alloc (.cells #[.int .i64 k, .int .i64 r, .int .i64 (q : Int), .int .i64 (j : Int), .int .i64 s, .int .i64 d, .int .i64 m] 37)).cell? ⟨g, j, none⟩ = some (.int .i64 (c.rs j)) := (cell_of_row _ _ j _ _ _ (hg.on (Below.refl _ _ |>.alloc (Nat.le_refl _) _))).trans (cpV_at c j hj)
  have B1 := Lib.hid (show Below W.heap.size W (W.alloc (.cells #[.int .i64 k, .int .i64 r, .int .i64 (q : Int), .int .i64 (j : Int), .int .i64 s, .int .i64 d, .int .i64 m] 37)) from (Below.refl _ _).alloc (Nat.le_refl _) _)
  clear hg hq hj
  go_enter Tryd.func42, Tryd.ntmps42
  go_wp2_with fail
  go_quiet (fail)
  go_wp2_with fail
  go_quiet (fail)
  go_wp2_with fail
  go_ret
  exact ⟨rfl, by first | exact B1.out | exact dn B1.out _ | exact dn (dn B1.out _) _⟩
set_option maxRecDepth 100000 in
set_option maxHeartbeats 1000000 in
theorem addrSNN (c : Cp) (k r s d m nx : Int) (W : World) :
    Calls Tryd.prog 40 #[.agg (cpV c), .agg #[.int .i64 k, .int .i64 r, .int .i64 (-1), .int .i64 (-1), .int .i64 s, .int .i64 d, .int .i64 m], .int .i64 nx] W fun e w' => e = .returned (.int .i64 (d)) ∧ Below W.heap.size W w' := by
  have CP := Lib.hid plusS
  have hg : Cpb ((W.alloc (.cells (cpV c) 27)).alloc (.cells #[.int .i64 k, .int .i64 r, .int .i64 (-1), .int .i64 (-1), .int .i64 s, .int .i64 d, .int .i64 m] 37)) W.heap.size (cpV c) := (Cpb.new W (cpV c)).on (Below.refl _ _ |>.alloc (Nat.le_refl _) _)
  have B1 := Lib.hid (show Below W.heap.size W ((W.alloc (.cells (cpV c) 27)).alloc (.cells #[.int .i64 k, .int .i64 r, .int .i64 (-1), .int .i64 (-1), .int .i64 s, .int .i64 d, .int .i64 m] 37)) from ((Below.refl _ _).alloc (Nat.le_refl _) _).alloc (by simp) _)
  generalize cpV c = V at *
  clear hg
  go_enter Tryd.func40, Tryd.ntmps40
  go_wp2_with fail
  go_ret
  exact ⟨rfl, by first | exact B1.out | exact dn B1.out _ | exact dn (dn B1.out _) _⟩
set_option maxRecDepth 100000 in
set_option maxHeartbeats 1000000 in
theorem addrSNY (c : Cp) (k r s d m nx : Int) (j : Nat) (hj : j < 16) (W : World) :
    Calls Tryd.prog 40 #[.agg (cpV c), .agg #[.int .i64 k, .int .i64 r, .int .i64 (-1), .int .i64 (j : Int), .int .i64 s, .int .i64 d, .int .i64 m], .int .i64 nx] W fun e w' => e = .returned (.int .i64 (wrap64 (d + wrap64 (c.rs j * s)))) ∧ Below W.heap.size W w' := by
  have CP := Lib.hid plusS
  have hmul := w64_mulU (c.rs j) s
  have j0 : (0 : Int) ≤ (j : Int) := by omega
  have j1 : (j : Int) < 16 := by omega
  have j2 : ((j : Int)).toNat = j := by omega
  have j3 : ((j : Int) != -1) = true := bne_iff_ne.mpr (by omega)
  have hg : Cpb ((W.alloc (.cells (cpV c) 27)).alloc (.cells #[.int .i64 k, .int .i64 r, .int .i64 (-1), .int .i64 (j : Int), .int .i64 s, .int .i64 d, .int .i64 m] 37)) W.heap.size (cpV c) := (Cpb.new W (cpV c)).on (Below.refl _ _ |>.alloc (Nat.le_refl _) _)
  have hcj : ((W.alloc (.cells (cpV c) 27)).alloc (.cells #[.int .i64 k, .int .i64 r, .int .i64 (-1), .int .i64 (j : Int), .int .i64 s, .int .i64 d, .int .i64 m] 37)).cell? ⟨W.heap.size, j, none⟩ = some (.int .i64 (c.rs j)) := (cell_of_row _ _ j _ _ _ hg).trans (cpV_at c j hj)
  have j5 : decide ((0 : Int) ≤ j) = true := decide_eq_true (by omega)
  have B1 := Lib.hid (show Below W.heap.size W ((W.alloc (.cells (cpV c) 27)).alloc (.cells #[.int .i64 k, .int .i64 r, .int .i64 (-1), .int .i64 (j : Int), .int .i64 s, .int .i64 d, .int .i64 m] 37)) from ((Below.refl _ _).alloc (Nat.le_refl _) _).alloc (by simp) _)
  generalize cpV c = V at *
  clear hg hj
  go_enter Tryd.func40, Tryd.ntmps40
  go_wp2_with fail
  go_quiet ((first | (go_at_call 68; exact Calls.quiet_of_same ((CP.out _ _ _).mono fun _ _ h => ⟨h.1, h.2.symm⟩))))
  go_wp2_with fail
  go_ret
  exact ⟨rfl, by first | exact B1.out | exact dn B1.out _ | exact dn (dn B1.out _) _⟩
set_option maxRecDepth 100000 in
set_option maxHeartbeats 1000000 in
theorem addrSPN (c : Cp) (k r s d m nx : Int) (W : World) :
    Calls Tryd.prog 40 #[.agg (cpV c), .agg #[.int .i64 k, .int .i64 r, .int .i64 16, .int .i64 (-1), .int .i64 s, .int .i64 d, .int .i64 m], .int .i64 nx] W fun e w' => e = .returned (.int .i64 (wrap64 (d + nx))) ∧ Below W.heap.size W w' := by
  have CP := Lib.hid plusS
  have hg : Cpb ((W.alloc (.cells (cpV c) 27)).alloc (.cells #[.int .i64 k, .int .i64 r, .int .i64 16, .int .i64 (-1), .int .i64 s, .int .i64 d, .int .i64 m] 37)) W.heap.size (cpV c) := (Cpb.new W (cpV c)).on (Below.refl _ _ |>.alloc (Nat.le_refl _) _)
  have B1 := Lib.hid (show Below W.heap.size W ((W.alloc (.cells (cpV c) 27)).alloc (.cells #[.int .i64 k, .int .i64 r, .int .i64 16, .int .i64 (-1), .int .i64 s, .int .i64 d, .int .i64 m] 37)) from ((Below.refl _ _).alloc (Nat.le_refl _) _).alloc (by simp) _)
  generalize cpV c = V at *
  clear hg
  go_enter Tryd.func40, Tryd.ntmps40
  go_wp2_with fail
  refine (CP.out _ _ _).mono ?_
  rintro e w1 ⟨rfl, rfl⟩
  go_wp2_with fail
  go_ret
  exact ⟨rfl, by first | exact B1.out | exact dn B1.out _ | exact dn (dn B1.out _) _⟩
set_option maxRecDepth 100000 in
set_option maxHeartbeats 1000000 in
theorem addrSPY (c : Cp) (k r s d m nx : Int) (j : Nat) (hj : j < 16) (W : World) :
    Calls Tryd.prog 40 #[.agg (cpV c), .agg #[.int .i64 k, .int .i64 r, .int .i64 16, .int .i64 (j : Int), .int .i64 s, .int .i64 d, .int .i64 m], .int .i64 nx] W fun e w' => e = .returned (.int .i64 (wrap64 (wrap64 (d + nx) + wrap64 (c.rs j * s)))) ∧ Below W.heap.size W w' := by
  have CP := Lib.hid plusS
  have hmul := w64_mulU (c.rs j) s
  have j0 : (0 : Int) ≤ (j : Int) := by omega
  have j1 : (j : Int) < 16 := by omega
  have j2 : ((j : Int)).toNat = j := by omega
  have j3 : ((j : Int) != -1) = true := bne_iff_ne.mpr (by omega)
  have hg : Cpb ((W.alloc (.cells (cpV c) 27)).alloc (.cells #[.int .i64 k, .int .i64 r, .int .i64 16, .int .i64 (j : Int), .int .i64 s, .int .i64 d, .int .i64 m] 37)) W.heap.size (cpV c) := (Cpb.new W (cpV c)).on (Below.refl _ _ |>.alloc (Nat.le_refl _) _)
  have hcj : ((W.alloc (.cells (cpV c) 27)).alloc (.cells #[.int .i64 k, .int .i64 r, .int .i64 16, .int .i64 (j : Int), .int .i64 s, .int .i64 d, .int .i64 m] 37)).cell? ⟨W.heap.size, j, none⟩ = some (.int .i64 (c.rs j)) := (cell_of_row _ _ j _ _ _ hg).trans (cpV_at c j hj)
  have j5 : decide ((0 : Int) ≤ j) = true := decide_eq_true (by omega)
  have B1 := Lib.hid (show Below W.heap.size W ((W.alloc (.cells (cpV c) 27)).alloc (.cells #[.int .i64 k, .int .i64 r, .int .i64 16, .int .i64 (j : Int), .int .i64 s, .int .i64 d, .int .i64 m] 37)) from ((Below.refl _ _).alloc (Nat.le_refl _) _).alloc (by simp) _)
  generalize cpV c = V at *
  clear hg hj
  go_enter Tryd.func40, Tryd.ntmps40
  go_wp2_with fail
  refine (CP.out _ _ _).mono ?_
  rintro e w1 ⟨rfl, rfl⟩
  go_wp2_with fail
  go_quiet ((first | (go_at_call 68; exact Calls.quiet_of_same ((CP.out _ _ _).mono fun _ _ h => ⟨h.1, h.2.symm⟩))))
  go_wp2_with fail
  go_ret
  exact ⟨rfl, by first | exact B1.out | exact dn B1.out _ | exact dn (dn B1.out _) _⟩
set_option maxRecDepth 100000 in
set_option maxHeartbeats 1000000 in
theorem addrSRN (c : Cp) (k r s d m nx : Int) (q : Nat) (hq : q < 16) (W : World) :
    Calls Tryd.prog 40 #[.agg (cpV c), .agg #[.int .i64 k, .int .i64 r, .int .i64 (q : Int), .int .i64 (-1), .int .i64 s, .int .i64 d, .int .i64 m], .int .i64 nx] W fun e w' => e = .returned (.int .i64 (wrap64 (d + c.rs q))) ∧ Below W.heap.size W w' := by
  have CP := Lib.hid plusS
  have q0 : (0 : Int) ≤ (q : Int) := by omega
  have q1 : (q : Int) < 16 := by omega
  have q2 : ((q : Int)).toNat = q := by omega
  have q3 : ((q : Int) == -1) = false := beq_eq_false_iff_ne.mpr (by omega)
  have q4 : ((q : Int) == 16) = false := beq_eq_false_iff_ne.mpr (by omega)
  have hg : Cpb ((W.alloc (.cells (cpV c) 27)).alloc (.cells #[.int .i64 k, .int .i64 r, .int .i64 (q : Int), .int .i64 (-1), .int .i64 s, .int .i64 d, .int .i64 m] 37)) W.heap.size (cpV c) := (Cpb.new W (cpV c)).on (Below.refl _ _ |>.alloc (Nat.le_refl _) _)
  have hcq : ((W.alloc (.cells (cpV c) 27)).alloc (.cells #[.int .i64 k, .int .i64 r, .int .i64 (q : Int), .int .i64 (-1), .int .i64 s, .int .i64 d, .int .i64 m] 37)).cell? ⟨W.heap.size, q, none⟩ = some (.int .i64 (c.rs q)) := (cell_of_row _ _ q _ _ _ hg).trans (cpV_at c q hq)
  have q5 : decide ((0 : Int) ≤ q) = true := decide_eq_true (by omega)
  have B1 := Lib.hid (show Below W.heap.size W ((W.alloc (.cells (cpV c) 27)).alloc (.cells #[.int .i64 k, .int .i64 r, .int .i64 (q : Int), .int .i64 (-1), .int .i64 s, .int .i64 d, .int .i64 m] 37)) from ((Below.refl _ _).alloc (Nat.le_refl _) _).alloc (by simp) _)
  generalize cpV c = V at *
  clear hg hq
  go_enter Tryd.func40, Tryd.ntmps40
  go_wp2_with fail
  refine (CP.out _ _ _).mono ?_
  rintro e w1 ⟨rfl, rfl⟩
  go_wp2_with fail
  go_ret
  exact ⟨rfl, by first | exact B1.out | exact dn B1.out _ | exact dn (dn B1.out _) _⟩
set_option maxRecDepth 100000 in
set_option maxHeartbeats 1000000 in
theorem addrSRY (c : Cp) (k r s d m nx : Int) (q : Nat) (hq : q < 16) (j : Nat) (hj : j < 16) (W : World) :
    Calls Tryd.prog 40 #[.agg (cpV c), .agg #[.int .i64 k, .int .i64 r, .int .i64 (q : Int), .int .i64 (j : Int), .int .i64 s, .int .i64 d, .int .i64 m], .int .i64 nx] W fun e w' => e = .returned (.int .i64 (wrap64 (wrap64 (d + c.rs q) + wrap64 (c.rs j * s)))) ∧ Below W.heap.size W w' := by
  have CP := Lib.hid plusS
  have hmul := w64_mulU (c.rs j) s
  have q0 : (0 : Int) ≤ (q : Int) := by omega
  have q1 : (q : Int) < 16 := by omega
  have q2 : ((q : Int)).toNat = q := by omega
  have q3 : ((q : Int) == -1) = false := beq_eq_false_iff_ne.mpr (by omega)
  have q4 : ((q : Int) == 16) = false := beq_eq_false_iff_ne.mpr (by omega)
  have j0 : (0 : Int) ≤ (j : Int) := by omega
  have j1 : (j : Int) < 16 := by omega
  have j2 : ((j : Int)).toNat = j := by omega
  have j3 : ((j : Int) != -1) = true := bne_iff_ne.mpr (by omega)
  have hg : Cpb ((W.alloc (.cells (cpV c) 27)).alloc (.cells #[.int .i64 k, .int .i64 r, .int .i64 (q : Int), .int .i64 (j : Int), .int .i64 s, .int .i64 d, .int .i64 m] 37)) W.heap.size (cpV c) := (Cpb.new W (cpV c)).on (Below.refl _ _ |>.alloc (Nat.le_refl _) _)
  have hcq : ((W.alloc (.cells (cpV c) 27)).alloc (.cells #[.int .i64 k, .int .i64 r, .int .i64 (q : Int), .int .i64 (j : Int), .int .i64 s, .int .i64 d, .int .i64 m] 37)).cell? ⟨W.heap.size, q, none⟩ = some (.int .i64 (c.rs q)) := (cell_of_row _ _ q _ _ _ hg).trans (cpV_at c q hq)
  have q5 : decide ((0 : Int) ≤ q) = true := decide_eq_true (by omega)
  have hcj : ((W.alloc (.cells (cpV c) 27)).alloc (.cells #[.int .i64 k, .int .i64 r, .int .i64 (q : Int), .int .i64 (j : Int), .int .i64 s, .int .i64 d, .int .i64 m] 37)).cell? ⟨W.heap.size, j, none⟩ = some (.int .i64 (c.rs j)) := (cell_of_row _ _ j _ _ _ hg).trans (cpV_at c j hj)
  have j5 : decide ((0 : Int) ≤ j) = true := decide_eq_true (by omega)
  have B1 := Lib.hid (show Below W.heap.size W ((W.alloc (.cells (cpV c) 27)).alloc (.cells #[.int .i64 k, .int .i64 r, .int .i64 (q : Int), .int .i64 (j : Int), .int .i64 s, .int .i64 d, .int .i64 m] 37)) from ((Below.refl _ _).alloc (Nat.le_refl _) _).alloc (by simp) _)
  generalize cpV c = V at *
  clear hg hq hj
  go_enter Tryd.func40, Tryd.ntmps40
  go_wp2_with fail
  refine (CP.out _ _ _).mono ?_
  rintro e w1 ⟨rfl, rfl⟩
  go_wp2_with fail
  go_quiet ((first | (go_at_call 68; exact Calls.quiet_of_same ((CP.out _ _ _).mono fun _ _ h => ⟨h.1, h.2.symm⟩))))
  go_wp2_with fail
  go_ret
  exact ⟨rfl, by first | exact B1.out | exact dn B1.out _ | exact dn (dn B1.out _) _⟩
end Go.Proofs.YtbcbepdfijcbmaaDoor
