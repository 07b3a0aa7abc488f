/-
  What the method set of impl.Cpu and spec.l07Set do to a register that there is; conditions: those in each head.
-/
import Derived.Test.YtbcbepdfijcbmaaDoorWalkCpuH
import Derived.BigRegion
namespace Go.Proofs.YtbcbepdfijcbmaaDoor
open Go.RowKit
set_option linter.unusedVariables false
set_option maxHeartbeats 1000000 in
theorem setIW (W : World) (b : Nat) (c v x z : Int) (k : Nat) (hk : k < 16) (hz : 4 ≤ z) (hc : W.cell? ⟨b, k, none⟩ = some (.int .i64 c)) (hf : W.frozen? ⟨b, k, none⟩ = false) (hU : ∀ w, Calls Tryd.prog 46 #[.int .i64 v, .int .i64 z] w fun e w' => e = .returned (.tuple #[.int .i64 x, .nilIface]) ∧ w = w') :
    Calls Tryd.prog 37 #[.pointer (some ⟨b, 0, none⟩), .int .i64 (k : Int), .int .i64 z, .int .i64 v] W fun e w' => e = .returned (.tuple #[]) ∧ w' = W.setCell ⟨b, k, none⟩ (.int .i64 x) := by
  have CU := Lib.hid hU
  have h0 : (0 : Int) ≤ (k : Int) := by omega
  have h1 : (k : Int) < 16 := by omega
  have h2 : ((k : Int)).toNat = k := by omega
  have h3 : decide ((16 : Int) ≤ k) = false := decide_eq_false (by omega)
  have h4 : decide (z < 4) = false := decide_eq_false (by omega)
  clear hU hk hz
  go_enter Tryd.func37, Tryd.ntmps37
  go_wp2_with fail
  refine (CU.out _).mono ?_
  rintro e w1 ⟨rfl, rfl⟩
  go_wp2
  go_end0
  exact ⟨rfl, rfl⟩
set_option maxHeartbeats 1000000 in
theorem setIH (W : World) (b : Nat) (c v x z : Int) (k : Nat) (hk : k < 4) (hc : W.cell? ⟨b, k, none⟩ = some (.int .i64 c)) (hf : W.frozen? ⟨b, k, none⟩ = false) (hU : ∀ w, Calls Tryd.prog 46 #[.int .i64 v, .int .i64 z] w fun e w' => e = .returned (.tuple #[.int .i64 x, .nilIface]) ∧ w = w') :
    Calls Tryd.prog 37 #[.pointer (some ⟨b, 0, none⟩), .int .i64 ((k : Int) + 16), .int .i64 z, .int .i64 v] W fun e w' => e = .returned (.tuple #[]) ∧ w' = W.setCell ⟨b, k, none⟩ (.int .i64 (bits .or .i64 (bits .andNot .i64 c 65280) (wrap64 (x * 256)))) := by
  have CU := Lib.hid hU
  have h0 : (0 : Int) ≤ (k : Int) := by omega
  have h1 : (k : Int) < 16 := by omega
  have h2 : ((k : Int)).toNat = k := by omega
  have h3 : decide ((16 : Int) ≤ (k : Int) + 16) = true := decide_eq_true (by omega)
  have h4 : wrap64 ((k : Int) + 16 - 16) = k := by unfold wrap64; omega
  clear hU hk
  go_enter Tryd.func37, Tryd.ntmps37
  go_wp2_with fail
  refine (CU.out _).mono ?_
  rintro e w1 ⟨rfl, rfl⟩
  go_wp2
  go_end0
  exact ⟨rfl, rfl⟩
set_option maxHeartbeats 1000000 in
theorem setIL (W : World) (b : Nat) (c v x o z : Int) (k : Nat) (hk : k < 16) (hz : z < 4) (hc : W.cell? ⟨b, k, none⟩ = some (.int .i64 c)) (hf : W.frozen? ⟨b, k, none⟩ = false) (hU : ∀ w, Calls Tryd.prog 46 #[.int .i64 v, .int .i64 z] w fun e w' => e = .returned (.tuple #[.int .i64 x, .nilIface]) ∧ w = w') (hO : ∀ w, Calls Tryd.prog 46 #[.int .i64 c, .int .i64 z] w fun e w' => e = .returned (.tuple #[.int .i64 o, .nilIface]) ∧ w = w') :
    Calls Tryd.prog 37 #[.pointer (some ⟨b, 0, none⟩), .int .i64 (k : Int), .int .i64 z, .int .i64 v] W fun e w' => e = .returned (.tuple #[]) ∧ w' = (W.setCell ⟨b, k, none⟩ (.int .i64 (wrap64 (c + wrap64 (x - o))))).drew := by
  have CU := Lib.hid hU
  have CO := Lib.hid hO
  have h0 : (0 : Int) ≤ (k : Int) := by omega
  have h1 : (k : Int) < 16 := by omega
  have h2 : ((k : Int)).toNat = k := by omega
  have h3 : decide ((16 : Int) ≤ k) = false := decide_eq_false (by omega)
  have h4 : decide (z < 4) = true := decide_eq_true (by omega)
  clear hU hO hk hz
  go_enter Tryd.func37, Tryd.ntmps37
  go_wp2_with fail
  refine (CU.out _).mono ?_
  rintro e w1 ⟨rfl, rfl⟩
  go_wp2_with fail
  refine (CO.out _).mono ?_
  rintro e w1 ⟨rfl, rfl⟩
  go_wp2
  go_region
  (try simp only [Exit.inBlock])
  go_end0
  exact ⟨rfl, rfl⟩
end Go.Proofs.YtbcbepdfijcbmaaDoor
