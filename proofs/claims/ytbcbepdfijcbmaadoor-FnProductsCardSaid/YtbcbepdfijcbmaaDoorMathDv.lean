/-
  The numbers of quotients: a dividend of two halves, its negative, what fits; no program.
-/
import Derived.Test.YtbcbepdfijcbmaaDoorWalkDw
import Derived.Test.YtbcbepdfijcbmaaDoorWalkDs
import Derived.Test.YtbcbepdfijcbmaaDoorWalkDiv2
namespace Go.Proofs.YtbcbepdfijcbmaaDoor
open Go.RowKit
set_option linter.unusedVariables false
theorem u_w64 {x : Int} (h0 : 0 ≤ x) (h1 : x < 18446744073709551616) : IntKind.u64.wrap (wrap64 x) = x := by
  rw [wrapU]; unfold wrap64; omega
theorem w64_u (x : Int) : wrap64 (IntKind.u64.wrap x) = wrap64 x := by
  rw [wrapU]; unfold wrap64; omega
theorem w64_neg (x : Int) : wrap64 (-wrap64 x) = wrap64 (-x) := by unfold wrap64; omega
theorem w64_neg2 (x : Int) : wrap64 (IntKind.u64.wrap (-x)) = wrap64 (-x) := w64_u _
theorem w64_add2 (x : Int) : wrap64 (IntKind.u64.wrap x) = wrap64 x := w64_u _
theorem xorN (x : Int) : bits .xor .i64 (-1) x = wrap64 (-1 - x) := by
  show IntKind.i64.wrap ((BitVec.ofInt 64 (-1) ^^^ BitVec.ofInt 64 x).toNat : Int) = _
  have e1 : (BitVec.ofInt 64 (-1) ^^^ BitVec.ofInt 64 x) = ~~~ (BitVec.ofInt 64 x) := by
    rw [show BitVec.ofInt 64 (-1) = BitVec.allOnes 64 by decide, BitVec.allOnes_xor]
  rw [e1, BitVec.toNat_not, BitVec.toNat_ofInt, IntWalk.i64_left]
  have e : ((2 ^ 64 : Nat) : Int) = 18446744073709551616 := by decide
  rw [e]
  unfold wrap64
  omega
theorem xor_w64 (x : Int) : bits .xor .i64 (-1) (wrap64 x) = wrap64 (18446744073709551615 - x) := by
  rw [xorN]; unfold wrap64; omega
/-- the negative of a number of two halves -/
def negH (H L : Int) : Int := if L = 0 then (18446744073709551616 - H) % 18446744073709551616 else 18446744073709551615 - H
def negL (L : Int) : Int := (18446744073709551616 - L) % 18446744073709551616
theorem negH_b {H L : Int} (h0 : 0 ≤ H) (h1 : H < 18446744073709551616) : 0 ≤ negH H L ∧ negH H L < 18446744073709551616 := by unfold negH; split <;> omega
theorem negL_b (L : Int) : 0 ≤ negL L ∧ negL L < 18446744073709551616 := by unfold negL; omega
theorem fitP1 {q : Int} {Q : Nat} (h0 : 0 ≤ q) (h1 : q < 18446744073709551616) (e : IntKind.u64.wrap (wrap64 q) = (Q : Int)) :
    (0 == wrap64 (sgnU Q 1 : Int) / 9223372036854775808 && wrap64 q == wrap64 (sgnU Q 1 : Int)) = !(decide (128 < q) || (q == 128)) := by
  rw [u_w64 h0 h1] at e
  rw [sgn_int Q 1 (by decide), show ((2 ^ (8 * 1) : Nat)) = 256 from rfl, Bool.eq_iff_iff]
  simp only [Int.bmod_def, Bool.and_eq_true, beq_iff_eq, Bool.not_eq_true', Bool.or_eq_false_iff, decide_eq_false_iff_not, beq_eq_false_iff_ne, ne_eq]
  rw [show (((256 : Nat) : Int)) = 256 from rfl, ← e]
  unfold wrap64
  split <;> omega
theorem fitN1 {q : Int} {Q : Nat} (h0 : 0 < q) (h1 : q < 18446744073709551616) (e : IntKind.u64.wrap (wrap64 (-q)) = (Q : Int)) :
    (-1 == wrap64 (sgnU Q 1 : Int) / 9223372036854775808 && wrap64 (-q) == wrap64 (sgnU Q 1 : Int)) = !(decide (128 < q)) := by
  rw [wrapU] at e
  rw [sgn_int Q 1 (by decide), show ((2 ^ (8 * 1) : Nat)) = 256 from rfl, Bool.eq_iff_iff]
  simp only [Int.bmod_def, Bool.and_eq_true, beq_iff_eq, Bool.not_eq_true', decide_eq_false_iff_not]
  rw [show (((256 : Nat) : Int)) = 256 from rfl]
  have e2 : (Q : Int) = (18446744073709551616 - q) % 18446744073709551616 := by unfold wrap64 at e; omega
  rw [e2]
  clear e e2
  unfold wrap64
  split <;> omega
theorem fitU1 {q : Int} {Q : Nat} (h0 : 0 ≤ q) (h1 : q < 18446744073709551616) (e : IntKind.u64.wrap (wrap64 q) = (Q : Int)) :
    (wrap64 q == wrap64 ((Q % 2 ^ (8 * 1) : Nat) : Int)) = (q / 256 == 0) := by
  rw [u_w64 h0 h1] at e
  rw [show (2 : Nat) ^ (8 * 1) = 256 from rfl, Bool.eq_iff_iff]
  simp only [beq_iff_eq]
  unfold wrap64
  constructor <;> intro h <;> omega
theorem lowU1 {r : Int} {R : Nat} (h0 : 0 ≤ r) (h1 : r < 256) (e : IntKind.u64.wrap (wrap64 r) = (R : Int)) : wrap64 ((R % 2 ^ (8 * 1) : Nat) : Int) = wrap64 r := by
  rw [u_w64 h0 (by omega)] at e
  rw [show (2 : Nat) ^ (8 * 1) = 256 from rfl]
  congr 1; omega
theorem fitP2 {q : Int} {Q : Nat} (h0 : 0 ≤ q) (h1 : q < 18446744073709551616) (e : IntKind.u64.wrap (wrap64 q) = (Q : Int)) :
    (0 == wrap64 (sgnU Q 2 : Int) / 9223372036854775808 && wrap64 q == wrap64 (sgnU Q 2 : Int)) = !(decide (32768 < q) || (q == 32768)) := by
  rw [u_w64 h0 h1] at e
  rw [sgn_int Q 2 (by decide), show ((2 ^ (8 * 2) : Nat)) = 65536 from rfl, Bool.eq_iff_iff]
  simp only [Int.bmod_def, Bool.and_eq_true, beq_iff_eq, Bool.not_eq_true', Bool.or_eq_false_iff, decide_eq_false_iff_not, beq_eq_false_iff_ne, ne_eq]
  rw [show (((65536 : Nat) : Int)) = 65536 from rfl, ← e]
  unfold wrap64
  split <;> omega
theorem fitN2 {q : Int} {Q : Nat} (h0 : 0 < q) (h1 : q < 18446744073709551616) (e : IntKind.u64.wrap (wrap64 (-q)) = (Q : Int)) :
    (-1 == wrap64 (sgnU Q 2 : Int) / 9223372036854775808 && wrap64 (-q) == wrap64 (sgnU Q 2 : Int)) = !(decide (32768 < q)) := by
  rw [wrapU] at e
  rw [sgn_int Q 2 (by decide), show ((2 ^ (8 * 2) : Nat)) = 65536 from rfl, Bool.eq_iff_iff]
  simp only [Int.bmod_def, Bool.and_eq_true, beq_iff_eq, Bool.not_eq_true', decide_eq_false_iff_not]
  rw [show (((65536 : Nat) : Int)) = 65536 from rfl]
  have e2 : (Q : Int) = (18446744073709551616 - q) % 18446744073709551616 := by unfold wrap64 at e; omega
  rw [e2]
  clear e e2
  unfold wrap64
  split <;> omega
theorem fitU2 {q : Int} {Q : Nat} (h0 : 0 ≤ q) (h1 : q < 18446744073709551616) (e : IntKind.u64.wrap (wrap64 q) = (Q : Int)) :
    (wrap64 q == wrap64 ((Q % 2 ^ (8 * 2) : Nat) : Int)) = (q / 65536 == 0) := by
  rw [u_w64 h0 h1] at e
  rw [show (2 : Nat) ^ (8 * 2) = 65536 from rfl, Bool.eq_iff_iff]
  simp only [beq_iff_eq]
  unfold wrap64
  constructor <;> intro h <;> omega
theorem lowU2 {r : Int} {R : Nat} (h0 : 0 ≤ r) (h1 : r < 65536) (e : IntKind.u64.wrap (wrap64 r) = (R : Int)) : wrap64 ((R % 2 ^ (8 * 2) : Nat) : Int) = wrap64 r := by
  rw [u_w64 h0 (by omega)] at e
  rw [show (2 : Nat) ^ (8 * 2) = 65536 from rfl]
  congr 1; omega
theorem fitP4 {q : Int} {Q : Nat} (h0 : 0 ≤ q) (h1 : q < 18446744073709551616) (e : IntKind.u64.wrap (wrap64 q) = (Q : Int)) :
    (0 == wrap64 (sgnU Q 4 : Int) / 9223372036854775808 && wrap64 q == wrap64 (sgnU Q 4 : Int)) = !(decide (2147483648 < q) || (q == 2147483648)) := by
  rw [u_w64 h0 h1] at e
  rw [sgn_int Q 4 (by decide), show ((2 ^ (8 * 4) : Nat)) = 4294967296 from rfl, Bool.eq_iff_iff]
  simp only [Int.bmod_def, Bool.and_eq_true, beq_iff_eq, Bool.not_eq_true', Bool.or_eq_false_iff, decide_eq_false_iff_not, beq_eq_false_iff_ne, ne_eq]
  rw [show (((4294967296 : Nat) : Int)) = 4294967296 from rfl, ← e]
  unfold wrap64
  split <;> omega
theorem fitN4 {q : Int} {Q : Nat} (h0 : 0 < q) (h1 : q < 18446744073709551616) (e : IntKind.u64.wrap (wrap64 (-q)) = (Q : Int)) :
    (-1 == wrap64 (sgnU Q 4 : Int) / 9223372036854775808 && wrap64 (-q) == wrap64 (sgnU Q 4 : Int)) = !(decide (2147483648 < q)) := by
  rw [wrapU] at e
  rw [sgn_int Q 4 (by decide), show ((2 ^ (8 * 4) : Nat)) = 4294967296 from rfl, Bool.eq_iff_iff]
  simp only [Int.bmod_def, Bool.and_eq_true, beq_iff_eq, Bool.not_eq_true', decide_eq_false_iff_not]
  rw [show (((4294967296 : Nat) : Int)) = 4294967296 from rfl]
  have e2 : (Q : Int) = (18446744073709551616 - q) % 18446744073709551616 := by unfold wrap64 at e; omega
  rw [e2]
  clear e e2
  unfold wrap64
  split <;> omega
theorem fitU4 {q : Int} {Q : Nat} (h0 : 0 ≤ q) (h1 : q < 18446744073709551616) (e : IntKind.u64.wrap (wrap64 q) = (Q : Int)) :
    (wrap64 q == wrap64 ((Q % 2 ^ (8 * 4) : Nat) : Int)) = (q / 4294967296 == 0) := by
  rw [u_w64 h0 h1] at e
  rw [show (2 : Nat) ^ (8 * 4) = 4294967296 from rfl, Bool.eq_iff_iff]
  simp only [beq_iff_eq]
  unfold wrap64
  constructor <;> intro h <;> omega
theorem lowU4 {r : Int} {R : Nat} (h0 : 0 ≤ r) (h1 : r < 4294967296) (e : IntKind.u64.wrap (wrap64 r) = (R : Int)) : wrap64 ((R % 2 ^ (8 * 4) : Nat) : Int) = wrap64 r := by
  rw [u_w64 h0 (by omega)] at e
  rw [show (2 : Nat) ^ (8 * 4) = 4294967296 from rfl]
  congr 1; omega
theorem fitP8 {q : Int} {Q : Nat} (h0 : 0 ≤ q) (h1 : q < 18446744073709551616) (e : IntKind.u64.wrap (wrap64 q) = (Q : Int)) :
    (0 == wrap64 (sgnU Q 8 : Int) / 9223372036854775808 && wrap64 q == wrap64 (sgnU Q 8 : Int)) = !(decide (9223372036854775808 < q) || (q == 9223372036854775808)) := by
  rw [u_w64 h0 h1] at e
  rw [sgn_int Q 8 (by decide), show ((2 ^ (8 * 8) : Nat)) = 18446744073709551616 from rfl, Bool.eq_iff_iff]
  simp only [Int.bmod_def, Bool.and_eq_true, beq_iff_eq, Bool.not_eq_true', Bool.or_eq_false_iff, decide_eq_false_iff_not, beq_eq_false_iff_ne, ne_eq]
  rw [show (((18446744073709551616 : Nat) : Int)) = 18446744073709551616 from rfl, ← e]
  unfold wrap64
  split <;> omega
theorem fitN8 {q : Int} {Q : Nat} (h0 : 0 < q) (h1 : q < 18446744073709551616) (e : IntKind.u64.wrap (wrap64 (-q)) = (Q : Int)) :
    (-1 == wrap64 (sgnU Q 8 : Int) / 9223372036854775808 && wrap64 (-q) == wrap64 (sgnU Q 8 : Int)) = !(decide (9223372036854775808 < q)) := by
  rw [wrapU] at e
  rw [sgn_int Q 8 (by decide), show ((2 ^ (8 * 8) : Nat)) = 18446744073709551616 from rfl, Bool.eq_iff_iff]
  simp only [Int.bmod_def, Bool.and_eq_true, beq_iff_eq, Bool.not_eq_true', decide_eq_false_iff_not]
  rw [show (((18446744073709551616 : Nat) : Int)) = 18446744073709551616 from rfl]
  have e2 : (Q : Int) = (18446744073709551616 - q) % 18446744073709551616 := by unfold wrap64 at e; omega
  rw [e2]
  clear e e2
  unfold wrap64
  split <;> omega
theorem fitU8 {q : Int} {Q : Nat} (h0 : 0 ≤ q) (h1 : q < 18446744073709551616) (e : IntKind.u64.wrap (wrap64 q) = (Q : Int)) :
    (wrap64 q == wrap64 ((Q % 2 ^ (8 * 8) : Nat) : Int)) = true := by
  rw [u_w64 h0 h1] at e
  rw [show (2 : Nat) ^ (8 * 8) = 18446744073709551616 from rfl, Bool.eq_iff_iff]
  simp only [beq_iff_eq, iff_true]
  unfold wrap64
  omega
theorem lowU8 {r : Int} {R : Nat} (h0 : 0 ≤ r) (h1 : r < 18446744073709551616) (e : IntKind.u64.wrap (wrap64 r) = (R : Int)) : wrap64 ((R % 2 ^ (8 * 8) : Nat) : Int) = wrap64 r := by
  rw [u_w64 h0 (by omega)] at e
  rw [show (2 : Nat) ^ (8 * 8) = 18446744073709551616 from rfl]
  congr 1; omega
theorem orK1 {a b : Nat} (hb : b < 256) : a * 256 ||| b = a * 256 + b := by
  have := Nat.two_pow_add_eq_or_of_lt (i := 8) (by omega : b < 2 ^ 8) a
  rw [Nat.mul_comm] at this; exact this.symm
/-- the two halves in the specification's way -/
theorem orS1 (X Y : Nat) : bits .or .u64 (IntKind.u64.wrap (IntKind.u64.wrap (wrap64 ((X % 2 ^ (8 * 1) : Nat) : Int)) * 256)) (IntKind.u64.wrap (wrap64 ((Y % 2 ^ (8 * 1) : Nat) : Int))) = ((X % 256 * 256 + Y % 256 : Nat) : Int) := by
  rw [show (2 : Nat) ^ (8 * 1) = 256 from rfl]
  rw [u_w64 (by omega) (by omega), u_w64 (by omega) (by omega), wrapU]
  have := bits_or_u64_nat (X % 256 * 256) (Y % 256) (by omega) (by omega)
  rw [orK1 (by omega)] at this
  rw [← this]; congr 1; omega
/-- the two halves in the program's way -/
theorem orI1 {h : Int} (X Y : Nat) (hX : IntKind.u64.wrap h = (X : Int)) : ∃ V : Nat, V % 65536 = X % 256 * 256 + Y % 256 ∧ V < 18446744073709551616 ∧ bits .or .i64 (wrap64 (h * 256)) (wrap64 ((Y % 2 ^ (8 * 1) : Nat) : Int)) = wrap64 (V : Int) := by
  refine ⟨X * 256 % 18446744073709551616 + Y % 256, by omega, by omega, ?_⟩
  rw [show (2 : Nat) ^ (8 * 1) = 256 from rfl]
  have e1 : wrap64 (h * 256) = wrap64 ((X * 256 % 18446744073709551616 : Nat) : Int) := by rw [wrapU] at hX; unfold wrap64; omega
  rw [e1, or64 _ _ (by omega) (by omega)]
  congr 2
  have e2 : X * 256 % 18446744073709551616 = X % 72057594037927936 * 256 := by omega
  rw [e2]; exact orK1 (by omega)
theorem orK2 {a b : Nat} (hb : b < 65536) : a * 65536 ||| b = a * 65536 + b := by
  have := Nat.two_pow_add_eq_or_of_lt (i := 16) (by omega : b < 2 ^ 16) a
  rw [Nat.mul_comm] at this; exact this.symm
/-- the two halves in the specification's way -/
theorem orS2 (X Y : Nat) : bits .or .u64 (IntKind.u64.wrap (IntKind.u64.wrap (wrap64 ((X % 2 ^ (8 * 2) : Nat) : Int)) * 65536)) (IntKind.u64.wrap (wrap64 ((Y % 2 ^ (8 * 2) : Nat) : Int))) = ((X % 65536 * 65536 + Y % 65536 : Nat) : Int) := by
  rw [show (2 : Nat) ^ (8 * 2) = 65536 from rfl]
  rw [u_w64 (by omega) (by omega), u_w64 (by omega) (by omega), wrapU]
  have := bits_or_u64_nat (X % 65536 * 65536) (Y % 65536) (by omega) (by omega)
  rw [orK2 (by omega)] at this
  rw [← this]; congr 1; omega
/-- the two halves in the program's way -/
theorem orI2 {h : Int} (X Y : Nat) (hX : IntKind.u64.wrap h = (X : Int)) : ∃ V : Nat, V % 4294967296 = X % 65536 * 65536 + Y % 65536 ∧ V < 18446744073709551616 ∧ bits .or .i64 (wrap64 (h * 65536)) (wrap64 ((Y % 2 ^ (8 * 2) : Nat) : Int)) = wrap64 (V : Int) := by
  refine ⟨X * 65536 % 18446744073709551616 + Y % 65536, by omega, by omega, ?_⟩
  rw [show (2 : Nat) ^ (8 * 2) = 65536 from rfl]
  have e1 : wrap64 (h * 65536) = wrap64 ((X * 65536 % 18446744073709551616 : Nat) : Int) := by rw [wrapU] at hX; unfold wrap64; omega
  rw [e1, or64 _ _ (by omega) (by omega)]
  congr 2
  have e2 : X * 65536 % 18446744073709551616 = X % 281474976710656 * 65536 := by omega
  rw [e2]; exact orK2 (by omega)
theorem orK4 {a b : Nat} (hb : b < 4294967296) : a * 4294967296 ||| b = a * 4294967296 + b := by
  have := Nat.two_pow_add_eq_or_of_lt (i := 32) (by omega : b < 2 ^ 32) a
  rw [Nat.mul_comm] at this; exact this.symm
/-- the two halves in the specification's way -/
theorem orS4 (X Y : Nat) : bits .or .u64 (IntKind.u64.wrap (IntKind.u64.wrap (wrap64 ((X % 2 ^ (8 * 4) : Nat) : Int)) * 4294967296)) (IntKind.u64.wrap (wrap64 ((Y % 2 ^ (8 * 4) : Nat) : Int))) = ((X % 4294967296 * 4294967296 + Y % 4294967296 : Nat) : Int) := by
  rw [show (2 : Nat) ^ (8 * 4) = 4294967296 from rfl]
  rw [u_w64 (by omega) (by omega), u_w64 (by omega) (by omega), wrapU]
  have := bits_or_u64_nat (X % 4294967296 * 4294967296) (Y % 4294967296) (by omega) (by omega)
  rw [orK4 (by omega)] at this
  rw [← this]; congr 1; omega
/-- the two halves in the program's way -/
theorem orI4 {h : Int} (X Y : Nat) (hX : IntKind.u64.wrap h = (X : Int)) : ∃ V : Nat, V % 18446744073709551616 = X % 4294967296 * 4294967296 + Y % 4294967296 ∧ V < 18446744073709551616 ∧ bits .or .i64 (wrap64 (h * 4294967296)) (wrap64 ((Y % 2 ^ (8 * 4) : Nat) : Int)) = wrap64 (V : Int) := by
  refine ⟨X * 4294967296 % 18446744073709551616 + Y % 4294967296, by omega, by omega, ?_⟩
  rw [show (2 : Nat) ^ (8 * 4) = 4294967296 from rfl]
  have e1 : wrap64 (h * 4294967296) = wrap64 ((X * 4294967296 % 18446744073709551616 : Nat) : Int) := by rw [wrapU] at hX; unfold wrap64; omega
  rw [e1, or64 _ _ (by omega) (by omega)]
  congr 2
  have e2 : X * 4294967296 % 18446744073709551616 = X % 4294967296 * 4294967296 := by omega
  rw [e2]; exact orK4 (by omega)
end Go.Proofs.YtbcbepdfijcbmaaDoor
