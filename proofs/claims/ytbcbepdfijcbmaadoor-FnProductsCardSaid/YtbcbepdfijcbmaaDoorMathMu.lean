/-
  The numbers of products: halves, what fits, what is more; no program.
-/
import Derived.Test.YtbcbepdfijcbmaaDoorWalkMu
namespace Go.Proofs.YtbcbepdfijcbmaaDoor
open Go.RowKit
set_option linter.unusedVariables false
theorem hi8 {h : Int} {X : Nat} (e : IntKind.u64.wrap (wrap64 h) = (X : Int)) : wrap64 ((X % 2 ^ (8 * 8) : Nat) : Int) = wrap64 h := by
  rw [wrapU] at e
  rw [show (2 : Nat) ^ (8 * 8) = 18446744073709551616 from rfl]
  unfold wrap64 at *; omega
theorem lowW (x y : Int) : loW (IntKind.u64.wrap x) (IntKind.u64.wrap y) = x * y % 18446744073709551616 := by
  unfold loW
  rw [wrapU, wrapU, ← Int.mul_emod]
theorem highW {x y : Int} (hx : -9223372036854775808 ≤ x ∧ x ≤ 9223372036854775807) (hy : -9223372036854775808 ≤ y ∧ y ≤ 9223372036854775807) :
    wrap64 (wrap64 (mulHi x y + wrap64 (x / 9223372036854775808 * y)) + wrap64 (x * (y / 9223372036854775808))) = wrap64 (x * y / 18446744073709551616 % 18446744073709551616) := by
  have hu : ∀ z : Int, (-9223372036854775808 ≤ z ∧ z ≤ 9223372036854775807) → IntKind.u64.wrap z = z - 18446744073709551616 * (z / 9223372036854775808) := by
    intro z hz; rw [wrapU]; omega
  have hh : hiW (IntKind.u64.wrap x) (IntKind.u64.wrap y) = x * y / 18446744073709551616 + (18446744073709551616 * (x / 9223372036854775808 * (y / 9223372036854775808)) - x / 9223372036854775808 * y - x * (y / 9223372036854775808)) := by
    unfold hiW
    rw [hu x hx, hu y hy]
    rw [show (x - 18446744073709551616 * (x / 9223372036854775808)) * (y - 18446744073709551616 * (y / 9223372036854775808)) = x * y + 18446744073709551616 * (18446744073709551616 * (x / 9223372036854775808 * (y / 9223372036854775808)) - x / 9223372036854775808 * y - x * (y / 9223372036854775808)) by
      generalize x / 9223372036854775808 = p; generalize y / 9223372036854775808 = q; generalize (18446744073709551616 : Int) = M
      simp only [Int.mul_sub, Int.mul_comm, Int.mul_left_comm]; omega]
    exact Int.add_mul_ediv_left _ _ (by decide)
  unfold mulHi
  rw [hh]
  generalize x / 9223372036854775808 * (y / 9223372036854775808) = t
  generalize x / 9223372036854775808 * y = u
  generalize x * (y / 9223372036854775808) = v
  generalize x * y / 18446744073709551616 = r
  unfold wrap64; omega
theorem hi1 {l : Int} {X2 X3 : Nat} (h0 : 0 ≤ l) (h1 : l < 18446744073709551616) (e2 : IntKind.u64.wrap (wrap64 l / 256) = (X2 : Int)) (e3 : IntKind.u64.wrap (wrap64 (l / 256)) = (X3 : Int)) : X2 % 2 ^ (8 * 1) = X3 % 2 ^ (8 * 1) := by
  rw [wrapU] at e2 e3
  rw [show (2 : Nat) ^ (8 * 1) = 256 from rfl]
  unfold wrap64 at *; omega
theorem moreU1 {N : Int} {X3 XL : Nat} (h0 : 0 ≤ N) (h1 : N < 65536) (e3 : IntKind.u64.wrap (wrap64 (N % 18446744073709551616 / 256)) = (X3 : Int)) (eL : IntKind.u64.wrap (wrap64 (N % 18446744073709551616)) = (XL : Int)) :
    (wrap64 ((X3 % 2 ^ (8 * 1) : Nat) : Int) != 0) = !(wrap64 (N / 18446744073709551616) == 0 && wrap64 (N % 18446744073709551616) == wrap64 ((XL % 2 ^ (8 * 1) : Nat) : Int)) := by
  rw [wrapU] at e3 eL
  rw [show (2 : Nat) ^ (8 * 1) = 256 from rfl]
  have a1 : N / 18446744073709551616 = 0 := by omega
  have a2 : N % 18446744073709551616 = N := by omega
  rw [a2] at *; rw [a1]
  have b1 : ((X3 % 256 : Nat) : Int) = N / 256 := by unfold wrap64 at *; omega
  have b2 : ((XL % 256 : Nat) : Int) = N % 256 := by unfold wrap64 at *; omega
  rw [b1, b2, Bool.eq_iff_iff]
  simp only [bne_iff_ne, Bool.not_eq_true', Bool.and_eq_false_iff, beq_eq_false_iff_ne, ne_eq]
  have c1 : wrap64 (N / 256) = N / 256 := by unfold wrap64; omega
  have c2 : wrap64 (N % 256) = N % 256 := by unfold wrap64; omega
  have c3 : wrap64 0 = 0 := by unfold wrap64; omega
  rw [c1, c2, c3]
  unfold wrap64; omega
theorem moreS1 {P : Int} {X3 XL Xh Xl : Nat} (h0 : -16384 ≤ P) (h1 : P ≤ 16384) (e3 : IntKind.u64.wrap (wrap64 (P % 18446744073709551616 / 256)) = (X3 : Int)) (eL : IntKind.u64.wrap (wrap64 (P % 18446744073709551616)) = (XL : Int))
    (eh : IntKind.u64.wrap (wrap64 ((X3 % 2 ^ (8 * 1) : Nat) : Int)) = (Xh : Int)) (el : IntKind.u64.wrap (wrap64 ((XL % 2 ^ (8 * 1) : Nat) : Int)) = (Xl : Int)) :
    (wrap64 (sgnU Xh 1 : Int) != wrap64 (sgnU Xl 1 : Int) / 9223372036854775808) = !(wrap64 (P / 18446744073709551616 % 18446744073709551616) == wrap64 (sgnU XL 1 : Int) / 9223372036854775808 && wrap64 (P % 18446744073709551616) == wrap64 (sgnU XL 1 : Int)) := by
  rw [sgn_int Xh 1 (by decide), sgn_int Xl 1 (by decide), sgn_int XL 1 (by decide)]
  rw [wrapU] at e3 eL eh el
  rw [show (2 : Nat) ^ (8 * 1) = 256 from rfl] at *
  have c1 : wrap64 (P % 18446744073709551616) = P := by unfold wrap64; omega
  have c2 : wrap64 (P / 18446744073709551616 % 18446744073709551616) = P / 18446744073709551616 := by unfold wrap64; omega
  rw [c1] at eL
  have d1 : ((X3 % 256 : Nat) : Int) = P / 256 % 256 := by unfold wrap64 at e3; omega
  have d2 : ((XL % 256 : Nat) : Int) = P % 256 := by omega
  rw [d1] at eh; rw [d2] at el
  have f1 : (Xh : Int) = P / 256 % 256 := by unfold wrap64 at eh; omega
  have f2 : (Xl : Int) = P % 256 := by unfold wrap64 at el; omega
  rw [c1, c2, f1, f2, Bool.eq_iff_iff]
  simp only [bne_iff_ne, Bool.not_eq_true', Bool.and_eq_false_iff, beq_eq_false_iff_ne, ne_eq]
  have g1 : (XL : Int) % 256 = P % 256 := by omega
  clear c1 c2 d1 d2 e3 eL eh el f1 f2
  simp only [Int.bmod_def]
  rw [show (((256 : Nat) : Int)) = 256 from rfl]
  rw [g1, Int.emod_emod_of_dvd _ (Int.dvd_refl _), Int.emod_emod_of_dvd _ (Int.dvd_refl _)]
  split <;> split <;> omega
theorem hi2 {l : Int} {X2 X3 : Nat} (h0 : 0 ≤ l) (h1 : l < 18446744073709551616) (e2 : IntKind.u64.wrap (wrap64 l / 65536) = (X2 : Int)) (e3 : IntKind.u64.wrap (wrap64 (l / 65536)) = (X3 : Int)) : X2 % 2 ^ (8 * 2) = X3 % 2 ^ (8 * 2) := by
  rw [wrapU] at e2 e3
  rw [show (2 : Nat) ^ (8 * 2) = 65536 from rfl]
  unfold wrap64 at *; omega
theorem moreU2 {N : Int} {X3 XL : Nat} (h0 : 0 ≤ N) (h1 : N < 4294967296) (e3 : IntKind.u64.wrap (wrap64 (N % 18446744073709551616 / 65536)) = (X3 : Int)) (eL : IntKind.u64.wrap (wrap64 (N % 18446744073709551616)) = (XL : Int)) :
    (wrap64 ((X3 % 2 ^ (8 * 2) : Nat) : Int) != 0) = !(wrap64 (N / 18446744073709551616) == 0 && wrap64 (N % 18446744073709551616) == wrap64 ((XL % 2 ^ (8 * 2) : Nat) : Int)) := by
  rw [wrapU] at e3 eL
  rw [show (2 : Nat) ^ (8 * 2) = 65536 from rfl]
  have a1 : N / 18446744073709551616 = 0 := by omega
  have a2 : N % 18446744073709551616 = N := by omega
  rw [a2] at *; rw [a1]
  have b1 : ((X3 % 65536 : Nat) : Int) = N / 65536 := by unfold wrap64 at *; omega
  have b2 : ((XL % 65536 : Nat) : Int) = N % 65536 := by unfold wrap64 at *; omega
  rw [b1, b2, Bool.eq_iff_iff]
  simp only [bne_iff_ne, Bool.not_eq_true', Bool.and_eq_false_iff, beq_eq_false_iff_ne, ne_eq]
  have c1 : wrap64 (N / 65536) = N / 65536 := by unfold wrap64; omega
  have c2 : wrap64 (N % 65536) = N % 65536 := by unfold wrap64; omega
  have c3 : wrap64 0 = 0 := by unfold wrap64; omega
  rw [c1, c2, c3]
  unfold wrap64; omega
theorem moreS2 {P : Int} {X3 XL Xh Xl : Nat} (h0 : -1073741824 ≤ P) (h1 : P ≤ 1073741824) (e3 : IntKind.u64.wrap (wrap64 (P % 18446744073709551616 / 65536)) = (X3 : Int)) (eL : IntKind.u64.wrap (wrap64 (P % 18446744073709551616)) = (XL : Int))
    (eh : IntKind.u64.wrap (wrap64 ((X3 % 2 ^ (8 * 2) : Nat) : Int)) = (Xh : Int)) (el : IntKind.u64.wrap (wrap64 ((XL % 2 ^ (8 * 2) : Nat) : Int)) = (Xl : Int)) :
    (wrap64 (sgnU Xh 2 : Int) != wrap64 (sgnU Xl 2 : Int) / 9223372036854775808) = !(wrap64 (P / 18446744073709551616 % 18446744073709551616) == wrap64 (sgnU XL 2 : Int) / 9223372036854775808 && wrap64 (P % 18446744073709551616) == wrap64 (sgnU XL 2 : Int)) := by
  rw [sgn_int Xh 2 (by decide), sgn_int Xl 2 (by decide), sgn_int XL 2 (by decide)]
  rw [wrapU] at e3 eL eh el
  rw [show (2 : Nat) ^ (8 * 2) = 65536 from rfl] at *
  have c1 : wrap64 (P % 18446744073709551616) = P := by unfold wrap64; omega
  have c2 : wrap64 (P / 18446744073709551616 % 18446744073709551616) = P / 18446744073709551616 := by unfold wrap64; omega
  rw [c1] at eL
  have d1 : ((X3 % 65536 : Nat) : Int) = P / 65536 % 65536 := by unfold wrap64 at e3; omega
  have d2 : ((XL % 65536 : Nat) : Int) = P % 65536 := by omega
  rw [d1] at eh; rw [d2] at el
  have f1 : (Xh : Int) = P / 65536 % 65536 := by unfold wrap64 at eh; omega
  have f2 : (Xl : Int) = P % 65536 := by unfold wrap64 at el; omega
  rw [c1, c2, f1, f2, Bool.eq_iff_iff]
  simp only [bne_iff_ne, Bool.not_eq_true', Bool.and_eq_false_iff, beq_eq_false_iff_ne, ne_eq]
  have g1 : (XL : Int) % 65536 = P % 65536 := by omega
  clear c1 c2 d1 d2 e3 eL eh el f1 f2
  simp only [Int.bmod_def]
  rw [show (((65536 : Nat) : Int)) = 65536 from rfl]
  rw [g1, Int.emod_emod_of_dvd _ (Int.dvd_refl _), Int.emod_emod_of_dvd _ (Int.dvd_refl _)]
  split <;> split <;> omega
theorem hi4 {l : Int} {X2 X3 : Nat} (h0 : 0 ≤ l) (h1 : l < 18446744073709551616) (e2 : IntKind.u64.wrap (wrap64 l / 4294967296) = (X2 : Int)) (e3 : IntKind.u64.wrap (wrap64 (l / 4294967296)) = (X3 : Int)) : X2 % 2 ^ (8 * 4) = X3 % 2 ^ (8 * 4) := by
  rw [wrapU] at e2 e3
  rw [show (2 : Nat) ^ (8 * 4) = 4294967296 from rfl]
  unfold wrap64 at *; omega
theorem moreU4 {N : Int} {X3 XL : Nat} (h0 : 0 ≤ N) (h1 : N < 18446744073709551616) (e3 : IntKind.u64.wrap (wrap64 (N % 18446744073709551616 / 4294967296)) = (X3 : Int)) (eL : IntKind.u64.wrap (wrap64 (N % 18446744073709551616)) = (XL : Int)) :
    (wrap64 ((X3 % 2 ^ (8 * 4) : Nat) : Int) != 0) = !(wrap64 (N / 18446744073709551616) == 0 && wrap64 (N % 18446744073709551616) == wrap64 ((XL % 2 ^ (8 * 4) : Nat) : Int)) := by
  rw [wrapU] at e3 eL
  rw [show (2 : Nat) ^ (8 * 4) = 4294967296 from rfl]
  have a1 : N / 18446744073709551616 = 0 := by omega
  have a2 : N % 18446744073709551616 = N := by omega
  rw [a2] at *; rw [a1]
  have b1 : ((X3 % 4294967296 : Nat) : Int) = N / 4294967296 := by unfold wrap64 at *; omega
  have b2 : ((XL % 4294967296 : Nat) : Int) = N % 4294967296 := by unfold wrap64 at *; omega
  rw [b1, b2, Bool.eq_iff_iff]
  simp only [bne_iff_ne, Bool.not_eq_true', Bool.and_eq_false_iff, beq_eq_false_iff_ne, ne_eq]
  have c1 : wrap64 (N / 4294967296) = N / 4294967296 := by unfold wrap64; omega
  have c2 : wrap64 (N % 4294967296) = N % 4294967296 := by unfold wrap64; omega
  have c3 : wrap64 0 = 0 := by unfold wrap64; omega
  rw [c1, c2, c3]
  unfold wrap64; omega
theorem moreS4 {P : Int} {X3 XL Xh Xl : Nat} (h0 : -4611686018427387904 ≤ P) (h1 : P ≤ 4611686018427387904) (e3 : IntKind.u64.wrap (wrap64 (P % 18446744073709551616 / 4294967296)) = (X3 : Int)) (eL : IntKind.u64.wrap (wrap64 (P % 18446744073709551616)) = (XL : Int))
    (eh : IntKind.u64.wrap (wrap64 ((X3 % 2 ^ (8 * 4) : Nat) : Int)) = (Xh : Int)) (el : IntKind.u64.wrap (wrap64 ((XL % 2 ^ (8 * 4) : Nat) : Int)) = (Xl : Int)) :
    (wrap64 (sgnU Xh 4 : Int) != wrap64 (sgnU Xl 4 : Int) / 9223372036854775808) = !(wrap64 (P / 18446744073709551616 % 18446744073709551616) == wrap64 (sgnU XL 4 : Int) / 9223372036854775808 && wrap64 (P % 18446744073709551616) == wrap64 (sgnU XL 4 : Int)) := by
  rw [sgn_int Xh 4 (by decide), sgn_int Xl 4 (by decide), sgn_int XL 4 (by decide)]
  rw [wrapU] at e3 eL eh el
  rw [show (2 : Nat) ^ (8 * 4) = 4294967296 from rfl] at *
  have c1 : wrap64 (P % 18446744073709551616) = P := by unfold wrap64; omega
  have c2 : wrap64 (P / 18446744073709551616 % 18446744073709551616) = P / 18446744073709551616 := by unfold wrap64; omega
  rw [c1] at eL
  have d1 : ((X3 % 4294967296 : Nat) : Int) = P / 4294967296 % 4294967296 := by unfold wrap64 at e3; omega
  have d2 : ((XL % 4294967296 : Nat) : Int) = P % 4294967296 := by omega
  rw [d1] at eh; rw [d2] at el
  have f1 : (Xh : Int) = P / 4294967296 % 4294967296 := by unfold wrap64 at eh; omega
  have f2 : (Xl : Int) = P % 4294967296 := by unfold wrap64 at el; omega
  rw [c1, c2, f1, f2, Bool.eq_iff_iff]
  simp only [bne_iff_ne, Bool.not_eq_true', Bool.and_eq_false_iff, beq_eq_false_iff_ne, ne_eq]
  have g1 : (XL : Int) % 4294967296 = P % 4294967296 := by omega
  clear c1 c2 d1 d2 e3 eL eh el f1 f2
  simp only [Int.bmod_def]
  rw [show (((4294967296 : Nat) : Int)) = 4294967296 from rfl]
  rw [g1, Int.emod_emod_of_dvd _ (Int.dvd_refl _), Int.emod_emod_of_dvd _ (Int.dvd_refl _)]
  split <;> split <;> omega
end Go.Proofs.YtbcbepdfijcbmaaDoor
