/-
  Plain facts on numbers for the quotient by half words: a digit that is guessed and lowered is the true digit, and two such digits are quotient and rest of a number of 128 bits; conditions: the divisor's upper bit is set, the upper part is below the divisor.
-/
import Derived.Test.YtbcbepdfijcbmaaDoorMathDiv
import Derived.Laws.Bits64b
import Derived.Lib.ItoaNum
namespace Go.Proofs.YtbcbepdfijcbmaaDoor
set_option linter.unusedVariables false
/-- V is the divisor, of halves y1 and y0; u is below it; n is half a word; Q is the true digit -/
structure Dig (y1 y0 u n Q : Nat) : Prop where
  y1lo : 2147483648 ≤ y1
  y1hi : y1 < 4294967296
  y0hi : y0 < 4294967296
  nhi : n < 4294967296
  ult : u < y1 * 4294967296 + y0
  lo : Q * (y1 * 4294967296 + y0) ≤ u * 4294967296 + n
  hi : u * 4294967296 + n < (Q + 1) * (y1 * 4294967296 + y0)
theorem Dig.mk' {y1 y0 u n : Nat} (h1 : 2147483648 ≤ y1) (h2 : y1 < 4294967296) (h3 : y0 < 4294967296) (h4 : n < 4294967296) (h5 : u < y1 * 4294967296 + y0) :
    Dig y1 y0 u n ((u * 4294967296 + n) / (y1 * 4294967296 + y0)) := by
  refine ⟨h1, h2, h3, h4, h5, Nat.div_mul_le_self _ _, ?_⟩
  have := Nat.lt_mul_div_succ (u * 4294967296 + n) (show 0 < y1 * 4294967296 + y0 by omega)
  rw [Nat.mul_comm (_ + 1)]; exact this
theorem Dig.small {y1 y0 u n Q : Nat} (h : Dig y1 y0 u n Q) : Q < 4294967296 := by
  have h1 := h.lo; have h2 := h.ult; have h3 := h.nhi
  rcases Nat.lt_or_ge Q 4294967296 with h4 | h4
  · exact h4
  · have h5 : 4294967296 * (y1 * 4294967296 + y0) ≤ Q * (y1 * 4294967296 + y0) := Nat.mul_le_mul_right _ h4
    omega
theorem mulV (q y1 y0 : Nat) : q * (y1 * 4294967296 + y0) = q * y1 * 4294967296 + q * y0 := by rw [Nat.mul_add, Nat.mul_assoc]
/-- a guess q with q * y1 + r = u is above the digit just if this test says so -/
theorem Dig.test {y1 y0 u n Q q r : Nat} (h : Dig y1 y0 u n Q) (hq : q * y1 + r = u) : 4294967296 * r + n < q * y0 ↔ Q < q := by
  have e := mulV q y1 y0
  have e2 := h.lo; have e3 := h.hi
  constructor
  · intro ht
    rcases Nat.lt_or_ge Q q with h4 | h4
    · exact h4
    · have h5 : q * (y1 * 4294967296 + y0) ≤ Q * (y1 * 4294967296 + y0) := Nat.mul_le_mul_right _ h4
      omega
  · intro ht
    have h5 : (Q + 1) * (y1 * 4294967296 + y0) ≤ q * (y1 * 4294967296 + y0) := Nat.mul_le_mul_right _ ht
    omega
theorem Dig.start {y1 y0 u n Q : Nat} (h : Dig y1 y0 u n Q) : u / y1 * y1 + u % y1 = u ∧ Q ≤ u / y1 ∧ u / y1 ≤ 4294967297 ∧ u % y1 < 4294967296 := by
  have h1 := h.y1lo; have h2 := h.y1hi; have h3 := h.y0hi; have h4 := h.nhi; have h5 := h.ult; have h6 := h.lo
  have e := Nat.div_add_mod u y1
  refine ⟨by rw [Nat.mul_comm]; exact e, ?_, ?_, ?_⟩
  · rw [Nat.le_div_iff_mul_le (by omega)]
    rw [mulV] at h6
    omega
  · have : u / y1 < 4294967298 := by
      rw [Nat.div_lt_iff_lt_mul (by omega)]
      have : 4294967298 * y1 = y1 * 4294967296 + 2 * y1 := by omega
      omega
    omega
  · have := Nat.mod_lt u (show 0 < y1 by omega); omega
theorem Dig.low {y1 y0 u n Q q r : Nat} (h : Dig y1 y0 u n Q) (hq : q * y1 + r = u) (hle : Q ≤ q) (ht : 4294967296 ≤ q ∨ 4294967296 * r + n < q * y0) : Q ≤ q - 1 ∧ 1 ≤ q ∧ (q - 1) * y1 + (r + y1) = u := by
  have hlt : Q < q := by
    rcases ht with h1 | h1
    · have := h.small; omega
    · exact (h.test hq).1 h1
  refine ⟨by omega, by omega, ?_⟩
  have e : q * y1 = (q - 1) * y1 + y1 := by
    conv => lhs; rw [show q = (q - 1) + 1 from by omega, Nat.add_mul, Nat.one_mul]
  omega
theorem Dig.done {y1 y0 u n Q q r : Nat} (h : Dig y1 y0 u n Q) (hq : q * y1 + r = u) (hle : Q ≤ q) (ht : ¬ 4294967296 * r + n < q * y0) : q = Q := by
  have := mt (h.test hq).2 ht
  omega
theorem Dig.stop {y1 y0 u n Q q r : Nat} (h : Dig y1 y0 u n Q) (hq : q * y1 + r = u) (hle : Q ≤ q) (hr : 4294967296 ≤ r) (hb : q ≤ 4294967296) : q = Q := by
  refine h.done hq hle ?_
  have h3 := h.y0hi
  have h5 : q * y0 ≤ 4294967296 * y0 := Nat.mul_le_mul_right _ hb
  omega
/-- the rest behind a digit, as it is reckoned with wrapping -/
theorem Dig.rest {y1 y0 u n Q : Nat} (h : Dig y1 y0 u n Q) : ∃ R : Nat, R < y1 * 4294967296 + y0 ∧ Q * (y1 * 4294967296 + y0) + R = u * 4294967296 + n ∧
    IntKind.u64.wrap (IntKind.u64.wrap (IntKind.u64.wrap ((u : Int) * 4294967296) + (n : Int)) - IntKind.u64.wrap ((Q : Int) * ((y1 * 4294967296 + y0 : Nat) : Int))) = (R : Int) := by
  have h6 := h.lo; have h7 := h.hi; have h1 := h.y1hi; have h2 := h.y0hi
  rw [Nat.add_mul, Nat.one_mul] at h7
  refine ⟨u * 4294967296 + n - Q * (y1 * 4294967296 + y0), by omega, by omega, ?_⟩
  rw [← Int.natCast_mul]
  generalize Q * (y1 * 4294967296 + y0) = P at *
  simp only [wrapU]
  omega
/-- two digits are quotient and rest -/
theorem two_digits {V u n1 n0 q1 q0 R1 R0 s y U : Nat} (hV : V = y * 2 ^ s) (hy : 0 < y) (e1 : q1 * V + R1 = u * 4294967296 + n1) (e0 : q0 * V + R0 = R1 * 4294967296 + n0) (hR : R0 < V)
    (hu : (u * 4294967296 + n1) * 4294967296 + n0 = U * 2 ^ s) :
    q1 * 4294967296 + q0 = U / y ∧ R0 / 2 ^ s = U % y := by
  have hs : 0 < 2 ^ s := Nat.pow_pos (by decide)
  have e : (q1 * 4294967296 + q0) * V + R0 = U * 2 ^ s := by
    rw [← hu, ← e1, Nat.add_mul]
    have : q1 * 4294967296 * V = q1 * V * 4294967296 := by rw [Nat.mul_assoc, Nat.mul_comm 4294967296 V, ← Nat.mul_assoc]
    omega
  have hVp : 0 < V := by omega
  obtain ⟨a, b⟩ := div_end hR e
  refine ⟨?_, ?_⟩
  · rw [a, hV, Nat.mul_div_mul_right _ _ hs]
  · rw [b, hV, Nat.mul_mod_mul_right, Nat.mul_div_cancel _ hs]
end Go.Proofs.YtbcbepdfijcbmaaDoor
