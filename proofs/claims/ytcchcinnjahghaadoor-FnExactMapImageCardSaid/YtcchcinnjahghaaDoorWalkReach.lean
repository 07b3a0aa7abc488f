/-
  What the program's reach does: it tells which page has an address, and whether that page allows what is asked, changing nothing that was there; conditions: those in each head.
-/
import Derived.Test.YtcchcinnjahghaaDoorWalkFind
namespace Go.Proofs.YtcchcinnjahghaaDoor
open Go.RowKit Go.Sort
/-- whether a Perm has all of perm -/
def allowB (p perm : Int) : Bool := (bits .and .i64 p perm == perm)
theorem low8 : ∀ i : Fin 64, (255#64).getLsbD i.val = decide (i.val < 8) := by decide
theorem mask_bv (x : BitVec 64) : x &&& ~~~255#64 = (x >>> 8) <<< 8 := by
  apply BitVec.eq_of_getLsbD_eq
  intro i hi
  have h := low8 ⟨i, hi⟩
  simp only at h
  rw [BitVec.getLsbD_and, BitVec.getLsbD_not, h, BitVec.getLsbD_shiftLeft, BitVec.getLsbD_ushiftRight]
  by_cases h8 : i < 8
  · simp [h8]
  · simp [h8, hi, show 8 + (i - 8) = i from by omega]
theorem mask8 (a : Int) (h1 : -9223372036854775808 ≤ a) (h2 : a ≤ 9223372036854775807) : bits .andNot .i64 a 255 = a - a % 256 := by
  show IntKind.i64.wrap ((BitVec.ofInt 64 a &&& ~~~BitVec.ofInt 64 255).toNat : Int) = _
  rw [show BitVec.ofInt 64 255 = 255#64 from rfl, mask_bv, BitVec.toNat_shiftLeft, BitVec.toNat_ushiftRight, BitVec.toNat_ofInt]
  have e : ((2 ^ 64 : Nat) : Int) = 18446744073709551616 := by decide
  rw [e, Nat.shiftLeft_eq, Nat.shiftRight_eq_div_pow, IntKind.wrap_i64]
  have e2 : (2 ^ 8 : Nat) = 256 := by decide
  have e3 : (2 ^ 64 : Nat) = 18446744073709551616 := by decide
  rw [e2, e3]
  obtain ⟨X, hX⟩ : ∃ X : Nat, (a % 18446744073709551616).toNat = X := ⟨_, rfl⟩
  rw [hX]
  omega
theorem has_key {l : List Pg} (hm : MemOk l) {a : Int} {k : Nat} {x : Pg} (hk : l[k]? = some x) : (x.b = a - a % 256) ↔ Has l a k x := by
  have h := (hm.2.1 k x hk).2.2.1
  constructor
  · intro e; exact ⟨hk, by omega, by omega⟩
  · intro ⟨_, h1, h2⟩; omega
/-- what reach answers -/
def ReachOut (l : List Pg) (g : Nat) (a perm : Int) (e : Ending) : Prop :=
  (∃ k x, Has l a k x ∧ allowB x.p perm = true ∧ e = .returned (.tuple #[.pointer (some ⟨g, k * 3, none⟩), .int .i64 0])) ∨ (∃ k x, Has l a k x ∧ allowB x.p perm = false ∧ e = .returned (.tuple #[.pointer none, .int .i64 14])) ∨ (NoPage l a ∧ e = .returned (.tuple #[.pointer none, .int .i64 13]))
theorem allow0 (p : Int) : allowB p 0 = true := by
  unfold allowB bits
  simp
  decide
end Go.Proofs.YtcchcinnjahghaaDoor
