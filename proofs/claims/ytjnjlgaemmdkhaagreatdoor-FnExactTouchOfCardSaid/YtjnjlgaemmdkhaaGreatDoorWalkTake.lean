/-
  What impl.TakeLittle and spec.TakeLittle do: the number that some bytes of a text are, the lowest one first, or codes 2, 4 and 9, changing nothing that was there; condition: the sentinels hold what the program's text lays there.
-/
import Derived.Test.YtjnjlgaemmdkhaaGreatDoorWalkPut
import Derived.Test.YtjnjlgaemmdkhaaGreatDoorMathTake
namespace Go.Proofs.YtjnjlgaemmdkhaaGreatDoor
open Go.RowKit Go.Extern.Stop Go.Stop Go.Extern
theorem ret_in {a b : Int} (h : a = b) : Ending.returned (.tuple #[.int .i64 a, .nilIface]) = .returned (.tuple #[.int .i64 b, .nilIface]) := by rw [h]
theorem cast_d8 (U k : Nat) : ((U / 2 ^ (8 * k) : Nat) : Int) = (U : Int) / 2 ^ (8 * k) := by simp
theorem take_w {s : ByteArray} {a n k : Nat} (h : k < n) (hn : n ≤ 8) : IntKind.u64.wrap (IntKind.u64.wrap (256 * ((takeN s a n : Int) / 2 ^ (8 * (k + 1)))) + (nb s (a + k) : Int)) = (takeN s a n : Int) / 2 ^ (8 * k) := by
  have h1 := takeN_step s a n k h
  have h2 : takeN s a n / 2 ^ (8 * k) ≤ takeN s a n := Nat.div_le_self _ _
  have h3 := lt64 (takeN_lt s a n) hn
  rw [← cast_d8, ← cast_d8]
  generalize takeN s a n / 2 ^ (8 * k) = x at *
  generalize takeN s a n / 2 ^ (8 * (k + 1)) = y at *
  rw [wrapU, wrapU]; omega
/-- what both TakeLittle answer -/
def TakeOut (s : ByteArray) (a n : Int) (r c : Int) : Prop :=
  (65536 < s.size ∧ r = 0 ∧ c = 2) ∨ (s.size ≤ 65536 ∧ ¬ okSize n ∧ r = 0 ∧ c = 4) ∨ (s.size ≤ 65536 ∧ okSize n ∧ (a < 0 ∨ (s.size : Int) < a + n) ∧ r = 0 ∧ c = 9) ∨ (s.size ≤ 65536 ∧ okSize n ∧ 0 ≤ a ∧ a + n ≤ s.size ∧ r = wrap64 (takeN s a.toNat n.toNat : Int) ∧ c = 0)
theorem TakeOut.one {s : ByteArray} {a n r c r' c' : Int} (h : TakeOut s a n r c) (h' : TakeOut s a n r' c') : r = r' ∧ c = c' := by
  rcases h with ⟨h1, rfl, rfl⟩ | ⟨h1, h2, rfl, rfl⟩ | ⟨h1, h2, h3, rfl, rfl⟩ | ⟨h1, h2, h3, h4, rfl, rfl⟩ <;> rcases h' with ⟨g1, rfl, rfl⟩ | ⟨g1, g2, rfl, rfl⟩ | ⟨g1, g2, g3, rfl, rfl⟩ | ⟨g1, g2, g3, g4, rfl, rfl⟩ <;> first | exact ⟨rfl, rfl⟩ | omega | exact absurd h2 g2 | exact absurd g2 h2
def TakeEnd (s : ByteArray) (a n : Int) (w : World) (e : Ending) (w' : World) : Prop := ∃ r c : Int, TakeOut s a n r c ∧ e = .returned (.tuple #[.int .i64 r, .int .i64 c]) ∧ Below w.heap.size w w'
end Go.Proofs.YtjnjlgaemmdkhaaGreatDoor
