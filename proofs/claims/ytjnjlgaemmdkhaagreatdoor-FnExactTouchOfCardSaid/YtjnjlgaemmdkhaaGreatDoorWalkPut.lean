/-
  What impl.PutLittle and spec.PutLittle do: the lowest bytes of a number, the lowest one first, and code 4 for a size that is none, changing nothing that was there; condition: the sentinels hold what the program's text lays there.
-/
import Derived.Test.YtjnjlgaemmdkhaaGreatDoorWalkSign
import Derived.Test.YtjnjlgaemmdkhaaGreatDoorBytes
namespace Go.Proofs.YtjnjlgaemmdkhaaGreatDoor
open Go.RowKit Go.Extern.Stop Go.Stop Go.Extern
def byteOf (X k : Nat) : UInt8 := UInt8.ofNat (X / 2 ^ (8 * k) % 256)
def leB (X n : Nat) : List UInt8 := (List.range n).map (byteOf X)
theorem byteOf_nat (X k : Nat) : (byteOf X k).toNat = X / 2 ^ (8 * k) % 256 := by
  unfold byteOf; rw [UInt8.toNat_ofNat']; omega
theorem leB_snoc (X k : Nat) : leB X k ++ [byteOf X k] = leB X (k + 1) := by simp [leB, List.range_succ]
theorem pByte (X k : Nat) : IntKind.u8.wrap ((X : Int) / 2 ^ (8 * k)) = ((byteOf X k).toNat : Int) := by
  rw [byteOf_nat, ← cast_dp, IntKind.wrap_u8]; omega
theorem pByte' (X k : Nat) : ((X : Int) / 2 ^ (8 * k)) % 256 = ((byteOf X k).toNat : Int) := by
  rw [byteOf_nat, ← cast_dp]; omega
theorem iByte {v : Int} {X k : Nat} (hX : IntKind.u64.wrap v = (X : Int)) (hk : k < 8) : (v / 2 ^ (8 * k)) % 256 = ((byteOf X k).toNat : Int) := by
  rw [← pByte']
  rw [wrapU] at hX
  obtain ⟨c, hc⟩ : ∃ c : Int, v = X + 18446744073709551616 * c := ⟨v / 18446744073709551616, by omega⟩
  have hp : (0 : Int) < 2 ^ (8 * k) := Int.pow_pos (by decide)
  have e : (18446744073709551616 : Int) = 2 ^ (8 * k) * (256 * 2 ^ (56 - 8 * k)) := by
    have : (256 : Int) = 2 ^ 8 := by decide
    rw [this, ← Int.pow_add, ← Int.pow_add, show 8 * k + (8 + (56 - 8 * k)) = 64 from by omega]; decide
  rw [hc, e, Int.mul_assoc, Int.add_mul_ediv_left _ _ (by omega), Int.mul_assoc]
  generalize (2 : Int) ^ (56 - 8 * k) * c = q
  omega
theorem iByte2 {v : Int} {X k : Nat} (hX : IntKind.u64.wrap v = (X : Int)) (hk : k < 8) : IntKind.u8.wrap (v / 2 ^ (8 * k)) = ((byteOf X k).toNat : Int) := by
  rw [IntKind.wrap_u8]; exact iByte hX hk
/-- the row while it is filled: k bytes, then noughts -/
def fillL (X n k : Nat) : List UInt8 := (List.range n).map fun j => if j < k then byteOf X j else 0
theorem fill_zero (X n : Nat) : BV (fillL X n 0) = (madeCells (Value.int .u8 0).cells (n * 1)).toList := by
  simp [madeCells, BV, fillL, Value.cells, Nat.mod_one]
theorem fill_set (X n k : Nat) : (BV (fillL X n k)).set k (.int .u8 ((byteOf X k).toNat : Int)) = BV (fillL X n (k + 1)) := by
  unfold BV fillL
  apply List.ext_getElem?
  intro i
  simp only [List.getElem?_set, List.getElem?_map, List.length_map, List.length_range]
  by_cases hi : i < n
  · rw [List.getElem?_range hi]
    by_cases e : k = i
    · subst e; simp [hi]
    · simp [e]
      by_cases h : i < k
      · simp [h, show i < k + 1 from by omega]
      · simp [h, show ¬ i < k + 1 from by omega]
  · rw [List.getElem?_eq_none (by simpa using hi)]
    by_cases e : k = i
    · subst e; simp [hi]
    · simp [e]
theorem fill_all (X n : Nat) : fillL X n n = leB X n := by
  unfold fillL leB
  apply List.map_congr_left
  intro j hj
  rw [if_pos (by simpa using hj)]
set_option maxHeartbeats 400000 in
theorem checkYes (n : Int) (w : World) (h : okSize n) : Calls Tryz.prog 66 #[.int .i64 n] w fun e w' => e = .returned .nilIface ∧ w = w' := by
  rcases h with rfl | rfl | rfl | rfl
  all_goals
    go_enter Tryz.func66, Tryz.ntmps66
    go_wp2
    go_ret
    exact ⟨rfl, rfl⟩
theorem natSize {n : Int} (h : okSize n) : ∃ size : Nat, n = (size : Int) ∧ okSize (size : Int) := by
  obtain ⟨m, rfl⟩ := Int.eq_ofNat_of_zero_le (show 0 ≤ n by rcases h with h | h | h | h <;> omega)
  exact ⟨m, rfl, h⟩
end Go.Proofs.YtjnjlgaemmdkhaaGreatDoor
