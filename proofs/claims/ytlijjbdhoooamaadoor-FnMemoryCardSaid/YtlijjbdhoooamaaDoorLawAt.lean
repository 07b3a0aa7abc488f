/-
  What laws.at does: for bytes that can be read, a place i and a number n from 2 to 1000000 it returns a number from 0 to n - 1 and changes nothing that was there; conditions: i at most 1000000, at most 2^47 bytes.
-/
import Derived.Test.YtlijjbdhoooamaaDoorSrc3
namespace Go.Proofs.YtlijjbdhoooamaaDoor
open Go.RowKit
/-- a call that returns a number from lo to hi and keeps all memory below block B -/
def IntIn (lo hi : Int) (B : Nat) (w : World) (e : Ending) (w' : World) : Prop := ∃ r : Int, lo ≤ r ∧ r ≤ hi ∧ e = .returned (.int .i64 r) ∧ Below B w w'
set_option maxHeartbeats 1000000 in
theorem at_none (i n cap : Nat) (A : Option Addr) (w : World) (hi : i ≤ 1000000) (n0 : 1 < n) (n1 : n ≤ 1000000) :
    Calls Tryd.prog 16 #[.slice A 0 cap, .int .i64 (i : Int), .int .i64 (n : Int)] w (IntIn 0 ((n : Int) - 1) w.heap.size w) := by
  have e1 : ((n : Int) == 0) = false := beq_eq_false_iff_ne.mpr (by omega)
  have n2 : (1 : Int) < n := by omega
  go_enter Tryd.func16, Tryd.ntmps16
  go_wp2
  go_ret
  exact ⟨_, Int.emod_nonneg _ (by omega), by have := Int.emod_lt_of_pos ((i : Int) * 7) (show (0 : Int) < n by omega); omega, rfl, Below.refl _ _⟩
theorem w64 {x : Int} (h0 : -1000000000000 ≤ x) (h1 : x ≤ 1000000000000) : wrap64 x = x := IntWalk.wrap64_in x (by omega)
theorem at_val {y z : Int} {i len n : Nat} (hi : i ≤ 1000000) (n0 : 1 < n) (y0 : 0 ≤ y) (y1 : y ≤ 255) (z0 : 0 ≤ z) (z1 : z ≤ 255) :
    0 ≤ (wrap64 (y * 31 + z + wrap64 ((i : Int) / len))).tmod n ∧ (wrap64 (y * 31 + z + wrap64 ((i : Int) / len))).tmod n ≤ (n : Int) - 1 := by
  have h1 : (0 : Int) ≤ (i : Int) / len := Int.ediv_nonneg (by omega) (by omega)
  have h2 : (i : Int) / len ≤ i := Int.ediv_le_self _ (by omega)
  rw [w64 (x := (i : Int) / len) (by omega) (by omega)]
  generalize (i : Int) / len = q at *
  rw [w64 (by omega) (by omega), Int.tmod_eq_emod_of_nonneg (by omega)]
  exact ⟨Int.emod_nonneg _ (by omega), by have := Int.emod_lt_of_pos (y * 31 + z + q) (show (0 : Int) < n by omega); omega⟩
set_option maxHeartbeats 1000000 in
theorem at_some (i n len cap b off : Nat) (y z : Int) (w : World) (hi : i ≤ 1000000) (n0 : 1 < n) (n1 : n ≤ 1000000) (hl0 : 0 < len) (hl1 : len ≤ 140737488355328)
    (h1 : w.cell? ⟨b, off + i % len, none⟩ = some (.int .u8 y)) (h2 : w.cell? ⟨b, off + (i + 1) % len, none⟩ = some (.int .u8 z)) (y0 : 0 ≤ y) (y1 : y ≤ 255) (z0 : 0 ≤ z) (z1 : z ≤ 255) :
    Calls Tryd.prog 16 #[.slice (some ⟨b, off, none⟩) len cap, .int .i64 (i : Int), .int .i64 (n : Int)] w (IntIn 0 ((n : Int) - 1) w.heap.size w) := by
  have e1 : ((n : Int) == 0) = false := beq_eq_false_iff_ne.mpr (by omega)
  have n2 : (1 : Int) < n := by omega
  have e2 : ((len : Int) == 0) = false := beq_eq_false_iff_ne.mpr (by omega)
  have hl3 : ¬ len = 0 := by omega
  have n3 : ¬ n = 0 := by omega
  have t1 : (i : Int).tmod len = (i : Int) % len := Int.tmod_eq_emod_of_nonneg (by omega)
  have t2 : (0 : Int) ≤ (i : Int) % len := Int.emod_nonneg _ (by omega)
  have t3 : (i : Int) % len < len := Int.emod_lt_of_pos _ (by omega)
  have t4 : ((i : Int) % len).toNat = i % len := by rw [← Int.natCast_emod]; rfl
  have u0 : IntKind.i64.wrap ((i : Int) + 1) = (i : Int) + 1 := IntWalk.i64_in _ (by omega)
  have u1 : ((i : Int) + 1).tmod len = ((i : Int) + 1) % len := Int.tmod_eq_emod_of_nonneg (by omega)
  have u2 : (0 : Int) ≤ ((i : Int) + 1) % len := Int.emod_nonneg _ (by omega)
  have u3 : ((i : Int) + 1) % len < len := Int.emod_lt_of_pos _ (by omega)
  have u4 : (((i : Int) + 1) % len).toNat = (i + 1) % len := by
    rw [show ((i : Int) + 1) = ((i + 1 : Nat) : Int) by omega, ← Int.natCast_emod]; rfl
  go_enter Tryd.func16, Tryd.ntmps16
  go_wp2
  go_quiet (fail)
  go_wp2
  go_ret
  exact ⟨_, (at_val hi n0 y0 y1 z0 z1).1, (at_val hi n0 y0 y1 z0 z1).2, rfl, below_drewN (Below.refl _ _) _⟩
theorem lawAt (i n len cap : Nat) (A : Option Addr) (w : World) (hr : Rdb w w.heap.size A len) (hl : len ≤ 140737488355328) (hi : i ≤ 1000000) (n0 : 1 < n) (n1 : n ≤ 1000000) :
    Calls Tryd.prog 16 #[.slice A len cap, .int .i64 (i : Int), .int .i64 (n : Int)] w (IntIn 0 ((n : Int) - 1) w.heap.size w) := by
  by_cases h : len = 0
  · subst h; exact at_none i n cap A w hi n0 n1
  · obtain ⟨b, off, rfl, hb, hc⟩ := hr (by omega)
    obtain ⟨y, hy, y0, y1⟩ := hc (i % len) (Nat.mod_lt _ (by omega))
    obtain ⟨z, hz, z0, z1⟩ := hc ((i + 1) % len) (Nat.mod_lt _ (by omega))
    exact at_some i n len cap b off y z w hi n0 n1 (by omega) hl hy hz y0 y1 z0 z1
end Go.Proofs.YtlijjbdhoooamaaDoor
