/-
  What laws.at and laws.sizeAt do: for bytes that can be read they return a number that hangs on the bytes alone, within its bounds, and change nothing that was there; conditions: the place at most 1000000, the number of choices from 2 to 1000000, at most 2^47 bytes.
-/
import Derived.Test.YtbcbepdfijcbmaaDoorRows
import Derived.WalkKit
import Derived.WalkSpells
import Derived.WalkLawsBesides
import Derived.Lib.Hide
import Derived.Deep.QuietTactic
import Derived.BigQuiet
import Derived.OpenShut
import Derived.IntWalk
namespace Go.Proofs.YtbcbepdfijcbmaaDoor.AtD
open Go.RowKit
/-- the bytes of a slice value are these -/
def Byt (w : World) (A : Option Addr) (len : Nat) (zs : Nat → Int) : Prop :=
  0 < len → ∃ b off, A = some ⟨b, off, none⟩ ∧ b < w.heap.size ∧ ∀ j, j < len → w.cell? ⟨b, off + j, none⟩ = some (.int .u8 (zs j)) ∧ 0 ≤ zs j ∧ zs j ≤ 255
theorem Byt.below {w w' : World} {A : Option Addr} {len : Nat} {zs : Nat → Int} (h : Byt w A len zs) (hb : Below w.heap.size w w') : Byt w' A len zs := by
  intro hl
  obtain ⟨b, off, rfl, hb', hc⟩ := h hl
  refine ⟨b, off, rfl, by have := hb.size; omega, fun j hj => ?_⟩
  obtain ⟨hz, h1, h2⟩ := hc j hj
  exact ⟨(hb.cell (p := ⟨b, off + j, none⟩) hb').trans hz, h1, h2⟩
/-- the number that is chosen -/
def atV (zs : Nat → Int) (len i n : Nat) : Int := if len = 0 then ((i : Int) * 7) % n else (wrap64 (zs (i % len) * 31 + zs ((i + 1) % len) + wrap64 ((i : Int) / len))).tmod n
theorem w64 {x : Int} (h0 : -1000000000000 ≤ x) (h1 : x ≤ 1000000000000) : wrap64 x = x := IntWalk.wrap64_in x (by omega)
theorem at_val {y z : Int} {i len n : Nat} (hi : i ≤ 1000000) (n0 : 1 < n) (y0 : 0 ≤ y) (y1 : y ≤ 255) (z0 : 0 ≤ z) (z1 : z ≤ 255) :
    0 ≤ (wrap64 (y * 31 + z + wrap64 ((i : Int) / len))).tmod n ∧ (wrap64 (y * 31 + z + wrap64 ((i : Int) / len))).tmod n ≤ (n : Int) - 1 := by
  have h1 : (0 : Int) ≤ (i : Int) / len := Int.ediv_nonneg (by omega) (by omega)
  have h2 : (i : Int) / len ≤ i := Int.ediv_le_self _ (by omega)
  rw [w64 (x := (i : Int) / len) (by omega) (by omega)]
  generalize (i : Int) / len = q at *
  rw [w64 (by omega) (by omega), Int.tmod_eq_emod_of_nonneg (by omega)]
  exact ⟨Int.emod_nonneg _ (by omega), by have := Int.emod_lt_of_pos (y * 31 + z + q) (show (0 : Int) < n by omega); omega⟩
set_option maxHeartbeats 1000000 in
theorem at_none (i n cap : Nat) (A : Option Addr) (w : World) (hi : i ≤ 1000000) (n0 : 1 < n) (n1 : n ≤ 1000000) :
    Calls Tryd.prog 21 #[.slice A 0 cap, .int .i64 (i : Int), .int .i64 (n : Int)] w fun e w' => e = .returned (.int .i64 (((i : Int) * 7) % n)) ∧ w' = w := by
  have e1 : ((n : Int) == 0) = false := beq_eq_false_iff_ne.mpr (by omega)
  have n2 : (1 : Int) < n := by omega
  go_enter Tryd.func21, Tryd.ntmps21
  go_wp2
  go_ret
  exact ⟨rfl, rfl⟩
set_option maxHeartbeats 1000000 in
theorem at_some (i n len cap b off : Nat) (y z : Int) (w : World) (hi : i ≤ 1000000) (n0 : 1 < n) (n1 : n ≤ 1000000) (hl0 : 0 < len) (hl1 : len ≤ 140737488355328)
    (h1 : w.cell? ⟨b, off + i % len, none⟩ = some (.int .u8 y)) (h2 : w.cell? ⟨b, off + (i + 1) % len, none⟩ = some (.int .u8 z)) (y0 : 0 ≤ y) (y1 : y ≤ 255) (z0 : 0 ≤ z) (z1 : z ≤ 255) :
    Calls Tryd.prog 21 #[.slice (some ⟨b, off, none⟩) len cap, .int .i64 (i : Int), .int .i64 (n : Int)] w fun e w' => e = .returned (.int .i64 ((wrap64 (y * 31 + z + wrap64 ((i : Int) / len))).tmod n)) ∧ ∃ q, w' = w.drewN q := by
  have e1 : ((n : Int) == 0) = false := beq_eq_false_iff_ne.mpr (by omega)
  have n2 : (1 : Int) < n := by omega
  have e2 : ((len : Int) == 0) = false := beq_eq_false_iff_ne.mpr (by omega)
  have hl3 : ¬ len = 0 := by omega
  have n3 : ¬ n = 0 := by omega
  have t1 : (i : Int).tmod len = (i : Int) % len := Int.tmod_eq_emod_of_nonneg (by omega)
  have t2 : (0 : Int) ≤ (i : Int) % len := Int.emod_nonneg _ (by omega)
  have t3 : (i : Int) % len < len := Int.emod_lt_of_pos _ (by omega)
  have t4 : ((i : Int) % len).toNat = i % len := by rw [← Int.natCast_emod]; rfl
  have u0 : IntKind.i64.wrap ((i : Int) + 1) = (i : Int) + 1 := IntWalk.i64_in _ (by omega)
  have u1 : ((i : Int) + 1).tmod len = ((i : Int) + 1) % len := Int.tmod_eq_emod_of_nonneg (by omega)
  have u2 : (0 : Int) ≤ ((i : Int) + 1) % len := Int.emod_nonneg _ (by omega)
  have u3 : ((i : Int) + 1) % len < len := Int.emod_lt_of_pos _ (by omega)
  have u4 : (((i : Int) + 1) % len).toNat = (i + 1) % len := by
    rw [show ((i : Int) + 1) = ((i + 1 : Nat) : Int) by omega, ← Int.natCast_emod]; rfl
  go_enter Tryd.func21, Tryd.ntmps21
  go_wp2
  go_quiet (fail)
  go_wp2
  go_ret
  exact ⟨rfl, _, rfl⟩
/-- a choice, told by the bytes alone -/
theorem atD (i n len cap : Nat) (A : Option Addr) (zs : Nat → Int) (w : World) (hr : Byt w A len zs) (hl : len ≤ 140737488355328) (hi : i ≤ 1000000) (n0 : 1 < n) (n1 : n ≤ 1000000) :
    Calls Tryd.prog 21 #[.slice A len cap, .int .i64 (i : Int), .int .i64 (n : Int)] w fun e w' => e = .returned (.int .i64 (atV zs len i n)) ∧ ∃ q, w' = w.drewN q := by
  by_cases h : len = 0
  · subst h
    refine (at_none i n cap A w hi n0 n1).mono ?_
    rintro e w' ⟨rfl, rfl⟩
    exact ⟨by rw [atV, if_pos rfl], 0, rfl⟩
  · obtain ⟨b, off, rfl, hb, hc⟩ := hr (by omega)
    obtain ⟨hy, y0, y1⟩ := hc (i % len) (Nat.mod_lt _ (by omega))
    obtain ⟨hz, z0, z1⟩ := hc ((i + 1) % len) (Nat.mod_lt _ (by omega))
    refine (at_some i n len cap b off _ _ w hi n0 n1 (by omega) hl hy hz y0 y1 z0 z1).mono ?_
    rintro e w' ⟨rfl, q, rfl⟩
    exact ⟨by rw [atV, if_neg h], q, rfl⟩
theorem atV_in {w : World} {A : Option Addr} {zs : Nat → Int} {len i n : Nat} (hr : Byt w A len zs) (hi : i ≤ 1000000) (n0 : 1 < n) : 0 ≤ atV zs len i n ∧ atV zs len i n ≤ (n : Int) - 1 := by
  unfold atV
  by_cases h : len = 0
  · rw [if_pos h]
    exact ⟨Int.emod_nonneg _ (by omega), by have := Int.emod_lt_of_pos ((i : Int) * 7) (show (0 : Int) < n by omega); omega⟩
  · rw [if_neg h]
    obtain ⟨b, off, rfl, hb, hc⟩ := hr (by omega)
    obtain ⟨hy, y0, y1⟩ := hc (i % len) (Nat.mod_lt _ (by omega))
    obtain ⟨hz, z0, z1⟩ := hc ((i + 1) % len) (Nat.mod_lt _ (by omega))
    exact at_val hi n0 y0 y1 z0 z1
theorem below_q (w : World) (q : Nat) : Below w.heap.size w (w.drewN q) := ⟨rfl, rfl, rfl, Nat.le_refl _, fun _ _ => rfl⟩
/-- a choice k below n: one contract for all worlds in which the bytes stand -/
theorem atK (i n len cap : Nat) (A : Option Addr) (zs : Nat → Int) (w : World) (hr : Byt w A len zs) (hl : len ≤ 140737488355328) (hi : i ≤ 1000000) (n0 : 1 < n) (n1 : n ≤ 1000000) :
    ∃ k : Nat, k < n ∧ ∀ W, Below w.heap.size w W → Calls Tryd.prog 21 #[.slice A len cap, .int .i64 (i : Int), .int .i64 (n : Int)] W fun e W' => e = .returned (.int .i64 (k : Int)) ∧ ∃ q, W' = W.drewN q := by
  obtain ⟨h0, h1⟩ := atV_in hr hi n0 (i := i) (n := n)
  obtain ⟨k, hk⟩ := Int.eq_ofNat_of_zero_le h0
  refine ⟨k, by omega, fun W hW => ?_⟩
  have := atD i n len cap A zs W (hr.below hW) hl hi n0 n1
  rw [hk] at this
  exact this
def sz4 (k : Nat) : Nat := if k = 0 then 1 else if k = 1 then 2 else if k = 2 then 4 else 8
set_option maxHeartbeats 1000000 in
theorem sizeK (len cap : Nat) (A : Option Addr) (zs : Nat → Int) (w : World) (hr : Byt w A len zs) (hl : len ≤ 140737488355328) :
    ∃ k : Nat, k < 4 ∧ ∀ W, Below w.heap.size w W → Calls Tryd.prog 20 #[.slice A len cap, .int .i64 2] W fun e W' => e = .returned (.int .i64 (sz4 k : Nat)) ∧ Below W.heap.size W W' := by
  obtain ⟨k, hk, hc⟩ := atK 2 4 len cap A zs w hr hl (by omega) (by omega) (by omega)
  refine ⟨k, hk, fun W hW => ?_⟩
  have C : Hid (Calls Tryd.prog 21 #[.slice A len cap, .int .i64 2, .int .i64 4] (W.alloc (.cells #[.int .i64 1, .int .i64 2, .int .i64 4, .int .i64 8] 3)) fun e W' => e = .returned (.int .i64 (k : Int)) ∧ ∃ q, W' = (W.alloc (.cells #[.int .i64 1, .int .i64 2, .int .i64 4, .int .i64 8] 3)).drewN q) := Lib.hid (hc _ (hW.alloc hW.size _))
  have HJ : Hid (k = 0 ∨ k = 1 ∨ k = 2 ∨ k = 3) := Lib.hid (by omega)
  have hk4 : (k : Int) < 4 := by omega
  clear hc
  go_enter Tryd.func20, Tryd.ntmps20
  go_wp2_with fail
  refine (C.out).mono ?_
  rintro e w1 ⟨rfl, q, rfl⟩
  go_wp2
  go_ret
  refine ⟨?_, ?_⟩
  · rcases HJ.out with rfl | rfl | rfl | rfl <;> rfl
  · exact ((Below.refl _ _).alloc (Nat.le_refl _) _).trans ((below_q _ q).mono (by simp))
end Go.Proofs.YtbcbepdfijcbmaaDoor.AtD
