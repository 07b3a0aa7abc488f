/-
  What spec.l01Little does: the lowest bytes of a number, the lowest one first, in a text of its own; changing nothing that was there; conditions: those in each head.
-/
import Derived.Test.YtcchcinnjahghaaDoorBytes
import Derived.Lib.Hide
namespace Go.Proofs.YtcchcinnjahghaaDoor
open Go.RowKit
set_option linter.unusedVariables false
set_option linter.unusedSimpArgs false
theorem wrapUL (n : Int) : IntKind.u64.wrap n = n % 18446744073709551616 := IntKind.wrap_u64 n
theorem cast_dpL (U k : Nat) : ((U / 2 ^ k : Nat) : Int) = (U : Int) / 2 ^ k := by simp
def byteL (X k : Nat) : UInt8 := UInt8.ofNat (X / 2 ^ (8 * k) % 256)
def litB (X n : Nat) : List UInt8 := (List.range n).map (byteL X)
theorem byteL_nat (X k : Nat) : (byteL X k).toNat = X / 2 ^ (8 * k) % 256 := by
  unfold byteL; rw [UInt8.toNat_ofNat']; omega
theorem litB_snoc (X k : Nat) : litB X k ++ [byteL X k] = litB X (k + 1) := by simp [litB, List.range_succ]
theorem pByteL (X k : Nat) : IntKind.u8.wrap ((X : Int) / 2 ^ (8 * k)) = ((byteL X k).toNat : Int) := by
  rw [byteL_nat, ← cast_dpL, IntKind.wrap_u8]; omega
theorem pByteL' (X k : Nat) : ((X : Int) / 2 ^ (8 * k)) % 256 = ((byteL X k).toNat : Int) := by
  rw [byteL_nat, ← cast_dpL]; omega
set_option maxHeartbeats 1000000 in
theorem specLit (v : Int) (X size : Nat) (w : World) (hX : IntKind.u64.wrap v = (X : Int)) (hs8 : size ≤ 8) :
    Calls Tryd.prog 87 #[.int .i64 v, .int .i64 (size : Int)] w fun e w' => e = .returned (.string ⟨(litB X size).toArray⟩) ∧ Below w.heap.size w w' := by
  obtain ⟨i0, hi, hz0, hz1, hz2⟩ := info_parts infoB
  go_enter Tryd.func87, Tryd.ntmps87
  go_wp2
  go_loopw [5, 6] (fun x i wr => ∃ (k g cap : Nat), k ≤ size ∧ i = .int .i64 k ∧ x = .slice (some ⟨g, 0, none⟩) k cap ∧ wr.ownsRow w.heap.size 5 1 (.slice (some ⟨g, 0, none⟩) k cap) k (BV (litB X k)) ∧ Below w.heap.size w wr) (fun _ i _ => size - (intOf i).toNat)
  case atStart =>
    exact ⟨0, w.heap.size, 0, Nat.zero_le _, rfl, rfl, World.ownsRow_made w #[] 0 (Nat.le_refl _) (Nat.zero_le _) rfl, (Below.refl _ _).alloc (Nat.le_refl _) _⟩
  case round =>
    obtain ⟨k, g, cap, hk, rfl, rfl, hown, hnx⟩ := hrel
    by_cases hlt : k < size
    · have hlt2 : (k : Int) < size := by omega
      have hsz := hnx.size
      have hm1 : k + 1 ≤ maxLen := by unfold maxLen; omega
      have hb1 : (k + 1) * 1 ≤ 140737488355328 := by omega
      have f1 := pByteL X k
      have f2 := pByteL' X k
      go_wp2_with (at_builtin; refine wpList_append_lies _ rfl _ _ _ rfl w.heap.size 5 i0 (.int .u8 0) 1 1 Tryd.underlying97 hi hz0 hz1 hz2 rfl (by omega) _ k (BV (litB X k)) rfl (hown.alloc _) ⟨wr.heap.size, 0, none⟩ 1 1 (BV [byteL X k]) rfl rfl (news1' _ _) (BV_one _) (by omega) hm1 hb1 (by simp; omega) (wr.heap.size + 1) (by simp) ?_; intro g' cap' w1 hown1 hgrow hat hlt1)
      rw [BV_app, litB_snoc] at hown1
      have hb2 := below_app' hnx hgrow (fun j hj => (hown.lt j hj).1)
      clear hown hnx hgrow hat hlt1 hm1 hb1 hsz f1 f2
      go_wp2
      go_roundw
      case rel => exact ⟨k + 1, g', cap', by omega, by go_num, rfl, hown1, hb2⟩
      case measure => simp [intOf]; omega
    · obtain rfl : k = size := by omega
      have hconv := str_own hown
      go_wp2
      go_ret
      exact ⟨rfl, hnx⟩
/-- the lowest n bytes of a number -/
def litS (v : Int) (n : Nat) : ByteArray := ⟨(litB (IntKind.u64.wrap v).toNat n).toArray⟩
theorem litS_size (v : Int) (n : Nat) : (litS v n).size = n := by show (litB _ n).toArray.size = n; simp [litB]
theorem litC (v : Int) (n : Nat) (w : World) (h : n ≤ 8) : Calls Tryd.prog 87 #[.int .i64 v, .int .i64 (n : Int)] w fun e w' => e = .returned (.string (litS v n)) ∧ Below w.heap.size w w' :=
  specLit v (IntKind.u64.wrap v).toNat n w (by have := wrapUL v; omega) h
end Go.Proofs.YtcchcinnjahghaaDoor
