/-
  What spec.HexOf and impl.HexOf do: for every text both return its digits, two a byte, or the empty text where the text is longer than 32768 bytes, and change nothing that was there; no condition.
-/
import Derived.Test.YtplgeelhkldkcaaBytes
namespace Go.Proofs.Ytplgeelhkldkcaa
open Go.RowKit
def hexB (n : Nat) : UInt8 := if h : n < 16 then (⟨#[48, 49, 50, 51, 52, 53, 54, 55, 56, 57, 97, 98, 99, 100, 101, 102]⟩ : ByteArray)[n] else 0
theorem hexB_at (n : Nat) (h : n < 16) : (⟨#[48, 49, 50, 51, 52, 53, 54, 55, 56, 57, 97, 98, 99, 100, 101, 102]⟩ : ByteArray)[n] = hexB n := by simp [hexB, h]
def hexL (l : List UInt8) : List UInt8 := l.flatMap fun c => [hexB (c.toNat / 16), hexB (c.toNat % 16)]
def hexS (s : ByteArray) : ByteArray := ⟨(hexL s.data.toList).toArray⟩
theorem take_snocB (s : ByteArray) (k : Nat) (h : k < s.size) : s.data.toList.take (k + 1) = s.data.toList.take k ++ [s[k]] := by
  rw [List.take_succ_eq_append_getElem (by simpa using h)]; rfl
theorem hexL_snoc (s : ByteArray) (k : Nat) (h : k < s.size) : hexL (s.data.toList.take k) ++ [hexB (s[k].toNat / 16), hexB (s[k].toNat % 16)] = hexL (s.data.toList.take (k + 1)) := by
  rw [take_snocB s k h]; simp [hexL]
theorem hexL_all (s : ByteArray) (k : Nat) (h : s.size ≤ k) : (⟨(hexL (s.data.toList.take k)).toArray⟩ : ByteArray) = hexS s := by
  rw [List.take_of_length_le (by simpa using h)]; rfl
theorem and15F : ∀ n : Fin 256, bits .and .u8 (n.val : Int) 15 = (n.val : Int) % 16 := by decide +kernel
theorem and15 (n : Nat) (h : n < 256) : bits .and .u8 (n : Int) 15 = (n : Int) % 16 := and15F ⟨n, h⟩
set_option maxHeartbeats 1000000 in
theorem specHexL (s : ByteArray) (w : World) (hs : s.size ≤ 32768) :
    Calls Try.prog 28 #[.string s] w fun e w' => e = .returned (.string (hexS s)) ∧ Below w.heap.size w w' := by
  obtain ⟨i0, hi, hz0, hz1, hz2⟩ := info_parts infoB
  go_enter Try.func28, Try.ntmps28
  go_wp2
  go_loopw [3, 4] (fun v i wr => ∃ (k g cap : Nat), k ≤ s.size ∧ i = .int .i64 k ∧ v = .slice (some ⟨g, 0, none⟩) (2 * k) cap ∧ wr.ownsRow w.heap.size 5 1 (.slice (some ⟨g, 0, none⟩) (2 * k) cap) (2 * k) (BV (hexL (s.data.toList.take k))) ∧ Below w.heap.size w wr) (fun _ i _ => s.size - (intOf i).toNat)
  case atStart =>
    exact ⟨0, w.heap.size, 0, Nat.zero_le _, rfl, rfl, World.ownsRow_made w #[] 0 (Nat.le_refl _) (Nat.zero_le _) rfl, (Below.refl _ _).alloc (Nat.le_refl _) _⟩
  case round =>
    obtain ⟨k, g, cap, hk, rfl, rfl, hown, hnx⟩ := hrel
    by_cases hlt : k < s.size
    · have fb : s[k].toNat < 256 := s[k].toNat_lt
      have f1 : IntKind.u8.wrap ((s[k].toNat : Int) / 16) = (s[k].toNat : Int) / 16 := by rw [IntKind.wrap_u8]; omega
      have f2 : (0 : Int) ≤ (s[k].toNat : Int) / 16 := by omega
      have f3 : (s[k].toNat : Int) / 16 < 16 := by omega
      have f4 : ((s[k].toNat : Int) / 16).toNat = s[k].toNat / 16 := by omega
      have f5 : (s[k].toNat : Int).tmod 16 = (s[k].toNat : Int) % 16 := Int.tmod_eq_emod_of_nonneg (by omega)
      have f6 : (0 : Int) ≤ (s[k].toNat : Int) % 16 := by omega
      have f7 : (s[k].toNat : Int) % 16 < 16 := by omega
      have f8 : ((s[k].toNat : Int) % 16).toNat = s[k].toNat % 16 := by omega
      clear fb
      have hH := hexB_at
      have hsz := hnx.size
      have hm1 : 2 * k + 2 ≤ maxLen := by unfold maxLen; omega
      have hb1 : (2 * k + 2) * 1 ≤ 140737488355328 := by omega
      go_wp2
      go_region_law ((refine step_append_lies _ (by rfl) _ _ _ (by rfl) w.heap.size 5 i0 (.int .u8 0) 1 1 Try.underlying22 hi hz0 hz1 hz2 rfl (by omega) _ (2 * k) (BV (hexL (s.data.toList.take k))) (by rfl) ((hown.drew).alloc _) ⟨wr.heap.size, 0, none⟩ 2 2 (BV [hexB (s[k].toNat / 16), hexB (s[k].toNat % 16)]) (by rfl) (by rfl) (by exact news2 _ _ _) (BV_one _) (by omega) hm1 hb1 (by simp; omega) (wr.heap.size + 1) (by simp) ?_; intro g' cap' w1 hown1 hgrow hat hlt1))
      all_goals
        rw [BV_app, hexL_snoc s k hlt] at hown1
        have hb2 := below_app hnx hgrow (fun j hj => (hown.lt j hj).1)
        clear hown hnx hgrow hat hlt1 f1 f2 f3 f4 f5 f6 f7 f8 hH hsz hm1 hb1
        go_wp2
        go_roundw
        case rel => exact ⟨k + 1, g', cap', by omega, by go_num, by rw [show 2 * (k + 1) = 2 * k + 2 from by omega], by rw [show 2 * (k + 1) = 2 * k + 2 from by omega]; exact hown1, hb2⟩
        case measure => simp [intOf]; omega
    · have hconv := str_own hown
      have hall := Lib.hid (hexL_all s k (by omega))
      go_wp2
      go_ret
      exact ⟨ret_str hall.out, hnx⟩
set_option maxHeartbeats 400000 in
theorem specHexOf (s : ByteArray) (w : World) (hm : s.size ≤ maxLen) :
    Calls Try.prog 14 #[.string s] w fun e w' => e = .returned (.string (if s.size ≤ 32768 then hexS s else ⟨#[]⟩)) ∧ Below w.heap.size w w' := by
  unfold maxLen at hm
  by_cases hs : s.size ≤ 32768
  · rw [if_pos hs]
    go_enter Try.func14, Try.ntmps14
    go_wp2_with (go_at_call 28; refine (specHexL _ _ hs).mono ?_; rintro e w' ⟨rfl, hb⟩)
    go_ret
    exact ⟨rfl, hb⟩
  · rw [if_neg hs]
    go_enter Try.func14, Try.ntmps14
    go_wp2
    go_ret
    exact ⟨rfl, Below.refl _ _⟩
set_option maxHeartbeats 1000000 in
theorem implHexL (s : ByteArray) (w : World) (hs : s.size ≤ 32768) :
    Calls Try.prog 12 #[.string s] w fun e w' => e = .returned (.string (hexS s)) ∧ Below w.heap.size w w' := by
  obtain ⟨i0, hi, hz0, hz1, hz2⟩ := info_parts infoB
  go_enter Try.func12, Try.ntmps12
  go_wp2_with (at_make; refine wpList_make_own _ rfl _ _ 22 rfl w.heap.size 5 i0 (.int .u8 0) 1 Try.underlying22 hi hz0 hz1 .i64 .i64 _ (2 * s.size) rfl rfl (by omega) (by rw [hz2]; omega) (by unfold maxLen; omega) (Nat.le_refl _) ?_; intro w0 hown0 hgrow0)
  have hb0 : Below w.heap.size w w0 := (Below.refl _ _).grown hgrow0 (Nat.le_refl _) (fun _ h => by cases h)
  clear hgrow0
  go_loopw [3, 4, 14] (fun v _ i wr => ∃ (k g cap : Nat), k ≤ s.size ∧ i = .int .i64 k ∧ v = .slice (some ⟨g, 0, none⟩) (2 * k) cap ∧ wr.ownsRow w.heap.size 5 1 (.slice (some ⟨g, 0, none⟩) (2 * k) cap) (2 * k) (BV (hexL (s.data.toList.take k))) ∧ Below w.heap.size w wr) (fun _ _ i _ => s.size - (intOf i).toNat)
  case atStart =>
    exact ⟨0, w.heap.size, 2 * s.size, Nat.zero_le _, rfl, rfl, hown0, hb0⟩
  case round =>
    obtain ⟨k, g, cap, hk, rfl, rfl, hown, hnx⟩ := hrel
    by_cases hlt : k < s.size
    · have fb : s[k].toNat < 256 := s[k].toNat_lt
      have f1 : IntKind.u8.wrap ((s[k].toNat : Int) / 16) = (s[k].toNat : Int) / 16 := by rw [IntKind.wrap_u8]; omega
      have f2 : (0 : Int) ≤ (s[k].toNat : Int) / 16 := by omega
      have f3 : (s[k].toNat : Int) / 16 < 16 := by omega
      have f4 : ((s[k].toNat : Int) / 16).toNat = s[k].toNat / 16 := by omega
      have f5 : bits .and .u8 (s[k].toNat : Int) 15 = (s[k].toNat : Int) % 16 := and15 _ fb
      have f6 : (0 : Int) ≤ (s[k].toNat : Int) % 16 := by omega
      have f7 : (s[k].toNat : Int) % 16 < 16 := by omega
      have f8 : ((s[k].toNat : Int) % 16).toNat = s[k].toNat % 16 := by omega
      clear fb
      have hH := hexB_at
      have hsz := hnx.size
      have hm1 : 2 * k + 2 ≤ maxLen := by unfold maxLen; omega
      have hb1 : (2 * k + 2) * 1 ≤ 140737488355328 := by omega
      go_wp2
      go_region_law ((refine step_append_lies _ (by rfl) _ _ _ (by rfl) w.heap.size 5 i0 (.int .u8 0) 1 1 Try.underlying22 hi hz0 hz1 hz2 rfl (by omega) _ (2 * k) (BV (hexL (s.data.toList.take k))) (by rfl) ((hown.drew).alloc _) ⟨wr.heap.size, 0, none⟩ 2 2 (BV [hexB (s[k].toNat / 16), hexB (s[k].toNat % 16)]) (by rfl) (by rfl) (by exact news2 _ _ _) (BV_one _) (by omega) hm1 hb1 (by simp; omega) (wr.heap.size + 1) (by simp) ?_; intro g' cap' w1 hown1 hgrow hat hlt1))
      all_goals
        rw [BV_app, hexL_snoc s k hlt] at hown1
        have hb2 := below_app hnx hgrow (fun j hj => (hown.lt j hj).1)
        clear hown hnx hgrow hat hlt1 f1 f2 f3 f4 f5 f6 f7 f8 hH hsz hm1 hb1
        go_wp2
        go_roundw
        case rel => exact ⟨k + 1, g', cap', by omega, by go_num, by rw [show 2 * (k + 1) = 2 * k + 2 from by omega], by rw [show 2 * (k + 1) = 2 * k + 2 from by omega]; exact hown1, hb2⟩
        case measure => simp [intOf]; omega
    · have hconv := str_own hown
      have hall := Lib.hid (hexL_all s k (by omega))
      go_wp2
      go_ret
      exact ⟨ret_str hall.out, hnx⟩
set_option maxHeartbeats 400000 in
theorem implHexOf (s : ByteArray) (w : World) (hm : s.size ≤ maxLen) :
    Calls Try.prog 12 #[.string s] w fun e w' => e = .returned (.string (if s.size ≤ 32768 then hexS s else ⟨#[]⟩)) ∧ Below w.heap.size w w' := by
  unfold maxLen at hm
  by_cases hs : s.size ≤ 32768
  · rw [if_pos hs]
    exact implHexL s w hs
  · rw [if_neg hs]
    go_enter Try.func12, Try.ntmps12
    go_wp2
    go_ret
    exact ⟨rfl, Below.refl _ _⟩
end Go.Proofs.Ytplgeelhkldkcaa
