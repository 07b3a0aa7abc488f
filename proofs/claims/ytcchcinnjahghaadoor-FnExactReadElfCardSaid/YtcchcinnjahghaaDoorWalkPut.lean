/-
  What impl.PutLittle and spec.PutLittle do: the lowest bytes of a number, the lowest one first, and code 4 for a size that is none, changing nothing that was there; condition: the sentinels hold what the program's text lays there.
-/
import Derived.Test.YtcchcinnjahghaaDoorWalkSign
import Derived.Test.YtcchcinnjahghaaDoorBytes
namespace Go.Proofs.YtcchcinnjahghaaDoor
open Go.RowKit Go.Extern.Stop Go.Stop Go.Extern
def byteOf (X k : Nat) : UInt8 := UInt8.ofNat (X / 2 ^ (8 * k) % 256)
def leB (X n : Nat) : List UInt8 := (List.range n).map (byteOf X)
theorem byteOf_nat (X k : Nat) : (byteOf X k).toNat = X / 2 ^ (8 * k) % 256 := by
  unfold byteOf; rw [UInt8.toNat_ofNat']; omega
theorem leB_snoc (X k : Nat) : leB X k ++ [byteOf X k] = leB X (k + 1) := by simp [leB, List.range_succ]
theorem pByte (X k : Nat) : IntKind.u8.wrap ((X : Int) / 2 ^ (8 * k)) = ((byteOf X k).toNat : Int) := by
  rw [byteOf_nat, ← cast_dp, IntKind.wrap_u8]; omega
theorem pByte' (X k : Nat) : ((X : Int) / 2 ^ (8 * k)) % 256 = ((byteOf X k).toNat : Int) := by
  rw [byteOf_nat, ← cast_dp]; omega
theorem iByte {v : Int} {X k : Nat} (hX : IntKind.u64.wrap v = (X : Int)) (hk : k < 8) : (v / 2 ^ (8 * k)) % 256 = ((byteOf X k).toNat : Int) := by
  rw [← pByte']
  rw [wrapU] at hX
  obtain ⟨c, hc⟩ : ∃ c : Int, v = X + 18446744073709551616 * c := ⟨v / 18446744073709551616, by omega⟩
  have hp : (0 : Int) < 2 ^ (8 * k) := Int.pow_pos (by decide)
  have e : (18446744073709551616 : Int) = 2 ^ (8 * k) * (256 * 2 ^ (56 - 8 * k)) := by
    have : (256 : Int) = 2 ^ 8 := by decide
    rw [this, ← Int.pow_add, ← Int.pow_add, show 8 * k + (8 + (56 - 8 * k)) = 64 from by omega]; decide
  rw [hc, e, Int.mul_assoc, Int.add_mul_ediv_left _ _ (by omega), Int.mul_assoc]
  generalize (2 : Int) ^ (56 - 8 * k) * c = q
  omega
theorem iByte2 {v : Int} {X k : Nat} (hX : IntKind.u64.wrap v = (X : Int)) (hk : k < 8) : IntKind.u8.wrap (v / 2 ^ (8 * k)) = ((byteOf X k).toNat : Int) := by
  rw [IntKind.wrap_u8]; exact iByte hX hk
set_option maxHeartbeats 1000000 in
theorem specLittle (v : Int) (X size : Nat) (w : World) (hX : IntKind.u64.wrap v = (X : Int)) (hs8 : size ≤ 8) :
    Calls Tryd.prog 87 #[.int .i64 v, .int .i64 (size : Int)] w fun e w' => e = .returned (.string ⟨(leB X size).toArray⟩) ∧ Below w.heap.size w w' := by
  obtain ⟨i0, hi, hz0, hz1, hz2⟩ := info_parts infoB
  go_enter Tryd.func87, Tryd.ntmps87
  go_wp2
  go_loopw [5, 6] (fun x i wr => ∃ (k g cap : Nat), k ≤ size ∧ i = .int .i64 k ∧ x = .slice (some ⟨g, 0, none⟩) k cap ∧ wr.ownsRow w.heap.size 5 1 (.slice (some ⟨g, 0, none⟩) k cap) k (BV (leB X k)) ∧ Below w.heap.size w wr) (fun _ i _ => size - (intOf i).toNat)
  case atStart =>
    exact ⟨0, w.heap.size, 0, Nat.zero_le _, rfl, rfl, World.ownsRow_made w #[] 0 (Nat.le_refl _) (Nat.zero_le _) rfl, (Below.refl _ _).alloc (Nat.le_refl _) _⟩
  case round =>
    obtain ⟨k, g, cap, hk, rfl, rfl, hown, hnx⟩ := hrel
    by_cases hlt : k < size
    · have hlt2 : (k : Int) < size := by omega
      have hsz := hnx.size
      have hm1 : k + 1 ≤ maxLen := by unfold maxLen; omega
      have hb1 : (k + 1) * 1 ≤ 140737488355328 := by omega
      have f1 := pByte X k
      have f2 := pByte' X k
      go_wp2_with (at_builtin; refine wpList_append_lies _ rfl _ _ _ rfl w.heap.size 5 i0 (.int .u8 0) 1 1 Tryd.underlying97 hi hz0 hz1 hz2 rfl (by omega) _ k (BV (leB X k)) rfl (hown.alloc _) ⟨wr.heap.size, 0, none⟩ 1 1 (BV [byteOf X k]) rfl rfl (news1' _ _) (BV_one _) (by omega) hm1 hb1 (by simp; omega) (wr.heap.size + 1) (by simp) ?_; intro g' cap' w1 hown1 hgrow hat hlt1)
      rw [BV_app, leB_snoc] at hown1
      have hb2 := below_app' hnx hgrow (fun j hj => (hown.lt j hj).1)
      clear hown hnx hgrow hat hlt1 hm1 hb1 hsz f1 f2
      go_wp2
      go_roundw
      case rel => exact ⟨k + 1, g', cap', by omega, by go_num, rfl, hown1, hb2⟩
      case measure => simp [intOf]; omega
    · obtain rfl : k = size := by omega
      have hconv := str_own hown
      go_wp2
      go_ret
      exact ⟨rfl, hnx⟩
/-- the row while it is filled: k bytes, then noughts -/
def fillL (X n k : Nat) : List UInt8 := (List.range n).map fun j => if j < k then byteOf X j else 0
theorem fill_zero (X n : Nat) : BV (fillL X n 0) = (madeCells (Value.int .u8 0).cells (n * 1)).toList := by
  simp [madeCells, BV, fillL, Value.cells, Nat.mod_one]
theorem fill_set (X n k : Nat) : (BV (fillL X n k)).set k (.int .u8 ((byteOf X k).toNat : Int)) = BV (fillL X n (k + 1)) := by
  unfold BV fillL
  apply List.ext_getElem?
  intro i
  simp only [List.getElem?_set, List.getElem?_map, List.length_map, List.length_range]
  by_cases hi : i < n
  · rw [List.getElem?_range hi]
    by_cases e : k = i
    · subst e; simp [hi]
    · simp [e]
      by_cases h : i < k
      · simp [h, show i < k + 1 from by omega]
      · simp [h, show ¬ i < k + 1 from by omega]
  · rw [List.getElem?_eq_none (by simpa using hi)]
    by_cases e : k = i
    · subst e; simp [hi]
    · simp [e]
theorem fill_all (X n : Nat) : fillL X n n = leB X n := by
  unfold fillL leB
  apply List.map_congr_left
  intro j hj
  rw [if_pos (by simpa using hj)]
set_option maxHeartbeats 400000 in
theorem checkYes (n : Int) (w : World) (h : okSize n) : Calls Tryd.prog 100 #[.int .i64 n] w fun e w' => e = .returned .nilIface ∧ w = w' := by
  rcases h with rfl | rfl | rfl | rfl
  all_goals
    go_enter Tryd.func100, Tryd.ntmps100
    go_wp2
    go_ret
    exact ⟨rfl, rfl⟩
set_option maxHeartbeats 400000 in
theorem checkNo (n : Int) (w : World) (aE aR : Addr) (hs : Sent w aE aR) (h : ¬ okSize n) : Calls Tryd.prog 100 #[.int .i64 n] w fun e w' => e = .returned (bErr sizeT n aR) ∧ w = w' := by
  have h1 : (n == 1) = false := beq_eq_false_iff_ne.mpr fun e => h (.inl e)
  have h2 : (n == 2) = false := beq_eq_false_iff_ne.mpr fun e => h (.inr (.inl e))
  have h4 : (n == 4) = false := beq_eq_false_iff_ne.mpr fun e => h (.inr (.inr (.inl e)))
  have h8 : (n == 8) = false := beq_eq_false_iff_ne.mpr fun e => h (.inr (.inr (.inr e)))
  have C := Lib.hid (noSizeC n w aE aR hs)
  clear h hs
  go_enter Tryd.func100, Tryd.ntmps100
  go_wp2_with (go_at_call 105; refine (C.out).mono ?_; rintro e w' ⟨rfl, rfl⟩)
  go_ret
  exact ⟨rfl, rfl⟩
set_option maxHeartbeats 1000000 in
theorem implPutYes (v : Int) (X size : Nat) (w : World) (hX : IntKind.u64.wrap v = (X : Int)) (hok : okSize (size : Int)) :
    Calls Tryd.prog 102 #[.int .i64 v, .int .i64 (size : Int)] w fun e w' => e = .returned (.tuple #[.string ⟨(leB X size).toArray⟩, .int .i64 0]) ∧ Below w.heap.size w w' := by
  obtain ⟨i0, hi, hz0, hz1, hz2⟩ := info_parts infoB
  have hs8 : size ≤ 8 := by rcases hok with h | h | h | h <;> omega
  have CK := Lib.hid (checkYes (size : Int) w hok)
  have HX := Lib.hid hX
  clear hok hX
  go_enter Tryd.func102, Tryd.ntmps102
  go_wp2_with (first | (go_at_call 100; refine (CK.out).mono ?_; rintro e w' ⟨rfl, rfl⟩) | (at_make; refine wpList_make_full _ rfl _ _ 97 rfl w.heap.size 5 i0 (.int .u8 0) 1 Tryd.underlying97 hi hz0 hz1 .i64 .i64 _ _ size rfl rfl rfl rfl (by rw [hz2]; omega) (by unfold maxLen; omega) (Nat.le_refl _) ?_; intro w0 hown0 hgrow0))
  rw [← fill_zero X size] at hown0
  have hb0 : Below w.heap.size w w0 := (Below.refl _ _).grown hgrow0 (Nat.le_refl _) (fun _ h => by cases h)
  clear hgrow0
  go_loopw [8, 19] (fun _ i wr => ∃ k : Nat, k ≤ size ∧ i = .int .i64 k ∧ wr.ownsRow w.heap.size 5 1 (.slice (some ⟨w.heap.size, 0, none⟩) size size) size (BV (fillL X size k)) ∧ Below w.heap.size w wr) (fun _ i _ => size - (intOf i).toNat)
  case atStart => exact ⟨0, Nat.zero_le _, rfl, hown0, hb0⟩
  case round =>
    obtain ⟨k, hk, rfl, hown, hnx⟩ := hrel
    by_cases hlt : k < size
    · have hlt2 : (k : Int) < size := by omega
      have hc : ∃ u, wr.cell? ⟨w.heap.size, k, none⟩ = some u := by
        have := hown.cellAt k (by omega)
        rw [this]
        have hl : (BV (fillL X size k)).length = size := by simp [BV, fillL]
        exact ⟨_, List.getElem?_eq_getElem (by omega)⟩
      obtain ⟨u, hc⟩ := hc
      have hf := hown.frozenAt k
      have f1 := iByte HX.out (show k < 8 by omega)
      have f2 := iByte2 HX.out (show k < 8 by omega)
      go_wp2
      go_roundw
      case rel => exact ⟨k + 1, by omega, by go_num, by have := (hown.stored k (.int .u8 ((byteOf X k).toNat : Int))).1; rw [fill_set] at this; exact this, hnx.setCell (Nat.le_refl _) _⟩
      case measure => simp [intOf]; omega
    · obtain rfl : k = size := by omega
      rw [fill_all] at hown
      have hconv := str_own hown
      go_wp2
      go_ret2
      exact ⟨rfl, hnx⟩
set_option maxHeartbeats 400000 in
theorem implPutNo (v n : Int) (w : World) (aE aR : Addr) (hs : Sent w aE aR) (h : ¬ okSize n) :
    Calls Tryd.prog 102 #[.int .i64 v, .int .i64 n] w fun e w' => e = .returned (.tuple #[.string ⟨#[]⟩, .int .i64 4]) ∧ Below w.heap.size w w' := by
  have C := Lib.hid (checkNo n w aE aR hs h)
  have C2 := Lib.hid (codeRange sizeT n w aE aR hs)
  clear h hs
  go_enter Tryd.func102, Tryd.ntmps102
  go_wp2_with fail
  refine (C.out).mono ?_
  rintro e w' ⟨rfl, rfl⟩
  unfold bErr
  go_wp2_with fail
  refine (C2.out).mono ?_
  rintro e w1 ⟨rfl, hb⟩
  go_wp2
  go_ret2
  exact ⟨rfl, hb⟩
theorem natSize {n : Int} (h : okSize n) : ∃ size : Nat, n = (size : Int) ∧ okSize (size : Int) := by
  obtain ⟨m, rfl⟩ := Int.eq_ofNat_of_zero_le (show 0 ≤ n by rcases h with h | h | h | h <;> omega)
  exact ⟨m, rfl, h⟩
end Go.Proofs.YtcchcinnjahghaaDoor
