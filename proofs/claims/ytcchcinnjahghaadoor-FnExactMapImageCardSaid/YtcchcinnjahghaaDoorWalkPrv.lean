/-
  What impl.PrivateByte and spec.PrivateByte answer, and the bytes of a private page on both sides; no condition but those in each head.
-/
import Derived.Test.YtcchcinnjahghaaDoorWalkOkS
import Derived.Test.YtcchcinnjahghaaDoorMathMem
namespace Go.Proofs.YtcchcinnjahghaaDoor
open Go.RowKit Go.Sort
set_option linter.unusedVariables false
set_option linter.unusedSimpArgs false
/-- byte i of a private page -/
def pbN (i : Int) : Int := if 0 ≤ i ∧ i ≤ 255 then (7 * i + 3) % 256 else 0
theorem pvbS (i : Int) (w : World) : Calls Tryd.prog 82 #[.int .i64 i] w fun e w' => e = .returned (.int .i64 (pbN i)) ∧ w' = w := by
  by_cases h : 0 ≤ i ∧ i ≤ 255
  · rw [show pbN i = (7 * i + 3) % 256 from if_pos h]
    have C := Lib.hid (inYes i 0 255 w h.1 h.2)
    have e1 : IntKind.i64.wrap (7 * i) = 7 * i := IntWalk.i64_in _ (by omega)
    have e2 : IntKind.i64.wrap (7 * i + 3) = 7 * i + 3 := IntWalk.i64_in _ (by omega)
    have e3 : (7 * i + 3).tmod 256 = (7 * i + 3) % 256 := Int.tmod_eq_emod_of_nonneg (by omega)
    have e4 : IntKind.i64.wrap ((7 * i + 3) % 256) = (7 * i + 3) % 256 := IntWalk.i64_in _ (by omega)
    go_enter Tryd.func82, Tryd.ntmps82
    go_wp2_with fail
    refine (C.out).mono ?_
    rintro e w1 ⟨rfl, rfl⟩
    go_wp2
    go_returns
    exact ⟨rfl, rfl⟩
  · rw [show pbN i = 0 from if_neg h]
    have C := Lib.hid (inNo i 0 255 w (by omega))
    go_enter Tryd.func82, Tryd.ntmps82
    go_wp2_with fail
    refine (C.out).mono ?_
    rintro e w1 ⟨rfl, rfl⟩
    go_wp2
    go_returns
    exact ⟨rfl, rfl⟩
theorem cut8P (v : Int) (w : World) : Calls Tryd.prog 96 #[.int .i64 v] w fun e w' => e = .returned (.int .i64 (v % 256)) ∧ w' = w := by
  go_enter Tryd.func96, Tryd.ntmps96
  go_wp2
  go_ret
  exact ⟨by congr 2, rfl⟩
theorem pvbI (i : Int) (w : World) : Calls Tryd.prog 83 #[.int .i64 i] w fun e w' => e = .returned (.int .i64 (pbN i)) ∧ w' = w := by
  by_cases h0 : i < 0
  · rw [show pbN i = 0 from if_neg (by omega)]
    go_enter Tryd.func83, Tryd.ntmps83
    go_wp2
    go_returns
    exact ⟨rfl, rfl⟩
  by_cases h1 : 256 ≤ i
  · rw [show pbN i = 0 from if_neg (by omega)]
    go_enter Tryd.func83, Tryd.ntmps83
    go_wp2
    go_returns
    exact ⟨rfl, rfl⟩
  · rw [show pbN i = (7 * i + 3) % 256 from if_pos (by omega)]
    have C := Lib.hid (cut8P (7 * i + 3) w)
    go_enter Tryd.func83, Tryd.ntmps83
    go_wp2_with fail
    refine (C.out).mono ?_
    rintro e w1 ⟨rfl, rfl⟩
    go_wp2
    go_returns
    exact ⟨rfl, rfl⟩
/-- the first n bytes of a private page -/
def prvL (n : Nat) : List UInt8 := (List.range n).map fun i => UInt8.ofNat (7 * i + 3)
theorem prvL_len (n : Nat) : (prvL n).length = n := by simp [prvL]
theorem prvL_snoc (n : Nat) : prvL n ++ [UInt8.ofNat (7 * n + 3)] = prvL (n + 1) := by simp [prvL, List.range_succ]
theorem prvL_at {n k : Nat} (h : k < n) : (prvL n)[k]? = some (UInt8.ofNat (7 * k + 3)) := by simp [prvL, h]
/-- the text of a private page -/
def prvT : ByteArray := ⟨(prvL 256).toArray⟩
theorem prv_byte {k : Nat} (h : k < 256) : pbN (k : Int) = ((UInt8.ofNat (7 * k + 3)).toNat : Int) := by
  unfold pbN
  rw [if_pos (by omega), UInt8.toNat_ofNat']
  omega
set_option maxHeartbeats 1000000 in
theorem prvS (w : World) : Calls Tryd.prog 53 #[] w fun e w' => e = .returned (.string prvT) ∧ Below w.heap.size w w' := by
  obtain ⟨i0, hi, hz0, hz1, hz2⟩ := info_parts infoB
  go_enter Tryd.func53, Tryd.ntmps53
  go_wp2
  go_loopw [1, 2] (fun s i wr => ∃ (k g cp : Nat), k ≤ 256 ∧ i = .int .i64 k ∧ s = .slice (some ⟨g, 0, none⟩) k cp ∧ Hid (wr.ownsRow w.heap.size 5 1 (.slice (some ⟨g, 0, none⟩) k cp) k (BV (prvL k))) ∧ Hid (Below w.heap.size w wr)) (fun _ i _ => 256 - (intOf i).toNat)
  case atStart => exact ⟨0, w.heap.size, 0, Nat.zero_le _, rfl, rfl, Lib.hid (World.ownsRow_made w #[] 0 (Nat.le_refl _) (Nat.zero_le _) rfl), Lib.hid ((Below.refl _ _).alloc (Nat.le_refl _) _)⟩
  case round =>
    obtain ⟨k, g, cp, hk, rfl, rfl, HO, HL⟩ := hrel
    by_cases hlt : k < 256
    · have hlt2 : (k : Int) < 256 := by omega
      obtain ⟨b, hb⟩ : ∃ b : UInt8, b = UInt8.ofNat (7 * k + 3) := ⟨_, rfl⟩
      have C := Lib.hid (pvbS (k : Int) wr)
      rw [prv_byte hlt, ← hb] at C
      have HB := Lib.hid hb
      have hb0 : (b.toNat : Int) ≤ 255 := by have := b.toNat_lt; omega
      have hm1 : k + 1 ≤ maxLen := by unfold maxLen; omega
      have hb1 : (k + 1) * 1 ≤ 140737488355328 := by omega
      have hsz := HL.out.size
      clear hb
      go_wp2_with fail
      refine (C.out).mono ?_
      rintro e w1 ⟨rfl, rfl⟩
      go_wp2_with (at_builtin; refine wpList_append_lies _ rfl _ _ _ rfl w.heap.size 5 i0 (.int .u8 0) 1 1 Tryd.underlying97 hi hz0 hz1 hz2 rfl (by omega) _ k (BV (prvL k)) rfl (HO.out.alloc _) ⟨w1.heap.size, 0, none⟩ 1 1 (BV [b]) rfl rfl (news1' _ _) (BV_one _) (by omega) hm1 hb1 (by simp; omega) (w1.heap.size + 1) (by simp) ?_; intro g' cap' w3 hown1 hgrow hat hlt1)
      rw [BV_app, HB.out, prvL_snoc] at hown1
      have hb2 := below_app' HL.out hgrow (fun j hj => (HO.out.lt j hj).1)
      have HO1 := Lib.hid hown1; have HB2 := Lib.hid hb2
      clear hown1 hb2 hgrow hat hlt1
      go_wp2
      go_roundw
      case rel => exact ⟨k + 1, g', cap', by omega, by go_num, rfl, HO1, HB2⟩
      case measure => simp [intOf]; omega
    · obtain rfl : k = 256 := by omega
      have hs := str_own HO.out
      go_wp2
      go_ret
      exact ⟨rfl, HL.out⟩
theorem made_u8 (n : Nat) : (madeCells (Value.int IntKind.u8 0).cells (n * 1)).toList = BV (List.replicate n 0) := by
  apply List.ext_getElem?
  intro j
  by_cases hj : j < n
  · simp [madeCells, hj, BV, Value.cells, Nat.mod_one]
  · rw [List.getElem?_eq_none (by simp [madeCells]; omega), List.getElem?_eq_none (by rw [BV_len]; simp; omega)]
theorem prv_fill {k : Nat} {b : UInt8} (h : k < 256) (hb : b = UInt8.ofNat (7 * k + 3)) : (BV (prvL k ++ List.replicate (256 - k) 0)).set k (.int .u8 (b.toNat : Int)) = BV (prvL (k + 1) ++ List.replicate (256 - (k + 1)) 0) := by
  have e : 256 - k = (256 - (k + 1)) + 1 := by omega
  rw [e, List.replicate_succ, ← prvL_snoc, hb]
  simp [BV, List.set_append, prvL_len]
theorem prv_fill2 {w : World} {B g k : Nat} {b : UInt8} (h : w.ownsRow B 5 1 (.slice (some ⟨g, 0, none⟩) 256 256) 256 (BV (prvL k ++ List.replicate (256 - k) 0))) (hk : k < 256) (hb : b = UInt8.ofNat (7 * k + 3)) : (w.setCell ⟨g, k, none⟩ (.int .u8 (b.toNat : Int))).ownsRow B 5 1 (.slice (some ⟨g, 0, none⟩) 256 256) 256 (BV (prvL (k + 1) ++ List.replicate (256 - (k + 1)) 0)) := by
  rw [← prv_fill hk hb]; exact (h.stored k _).1
set_option maxHeartbeats 1000000 in
theorem prvI (w : World) : Calls Tryd.prog 60 #[] w fun e w' => e = .returned (.slice (some ⟨w.heap.size, 0, none⟩) 256 256) ∧ w'.ownsRow w.heap.size 5 1 (.slice (some ⟨w.heap.size, 0, none⟩) 256 256) 256 (BV (prvL 256)) ∧ Below w.heap.size w w' := by
  obtain ⟨i0, hi, hz0, hz1, hz2⟩ := info_parts infoB
  go_enter Tryd.func60, Tryd.ntmps60
  go_wp2_with (at_make; refine wpList_make_full _ rfl _ _ 97 rfl w.heap.size 5 i0 (.int .u8 0) 1 Tryd.underlying97 hi hz0 hz1 .i64 .i64 _ _ 256 rfl rfl rfl rfl (by rw [hz2]; omega) (by unfold maxLen; omega) (Nat.le_refl _) ?_; intro w2 hown0 hgrow0)
  have hb0 : Below w.heap.size w w2 := (Below.refl _ _).grown hgrow0 (Nat.le_refl _) (fun _ h => by cases h)
  rw [made_u8] at hown0
  clear hgrow0
  go_loopw [6] (fun i wr => ∃ k : Nat, k ≤ 256 ∧ i = .int .i64 k ∧ Hid (wr.ownsRow w.heap.size 5 1 (.slice (some ⟨w.heap.size, 0, none⟩) 256 256) 256 (BV (prvL k ++ List.replicate (256 - k) 0))) ∧ Hid (Below w.heap.size w wr)) (fun i _ => 256 - (intOf i).toNat)
  case atStart => exact ⟨0, Nat.zero_le _, rfl, Lib.hid hown0, Lib.hid hb0⟩
  case round =>
    obtain ⟨k, hk, rfl, HO, HL⟩ := hrel
    by_cases hlt : k < 256
    · have hlt2 : (k : Int) < 256 := by omega
      obtain ⟨b, hb⟩ : ∃ b : UInt8, b = UInt8.ofNat (7 * k + 3) := ⟨_, rfl⟩
      have C := Lib.hid (pvbI (k : Int) wr)
      rw [prv_byte hlt, ← hb] at C
      have HB := Lib.hid hb
      have hb0 : (b.toNat : Int) ≤ 255 := by have := b.toNat_lt; omega
      obtain ⟨u, d⟩ := own_cell HO.out k (by omega)
      have f := HO.out.frozenAt k
      clear hb
      go_wp2_with fail
      refine (C.out).mono ?_
      rintro e w1 ⟨rfl, rfl⟩
      go_wp2
      go_roundw
      case rel => exact ⟨k + 1, by omega, by go_num, Lib.hid (prv_fill2 HO.out hlt HB.out), Lib.hid (HL.out.setCell (Nat.le_refl _) _)⟩
      case measure => simp [intOf]; omega
    · obtain rfl : k = 256 := by omega
      have e1 : prvL 256 ++ List.replicate (256 - 256) 0 = prvL 256 := by simp
      go_wp2
      go_ret
      refine ⟨rfl, ?_, HL.out⟩
      have := HO.out
      rw [e1] at this
      exact this
end Go.Proofs.YtcchcinnjahghaaDoor
