/-
  The rest of the drawing functions: wide numbers, texts, drawn numbers and texts of some bytes; each returns a value within its bounds and keeps all memory that was there; conditions: the bytes can be read, and few draws have been made.
-/
import Derived.Test.YtlijjbdhoooamaaDoorSrc2
import Derived.OpenShut
namespace Go.Proofs.YtlijjbdhoooamaaDoor
open Go.RowKit
theorem Rdb.more {w : World} {B B' : Nat} {A : Option Addr} {len : Nat} (h : Rdb w B A len) (hB : B ≤ B') : Rdb w B' A len := fun hl => by
  obtain ⟨b, off, h1, h2, h3⟩ := h hl
  exact ⟨b, off, h1, by omega, h3⟩
theorem wf_small {r : Int} (h1 : -4294967296 ≤ r) (h2 : r ≤ 4294967296) : (Lit.int .i64 r).wf = true := WalkArith.wf_i64 ⟨by omega, by omega⟩
set_option maxHeartbeats 2000000 in
theorem src_wide (g len cap N B : Nat) (A : Option Addr) (w : World) (h : Src w g (.slice A len cap) N) (hN : N ≤ 800000) (hr : Rdb w B A len) (hB : B ≤ g) (hw : B ≤ w.heap.size) :
    Calls Tryd.prog 18 #[.pointer (some ⟨g, 0, none⟩)] w (DrawnInt g (.slice A len cap) (N + 9) w) := by
  go_enter Tryd.func18, Tryd.ntmps18
  go_wp2_with fail
  refine (src_next 8 g len cap N B A _ h (by omega) hr hB (by omega) (by omega)).mono ?_
  rintro e w1 ⟨r, r0, r1, rfl, hs1, hg1⟩
  have hr1 := hr.grown hg1 hB hw
  have hw1 : B ≤ w1.heap.size := Nat.le_trans hw hg1.size
  rcases (show r = 0 ∨ r = 1 ∨ r = 2 ∨ r = 3 ∨ r = 4 ∨ r = 5 ∨ 5 < r from by omega) with rfl | rfl | rfl | rfl | rfl | rfl | hgt
  · go_wp2_with fail
    refine (src_word g len cap (N + 1) B A _ hs1 (by omega) hr1 hB hw1).mono ?_
    rintro e w2 ⟨r', r0', r1', rfl, hs2, hg2⟩
    have hr2 := hr1.grown hg2 hB hw1
    have hw2 : B ≤ w2.heap.size := Nat.le_trans hw1 hg2.size
    go_wp2_with fail
    refine (src_word g len cap (N + 5) B A _ hs2 (by omega) hr2 hB hw2).mono ?_
    rintro e w3 ⟨r'', r0'', r1'', rfl, hs3, hg3⟩
    go_wp2
    go_ret
    exact ⟨_, wf_bits .or .i64 _ _, rfl, hs3, grown_trans hg1 (grown_trans hg2 hg3)⟩
  · go_wp2_with fail
    refine (src_odd g len cap (N + 1) B A _ hs1 (by omega) hr1 hB hw1).mono ?_
    rintro e w2 ⟨r', hwf, rfl, hs2, hg2⟩
    go_wp2
    go_ret
    exact ⟨r', hwf, rfl, hs2.mono (by omega), grown_trans hg1 hg2⟩
  · go_wp2_with fail
    refine (src_nextBig 300 g len cap (N + 1) B A _ hs1 (by omega) hr1 hB hw1 (by omega) (by omega)).mono ?_
    rintro e w2 ⟨r', r0', r1', rfl, hs2, hg2⟩
    go_wp2
    go_ret
    refine ⟨_, ?_, rfl, hs2.mono (by omega), grown_trans hg1 hg2⟩
    exact wf_small (by omega) (by omega)
  · go_wp2_with fail
    refine (src_word g len cap (N + 1) B A _ hs1 (by omega) hr1 hB hw1).mono ?_
    rintro e w2 ⟨r', r0', r1', rfl, hs2, hg2⟩
    go_wp2
    go_ret
    refine ⟨_, ?_, rfl, hs2.mono (by omega), grown_trans hg1 hg2⟩
    exact wf_small (by omega) (by omega)
  · go_wp2_with fail
    refine (src_next 64 g len cap (N + 1) B A _ hs1 (by omega) hr1 hB (by omega) (by omega)).mono ?_
    rintro e w2 ⟨r', r0', r1', rfl, hs2, hg2⟩
    go_wp2
    go_ret
    exact ⟨_, wrap64_wf _, rfl, hs2.mono (by omega), grown_trans hg1 hg2⟩
  · go_wp2_with fail
    refine (src_next 63 g len cap (N + 1) B A _ hs1 (by omega) hr1 hB (by omega) (by omega)).mono ?_
    rintro e w2 ⟨r', r0', r1', rfl, hs2, hg2⟩
    go_wp2
    go_ret
    exact ⟨_, wrap64_wf _, rfl, hs2.mono (by omega), grown_trans hg1 hg2⟩
  · go_wp2_with fail
    refine (src_nextBig 300 g len cap (N + 1) B A _ hs1 (by omega) hr1 hB hw1 (by omega) (by omega)).mono ?_
    rintro e w2 ⟨r', r0', r1', rfl, hs2, hg2⟩
    go_wp2
    go_ret
    refine ⟨_, ?_, rfl, hs2.mono (by omega), grown_trans hg1 hg2⟩
    exact wf_small (by omega) (by omega)
set_option maxHeartbeats 400000 in
theorem src_new (len cap : Nat) (A : Option Addr) (w : World) (hl : len ≤ 140737488355328) :
    Calls Tryd.prog 14 #[.slice A len cap] w fun e w' => e = .returned (.pointer (some ⟨w.heap.size, 0, none⟩)) ∧ Src w' w.heap.size (.slice A len cap) 0 ∧ Below w.heap.size w w' := by
  go_enter Tryd.func14, Tryd.ntmps14
  go_wp2
  go_ret
  refine ⟨rfl, ⟨0, (len : Int) % 1000, ?_, by omega, by omega, by omega, by omega⟩, (Below.refl _ _).alloc (Nat.le_refl _) _⟩
  exact heap_alloc_new w _
/-- a call that makes a text of n bytes and keeps all memory below block B -/
def TextOut (n : Nat) (B : Nat) (w : World) (e : Ending) (w' : World) : Prop := ∃ t : ByteArray, t.size = n ∧ e = .returned (.string t) ∧ Below B w w'
theorem Below.of_grown {B g : Nat} {w w' : World} (hg : w.grownBy w' (some g)) (hB : B ≤ g) (hw : B ≤ w.heap.size) : Below B w w' :=
  (Below.refl _ _).grown hg hw (fun k hk => by cases hk; exact hB)
set_option maxHeartbeats 1000000 in
theorem src_some (n g len cap N B : Nat) (A : Option Addr) (w : World) (h : Src w g (.slice A len cap) N) (hN : N ≤ 400000) (hr : Rdb w B A len) (hB : B ≤ g) (hn : n ≤ 400000) :
    Calls Tryd.prog 35 #[.pointer (some ⟨g, 0, none⟩), .int .i64 (n : Int)] w (TextOut n B w) := by
  obtain ⟨i0, hi, hz0, hz1, hz2⟩ := info_parts infoB
  have hlt := h.lt
  go_enter Tryd.func35, Tryd.ntmps35
  go_wp2
  go_loopw [5, 6] (fun v i wr => ∃ (k g' cap' : Nat) (l : List UInt8), k ≤ n ∧ i = .int .i64 k ∧ v = .slice (some ⟨g', 0, none⟩) k cap' ∧ wr.ownsRow w.heap.size 5 1 (.slice (some ⟨g', 0, none⟩) k cap') k (BV l) ∧ Src wr g (.slice A len cap) (N + k) ∧ Rdb wr B A len ∧ Below B w wr ∧ w.heap.size ≤ wr.heap.size) (fun _ i _ => n - (intOf i).toNat)
  case atStart =>
    exact ⟨0, w.heap.size, 0, [], Nat.zero_le _, rfl, rfl, World.ownsRow_made w #[] 0 (Nat.le_refl _) (Nat.zero_le _) rfl, h.alloc _, hr.alloc (by omega) _, (Below.refl _ _).alloc (by omega) _, by simp⟩
  case round =>
    obtain ⟨k, g', cap', l, hk, rfl, rfl, hown, hsr, hrr, hbr, hsz⟩ := hrel
    by_cases hlt2 : k < n
    · have hlt3 : (k : Int) < n := by omega
      have hm1 : k + 1 ≤ maxLen := by unfold maxLen; omega
      have hb1 : (k + 1) * 1 ≤ 140737488355328 := by omega
      go_wp2_with fail
      refine (src_byte g len cap (N + k) B A _ hsr (by omega) hrr hB).mono ?_
      rintro e w1 ⟨r, r0, r1, rfl, hs1, hg1⟩
      have hown1 := hown.kept hg1 (.inr (by have := (hown.lt g' rfl).1; simp [Value.ownBlock]; omega))
      have hr1 := hrr.grown hg1 hB (by omega)
      have hsz1 := hg1.size
      obtain ⟨b, hbv⟩ : ∃ b : UInt8, (b.toNat : Int) = r := ⟨UInt8.ofNat r.toNat, by rw [UInt8.toNat_ofNat']; omega⟩
      have hbw : IntKind.u8.wrap r = (b.toNat : Int) := by rw [hbv, IntKind.wrap_u8]; omega
      have HBV := Lib.hid hbv; clear hbv
      go_wp2_with (at_builtin; refine wpList_append_lies _ rfl _ _ _ rfl w.heap.size 5 i0 (.int .u8 0) 1 1 Tryd.underlying22 hi hz0 hz1 hz2 rfl (by omega) _ k (BV l) rfl (hown1.alloc _) ⟨w1.heap.size, 0, none⟩ 1 1 (BV [b]) rfl rfl (news1' _ _) (BV_one _) (by omega) hm1 hb1 (by simp; omega) (w1.heap.size + 1) (by simp) ?_; intro g2 cap2 w2 hown2 hgrow hat hlt1)
      rw [BV_app] at hown2
      have hgb := (hown.lt g' rfl).1
      have hs2 : Src w2 g (.slice A len cap) (N + k + 1) := (hs1.alloc _).same (hgrow.block g (by have := hs1.lt; simp; omega) (fun e => by have := (hown.lt g e.symm).1; omega))
      have hbw2 : Below B w w2 := ((hbr.trans (Below.of_grown hg1 hB (by omega))).alloc (by omega) _).grown hgrow (by simp; omega) (fun q hq => by have := (hown.lt q hq).1; omega)
      have hrd2 : Rdb w2 B A len := (hr1.alloc (by omega) _).below ((Below.refl _ _).grown hgrow (by simp; omega) (fun q hq => by have := (hown.lt q hq).1; omega))
      have hsz2 := hgrow.size
      simp only [World.size_alloc] at hsz2
      clear hbw hown hown1 hsr hs1 hrr hr1 hbr hgrow hat hlt1 hm1 hb1 hg1
      go_wp2
      go_roundw
      case rel => exact ⟨k + 1, g2, cap2, l ++ [b], by omega, by go_num, rfl, hown2, hs2, hrd2, hbw2, by omega⟩
      case measure => simp [intOf]; omega
    · have hconv := str_own hown
      have hll := own_len hown
      have HLL := Lib.hid hll; clear hll
      go_wp2
      go_ret
      exact ⟨⟨l.toArray⟩, by have := HLL.out; simp [ByteArray.size, this]; omega, rfl, hbr⟩
/-- a call that returns some number of kind int and keeps all memory below block B -/
def IntOut (B : Nat) (w : World) (e : Ending) (w' : World) : Prop := ∃ r : Int, (Lit.int .i64 r).wf = true ∧ e = .returned (.int .i64 r) ∧ Below B w w'
set_option maxHeartbeats 400000 in
theorem numberOf (len cap : Nat) (A : Option Addr) (w : World) (hl : len ≤ 140737488355328) (hr : Rdb w w.heap.size A len) :
    Calls Tryd.prog 7 #[.slice A len cap] w (IntOut w.heap.size w) := by
  go_enter Tryd.func7, Tryd.ntmps7
  go_wp2_with fail
  refine (src_new len cap A _ hl).mono ?_
  rintro e w1 ⟨rfl, hs1, hb1⟩
  go_wp2_with fail
  refine (src_wide w.heap.size len cap 0 w.heap.size A _ hs1 (by omega) (hr.below hb1) (Nat.le_refl _) hb1.size).mono ?_
  rintro e w2 ⟨r, hwf, rfl, hs2, hg2⟩
  go_wp2
  go_ret
  exact ⟨r, hwf, rfl, hb1.trans (Below.of_grown hg2 (Nat.le_refl _) hb1.size)⟩
end Go.Proofs.YtlijjbdhoooamaaDoor
