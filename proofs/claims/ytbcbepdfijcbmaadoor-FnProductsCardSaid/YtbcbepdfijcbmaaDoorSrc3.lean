/-
  The rest of the drawing functions: wide numbers, texts, drawn numbers and texts of some bytes; each returns a value within its bounds and keeps all memory that was there; conditions: the bytes can be read, and few draws have been made.
-/
import Derived.Test.YtbcbepdfijcbmaaDoorSrc2
import Derived.OpenShut
namespace Go.Proofs.YtbcbepdfijcbmaaDoor
open Go.RowKit
theorem Rdb.more {w : World} {B B' : Nat} {A : Option Addr} {len : Nat} (h : Rdb w B A len) (hB : B ≤ B') : Rdb w B' A len := fun hl => by
  obtain ⟨b, off, h1, h2, h3⟩ := h hl
  exact ⟨b, off, h1, by omega, h3⟩
theorem wf_small {r : Int} (h1 : -4294967296 ≤ r) (h2 : r ≤ 4294967296) : (Lit.int .i64 r).wf = true := WalkArith.wf_i64 ⟨by omega, by omega⟩
set_option maxHeartbeats 2000000 in
theorem src_wide (g len cap N B : Nat) (A : Option Addr) (w : World) (h : Src w g (.slice A len cap) N) (hN : N ≤ 800000) (hr : Rdb w B A len) (hB : B ≤ g) (hw : B ≤ w.heap.size) :
    Calls Tryd.prog 45 #[.pointer (some ⟨g, 0, none⟩)] w (DrawnInt g (.slice A len cap) (N + 9) w) := by
  go_enter Tryd.func45, Tryd.ntmps45
  go_wp2_with fail
  refine (src_next 8 g len cap N B A _ h (by omega) hr hB (by omega) (by omega)).mono ?_
  rintro e w1 ⟨r, r0, r1, rfl, hs1, hg1⟩
  have hr1 := hr.grown hg1 hB hw
  have hw1 : B ≤ w1.heap.size := Nat.le_trans hw hg1.size
  rcases (show r = 0 ∨ r = 1 ∨ r = 2 ∨ r = 3 ∨ r = 4 ∨ r = 5 ∨ 5 < r from by omega) with rfl | rfl | rfl | rfl | rfl | rfl | hgt
  · go_wp2_with fail
    refine (src_word g len cap (N + 1) B A _ hs1 (by omega) hr1 hB hw1).mono ?_
    rintro e w2 ⟨r', r0', r1', rfl, hs2, hg2⟩
    have hr2 := hr1.grown hg2 hB hw1
    have hw2 : B ≤ w2.heap.size := Nat.le_trans hw1 hg2.size
    go_wp2_with fail
    refine (src_word g len cap (N + 5) B A _ hs2 (by omega) hr2 hB hw2).mono ?_
    rintro e w3 ⟨r'', r0'', r1'', rfl, hs3, hg3⟩
    go_wp2
    go_ret
    exact ⟨_, wf_bits .or .i64 _ _, rfl, hs3, grown_trans hg1 (grown_trans hg2 hg3)⟩
  · go_wp2_with fail
    refine (src_odd g len cap (N + 1) B A _ hs1 (by omega) hr1 hB hw1).mono ?_
    rintro e w2 ⟨r', hwf, rfl, hs2, hg2⟩
    go_wp2
    go_ret
    exact ⟨r', hwf, rfl, hs2.mono (by omega), grown_trans hg1 hg2⟩
  · go_wp2_with fail
    refine (src_nextBig 300 g len cap (N + 1) B A _ hs1 (by omega) hr1 hB hw1 (by omega) (by omega)).mono ?_
    rintro e w2 ⟨r', r0', r1', rfl, hs2, hg2⟩
    go_wp2
    go_ret
    refine ⟨_, ?_, rfl, hs2.mono (by omega), grown_trans hg1 hg2⟩
    exact wf_small (by omega) (by omega)
  · go_wp2_with fail
    refine (src_word g len cap (N + 1) B A _ hs1 (by omega) hr1 hB hw1).mono ?_
    rintro e w2 ⟨r', r0', r1', rfl, hs2, hg2⟩
    go_wp2
    go_ret
    refine ⟨_, ?_, rfl, hs2.mono (by omega), grown_trans hg1 hg2⟩
    exact wf_small (by omega) (by omega)
  · go_wp2_with fail
    refine (src_next 64 g len cap (N + 1) B A _ hs1 (by omega) hr1 hB (by omega) (by omega)).mono ?_
    rintro e w2 ⟨r', r0', r1', rfl, hs2, hg2⟩
    go_wp2
    go_ret
    exact ⟨_, wrap64_wf _, rfl, hs2.mono (by omega), grown_trans hg1 hg2⟩
  · go_wp2_with fail
    refine (src_next 63 g len cap (N + 1) B A _ hs1 (by omega) hr1 hB (by omega) (by omega)).mono ?_
    rintro e w2 ⟨r', r0', r1', rfl, hs2, hg2⟩
    go_wp2
    go_ret
    exact ⟨_, wrap64_wf _, rfl, hs2.mono (by omega), grown_trans hg1 hg2⟩
  · go_wp2_with fail
    refine (src_nextBig 300 g len cap (N + 1) B A _ hs1 (by omega) hr1 hB hw1 (by omega) (by omega)).mono ?_
    rintro e w2 ⟨r', r0', r1', rfl, hs2, hg2⟩
    go_wp2
    go_ret
    refine ⟨_, ?_, rfl, hs2.mono (by omega), grown_trans hg1 hg2⟩
    exact wf_small (by omega) (by omega)
set_option maxHeartbeats 400000 in
theorem src_new (len cap : Nat) (A : Option Addr) (w : World) (hl : len ≤ 140737488355328) :
    Calls Tryd.prog 43 #[.slice A len cap] w fun e w' => e = .returned (.pointer (some ⟨w.heap.size, 0, none⟩)) ∧ Src w' w.heap.size (.slice A len cap) 0 ∧ Below w.heap.size w w' := by
  go_enter Tryd.func43, Tryd.ntmps43
  go_wp2
  go_ret
  refine ⟨rfl, ⟨0, (len : Int) % 1000, ?_, by omega, by omega, by omega, by omega⟩, (Below.refl _ _).alloc (Nat.le_refl _) _⟩
  exact heap_alloc_new w _
/-- a call that makes a text of n bytes and keeps all memory below block B -/
def TextOut (n : Nat) (B : Nat) (w : World) (e : Ending) (w' : World) : Prop := ∃ t : ByteArray, t.size = n ∧ e = .returned (.string t) ∧ Below B w w'
theorem Below.of_grown {B g : Nat} {w w' : World} (hg : w.grownBy w' (some g)) (hB : B ≤ g) (hw : B ≤ w.heap.size) : Below B w w' :=
  (Below.refl _ _).grown hg hw (fun k hk => by cases hk; exact hB)
/-- a call that returns some number of kind int and keeps all memory below block B -/
def IntOut (B : Nat) (w : World) (e : Ending) (w' : World) : Prop := ∃ r : Int, (Lit.int .i64 r).wf = true ∧ e = .returned (.int .i64 r) ∧ Below B w w'
set_option maxHeartbeats 400000 in
theorem numberOf (len cap : Nat) (A : Option Addr) (w : World) (hl : len ≤ 140737488355328) (hr : Rdb w w.heap.size A len) :
    Calls Tryd.prog 19 #[.slice A len cap] w (IntOut w.heap.size w) := by
  go_enter Tryd.func19, Tryd.ntmps19
  go_wp2_with fail
  refine (src_new len cap A _ hl).mono ?_
  rintro e w1 ⟨rfl, hs1, hb1⟩
  go_wp2_with fail
  refine (src_wide w.heap.size len cap 0 w.heap.size A _ hs1 (by omega) (hr.below hb1) (Nat.le_refl _) hb1.size).mono ?_
  rintro e w2 ⟨r, hwf, rfl, hs2, hg2⟩
  go_wp2
  go_ret
  exact ⟨r, hwf, rfl, hb1.trans (Below.of_grown hg2 (Nat.le_refl _) hb1.size)⟩
end Go.Proofs.YtbcbepdfijcbmaaDoor
