/-
  More of the drawing functions: larger choices, words of four bytes, odd numbers, wide numbers, texts, and the choice that laws make of some bytes; each returns a value within its bounds and keeps all memory that was there; conditions: the bytes can be read, and few draws have been made.
-/
import Derived.Test.YtlijjbdhoooamaaDoorSrc
namespace Go.Proofs.YtlijjbdhoooamaaDoor
open Go.RowKit
theorem Src.mono {w : World} {g : Nat} {v : Value} {N M : Nat} (h : Src w g v N) (hM : N ≤ M) : Src w g v M := by
  obtain ⟨a, s, h1, h2, h3, h4, h5⟩ := h
  exact ⟨a, s, h1, h2, by omega, h4, h5⟩
theorem Drawn.weak {g : Nat} {v : Value} {N M : Nat} {lo hi lo' hi' : Int} {w w' : World} {e : Ending} (h : Drawn g v N lo hi w e w') (h1 : N ≤ M) (h2 : lo' ≤ lo) (h3 : hi ≤ hi') : Drawn g v M lo' hi' w e w' := by
  obtain ⟨r, a, b, c, d, f⟩ := h
  exact ⟨r, by omega, by omega, c, d.mono h1, f⟩
set_option maxHeartbeats 1000000 in
theorem src_nextBig (n : Int) (g len cap N B : Nat) (A : Option Addr) (w : World) (h : Src w g (.slice A len cap) N) (hN : N ≤ 900000) (hr : Rdb w B A len) (hB : B ≤ g) (hw : B ≤ w.heap.size) (n0 : 256 < n) (n1 : n ≤ 1000000) :
    Calls Tryd.prog 36 #[.pointer (some ⟨g, 0, none⟩), .int .i64 n] w (Drawn g (.slice A len cap) (N + 3) 0 (n - 1) w) := by
  have e1 : (n == 0) = false := beq_eq_false_iff_ne.mpr (by omega)
  go_enter Tryd.func36, Tryd.ntmps36
  go_wp2_with fail
  refine (src_byte g len cap N B A _ h (by omega) hr hB).mono ?_
  rintro e w1 ⟨r, r0, r1, rfl, hs1, hg1⟩
  have hr1 := hr.grown hg1 hB hw
  have hw1 := hg1.size
  go_wp2_with fail
  refine (src_byte g len cap (N + 1) B A _ hs1 (by omega) hr1 hB).mono ?_
  rintro e w2 ⟨r', r0', r1', rfl, hs2, hg2⟩
  have hr2 := hr1.grown hg2 hB (by omega)
  go_wp2_with fail
  refine (src_byte g len cap (N + 2) B A _ hs2 (by omega) hr2 hB).mono ?_
  rintro e w3 ⟨r'', r0'', r1'', rfl, hs3, hg3⟩
  go_wp2
  go_ret
  exact ⟨_, Int.emod_nonneg _ (by omega), by have := Int.emod_lt_of_pos (r * 65536 + r' * 256 + r'') (show 0 < n by omega); omega, rfl, hs3, grown_trans hg1 (grown_trans hg2 hg3)⟩
set_option maxHeartbeats 1000000 in
theorem src_word (g len cap N B : Nat) (A : Option Addr) (w : World) (h : Src w g (.slice A len cap) N) (hN : N ≤ 900000) (hr : Rdb w B A len) (hB : B ≤ g) (hw : B ≤ w.heap.size) :
    Calls Tryd.prog 37 #[.pointer (some ⟨g, 0, none⟩)] w (Drawn g (.slice A len cap) (N + 4) 0 4294967295 w) := by
  go_enter Tryd.func37, Tryd.ntmps37
  go_wp2_with fail
  refine (src_byte g len cap N B A _ h (by omega) hr hB).mono ?_
  rintro e w1 ⟨r, r0, r1, rfl, hs1, hg1⟩
  have hr1 := hr.grown hg1 hB hw
  have hw1 := hg1.size
  go_wp2_with fail
  refine (src_byte g len cap (N + 1) B A _ hs1 (by omega) hr1 hB).mono ?_
  rintro e w2 ⟨r', r0', r1', rfl, hs2, hg2⟩
  have hr2 := hr1.grown hg2 hB (by omega)
  have hw2 := hg2.size
  go_wp2_with fail
  refine (src_byte g len cap (N + 2) B A _ hs2 (by omega) hr2 hB).mono ?_
  rintro e w3 ⟨r'', r0'', r1'', rfl, hs3, hg3⟩
  have hr3 := hr2.grown hg3 hB (by omega)
  go_wp2_with fail
  refine (src_byte g len cap (N + 3) B A _ hs3 (by omega) hr3 hB).mono ?_
  rintro e w4 ⟨r3, r03, r13, rfl, hs4, hg4⟩
  go_wp2
  go_ret
  exact ⟨_, by omega, by omega, rfl, hs4, grown_trans hg1 (grown_trans hg2 (grown_trans hg3 hg4))⟩
theorem Src.lt {w : World} {g : Nat} {v : Value} {N : Nat} (h : Src w g v N) : g < w.heap.size := by
  obtain ⟨a, s, h1, _⟩ := h
  rcases Nat.lt_or_ge g w.heap.size with hlt | hge
  · exact hlt
  · rw [Array.getElem?_eq_none hge] at h1; cases h1
theorem Src.same {w w' : World} {g : Nat} {v : Value} {N : Nat} (h : Src w g v N) (hh : w'.heap[g]? = w.heap[g]?) : Src w' g v N := by
  obtain ⟨a, s, h1, h2⟩ := h
  exact ⟨a, s, hh.trans h1, h2⟩
theorem Src.alloc {w : World} {g : Nat} {v : Value} {N : Nat} (h : Src w g v N) (o : Obj) : Src (w.alloc o) g v N := h.same (Below.heap_alloc w o g h.lt)
theorem Rdb.alloc {w : World} {B : Nat} {A : Option Addr} {len : Nat} (h : Rdb w B A len) (hB : B ≤ w.heap.size) (o : Obj) : Rdb (w.alloc o) B A len := h.below ((Below.refl _ _).alloc hB o)
/-- a call that draws some number of kind int out of the source in block g -/
def DrawnInt (g : Nat) (v : Value) (N : Nat) (w : World) (e : Ending) (w' : World) : Prop :=
  ∃ r : Int, (Lit.int .i64 r).wf = true ∧ e = .returned (.int .i64 r) ∧ Src w' g v N ∧ w.grownBy w' (some g)
def oddRow : Array Value := #[.int .i64 0, .int .i64 (-1), .int .i64 1, .int .i64 2, .int .i64 31, .int .i64 32, .int .i64 33, .int .i64 255, .int .i64 256, .int .i64 4095, .int .i64 4096, .int .i64 16384, .int .i64 9223372036854775807, .int .i64 (-9223372036854775808), .int .i64 30]
theorem oddRow_at : ∀ i : Nat, i < 15 → ∃ v : Int, oddRow[i]? = some (.int .i64 v) ∧ (Lit.int .i64 v).wf = true
  | 0, _ => ⟨_, rfl, by decide⟩ | 1, _ => ⟨_, rfl, by decide⟩ | 2, _ => ⟨_, rfl, by decide⟩ | 3, _ => ⟨_, rfl, by decide⟩ | 4, _ => ⟨_, rfl, by decide⟩ | 5, _ => ⟨_, rfl, by decide⟩ | 6, _ => ⟨_, rfl, by decide⟩ | 7, _ => ⟨_, rfl, by decide⟩
  | 8, _ => ⟨_, rfl, by decide⟩ | 9, _ => ⟨_, rfl, by decide⟩ | 10, _ => ⟨_, rfl, by decide⟩ | 11, _ => ⟨_, rfl, by decide⟩ | 12, _ => ⟨_, rfl, by decide⟩ | 13, _ => ⟨_, rfl, by decide⟩ | 14, _ => ⟨_, rfl, by decide⟩
  | n + 15, h => by omega
set_option maxHeartbeats 1000000 in
theorem src_odd (g len cap N B : Nat) (A : Option Addr) (w : World) (h : Src w g (.slice A len cap) N) (hN : N ≤ 900000) (hr : Rdb w B A len) (hB : B ≤ g) (hw : B ≤ w.heap.size) :
    Calls Tryd.prog 38 #[.pointer (some ⟨g, 0, none⟩)] w (DrawnInt g (.slice A len cap) (N + 1) w) := by
  go_enter Tryd.func38, Tryd.ntmps38
  go_wp2_with fail
  refine (src_next 15 g len cap N B A _ (h.alloc _) (by omega) (hr.alloc hw _) hB (by omega) (by omega)).mono ?_
  rintro e w1 ⟨r, r0, r1, rfl, hs1, hg1⟩
  obtain ⟨i, rfl⟩ := Int.eq_ofNat_of_zero_le r0
  obtain ⟨v, hv, hwf⟩ := oddRow_at i (by omega)
  have hlt := h.lt
  have hc : w1.cell? ⟨w.heap.size, i, none⟩ = some (.int .i64 v) := by
    rw [hg1.cell_far ⟨w.heap.size, i, none⟩ (by simp) (by simp; omega)]
    rw [blk_cell (heap_alloc_new w _) i]; exact hv
  have HV := Lib.hid hv; clear hv
  have hi15 : (i : Int) < 15 := by omega
  go_wp2
  go_ret
  exact ⟨v, hwf, rfl, hs1, grown_trans (World.grownBy_alloc w _ _) hg1⟩
end Go.Proofs.YtlijjbdhoooamaaDoor
