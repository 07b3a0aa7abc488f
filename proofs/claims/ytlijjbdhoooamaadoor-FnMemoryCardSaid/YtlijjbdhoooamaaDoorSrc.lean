/-
  What the drawing functions of package spec do (a source of choices out of bytes, a drawn byte, number, text): each returns a value within its bounds, keeps all memory that was there but the source's own block, and never fails; conditions: the bytes can be read, and few draws have been made.
-/
import Derived.Test.YtlijjbdhoooamaaDoorBytes
import Derived.Deep.QuietTactic
import Derived.BigQuiet
import Derived.BigRegion
namespace Go.Proofs.YtlijjbdhoooamaaDoor
open Go.RowKit
/-- block g holds the source over the slice value v; at most N bytes have been drawn -/
def Src (w : World) (g : Nat) (v : Value) (N : Nat) : Prop :=
  ∃ at0 seed : Int, w.heap[g]? = some (.cells #[v, .int .i64 at0, .int .i64 seed] 67 (0, 0)) ∧ 0 ≤ at0 ∧ at0 ≤ N ∧ 0 ≤ seed ∧ seed < 2147483648
/-- the bytes of a slice value can be read, below block B -/
def Rdb (w : World) (B : Nat) (A : Option Addr) (len : Nat) : Prop :=
  0 < len → ∃ b off, A = some ⟨b, off, none⟩ ∧ b < B ∧ ∀ j, j < len → ∃ z : Int, w.cell? ⟨b, off + j, none⟩ = some (.int .u8 z) ∧ 0 ≤ z ∧ z ≤ 255
theorem Rdb.grown {w w' : World} {B g : Nat} {A : Option Addr} {len : Nat} (h : Rdb w B A len) (hg : w.grownBy w' (some g)) (hB : B ≤ g) (hB2 : B ≤ w.heap.size) : Rdb w' B A len := by
  intro hl
  obtain ⟨b, off, rfl, hb, hc⟩ := h hl
  refine ⟨b, off, rfl, hb, fun j hj => ?_⟩
  obtain ⟨z, hz, h1, h2⟩ := hc j hj
  exact ⟨z, by rw [hg.cell_far ⟨b, off + j, none⟩ (by simp; omega) (by simp; omega)]; exact hz, h1, h2⟩
theorem Rdb.below {w w' : World} {B : Nat} {A : Option Addr} {len : Nat} (h : Rdb w B A len) (hb : Below B w w') : Rdb w' B A len := by
  intro hl
  obtain ⟨b, off, rfl, hb', hc⟩ := h hl
  refine ⟨b, off, rfl, hb', fun j hj => ?_⟩
  obtain ⟨z, hz, h1, h2⟩ := hc j hj
  exact ⟨z, by rw [hb.cell (p := ⟨b, off + j, none⟩) hb']; exact hz, h1, h2⟩
theorem grown_of_heap {w w' : World} {g : Nat} {a b : Nat} {u v : Value} (hh : w'.heap = ((w.setCell ⟨g, a, none⟩ u).setCell ⟨g, b, none⟩ v).heap) (ho : w'.os = w.os) (ht : w'.tape = w.tape) (hp : w'.output = w.output) : w.grownBy w' (some g) := by
  refine ⟨ho, ht, hp, by rw [hh]; simp [World.setCell], fun k hk hne => ?_⟩
  have hne' : k ≠ g := fun e => hne (by rw [e])
  rw [hh, Below.heap_setCell _ _ _ _ (by simpa using hne'), Below.heap_setCell _ _ _ _ (by simpa using hne')]
theorem grown_of_heap1 {w w' : World} {g : Nat} {a : Nat} {u : Value} (hh : w'.heap = (w.setCell ⟨g, a, none⟩ u).heap) (ho : w'.os = w.os) (ht : w'.tape = w.tape) (hp : w'.output = w.output) : w.grownBy w' (some g) := by
  refine ⟨ho, ht, hp, by rw [hh]; simp [World.setCell], fun k hk hne => ?_⟩
  have hne' : k ≠ g := fun e => hne (by rw [e])
  rw [hh, Below.heap_setCell _ _ _ _ (by simpa using hne')]
theorem blk_set {w : World} {g : Nat} {t : TypeId} {cs : Array Value} (h : w.heap[g]? = some (.cells cs t (0, 0))) (i : Nat) (u : Value) : (w.setCell ⟨g, i, none⟩ u).heap[g]? = some (.cells (cs.setIfInBounds i u) t (0, 0)) := by
  simp [World.setCell, Array.getElem?_modify, h]
theorem blk_cell {w : World} {g : Nat} {t : TypeId} {cs : Array Value} (h : w.heap[g]? = some (.cells cs t (0, 0))) (i : Nat) : w.cell? ⟨g, i, none⟩ = cs[i]? := cell_of_row w g i cs t (0, 0) h
theorem blk_free {w : World} {g : Nat} {t : TypeId} {cs : Array Value} (h : w.heap[g]? = some (.cells cs t (0, 0))) (i : Nat) : w.frozen? ⟨g, i, none⟩ = false := by simp [World.frozen?, h]
set_option maxHeartbeats 1000000 in
theorem byte_in (g b off len cap : Nat) (at0 seed z : Int) (w : World) (h0 : w.cell? ⟨g, 0, none⟩ = some (.slice (some ⟨b, off, none⟩) len cap)) (h1 : w.cell? ⟨g, 1, none⟩ = some (.int .i64 at0)) (h2 : w.cell? ⟨g, 2, none⟩ = some (.int .i64 seed))
    (f1 : w.frozen? ⟨g, 1, none⟩ = false) (f2 : w.frozen? ⟨g, 2, none⟩ = false) (hne : b ≠ g) (a0 : 0 ≤ at0) (a1 : at0 ≤ 1000000) (s0 : 0 ≤ seed) (s1 : seed < 2147483648)
    (hlt : at0 + 1 ≤ len) (hz : w.cell? ⟨b, off + at0.toNat, none⟩ = some (.int .u8 z)) (z0 : 0 ≤ z) (z1 : z ≤ 255) :
    Calls Tryd.prog 57 #[.pointer (some ⟨g, 0, none⟩)] w fun e w' => e = .returned (.int .i64 z) ∧ w'.heap = ((w.setCell ⟨g, 1, none⟩ (.int .i64 (at0 + 1))).setCell ⟨g, 2, none⟩ (.int .i64 ((seed * 31 + z + 7) % 2147483648))).heap ∧ w'.os = w.os ∧ w'.tape = w.tape ∧ w'.output = w.output := by
  have k0 : (w.setCell ⟨g, 1, none⟩ (.int .i64 (at0 + 1))).cell? ⟨g, 0, none⟩ = some (.slice (some ⟨b, off, none⟩) len cap) := by rw [World.cell?_setCell_other _ _ _ _ (by simp)]; exact h0
  have k1 : (w.setCell ⟨g, 1, none⟩ (.int .i64 (at0 + 1))).cell? ⟨g, 1, none⟩ = some (.int .i64 (at0 + 1)) := World.cell?_setCell_same _ _ _ h1
  have k2 : (w.setCell ⟨g, 1, none⟩ (.int .i64 (at0 + 1))).cell? ⟨g, 2, none⟩ = some (.int .i64 seed) := by rw [World.cell?_setCell_other _ _ _ _ (by simp)]; exact h2
  have kz : (w.setCell ⟨g, 1, none⟩ (.int .i64 (at0 + 1))).cell? ⟨b, off + at0.toNat, none⟩ = some (.int .u8 z) := by rw [World.cell?_setCell_other _ _ _ _ (by simp)]; exact hz
  have kf : (w.setCell ⟨g, 1, none⟩ (.int .i64 (at0 + 1))).frozen? ⟨g, 2, none⟩ = false := by rw [World.frozen?_setCell]; exact f2
  have o1 : (w.setCell ⟨g, 1, none⟩ (.int .i64 (at0 + 1))).os = w.os := rfl
  have o2 : (w.setCell ⟨g, 1, none⟩ (.int .i64 (at0 + 1))).tape = w.tape := rfl
  have o3 : (w.setCell ⟨g, 1, none⟩ (.int .i64 (at0 + 1))).output = w.output := rfl
  go_enter Tryd.func57, Tryd.ntmps57
  go_wp2
  go_quiet (fail)
  go_wp2
  have e1 : (at0 + 1 - 1) = at0 := by omega
  generalize hw1 : w.setCell ⟨g, 1, none⟩ (.int .i64 (at0 + 1)) = w1 at *
  clear h0 h1 h2 f1 f2 hz
  obtain ⟨X, hX⟩ : ∃ X : Value, X = .int .i64 ((seed * 31 + z + 7) % 2147483648) := ⟨_, rfl⟩
  have q0 : ∀ n, ((w1.drewN n).setCell ⟨g, 2, none⟩ X).cell? ⟨g, 0, none⟩ = some (.slice (some ⟨b, off, none⟩) len cap) := fun n => by rw [World.cell?_setCell_other _ _ _ _ (by simp)]; exact k0
  have q1 : ∀ n, ((w1.drewN n).setCell ⟨g, 2, none⟩ X).cell? ⟨g, 1, none⟩ = some (.int .i64 (at0 + 1)) := fun n => by rw [World.cell?_setCell_other _ _ _ _ (by simp)]; exact k1
  have qz : ∀ n, ((w1.drewN n).setCell ⟨g, 2, none⟩ X).cell? ⟨b, off + at0.toNat, none⟩ = some (.int .u8 z) := fun n => by rw [World.cell?_setCell_other _ _ _ _ (by simp)]; exact kz
  rw [hX] at q0 q1 qz
  have Q0 := Lib.hid q0; have Q1 := Lib.hid q1; have QZ := Lib.hid qz
  have HW := Lib.hid hw1
  clear q0 q1 qz hX hw1
  have O1 := Lib.hid o1; have O2 := Lib.hid o2; have O3 := Lib.hid o3
  clear o1 o2 o3
  go_region
  all_goals
    clear k0 k1 k2 kz kf
    have q0 := Q0.out; have q1 := Q1.out; have qz := QZ.out
    go_wp2
    go_quiet (fail)
    go_wp2
    go_ret
    exact ⟨rfl, by rw [HW.out]; rfl, O1.out, O2.out, O3.out⟩
set_option maxHeartbeats 1000000 in
theorem byte_end (g len cap : Nat) (A : Option Addr) (at0 : Int) (w : World) (h0 : w.cell? ⟨g, 0, none⟩ = some (.slice A len cap)) (h1 : w.cell? ⟨g, 1, none⟩ = some (.int .i64 at0))
    (f1 : w.frozen? ⟨g, 1, none⟩ = false) (a0 : 0 ≤ at0) (a1 : at0 ≤ 1000000) (hlt : (len : Int) < at0 + 1) (h3 : 3000 < at0 + 1) :
    Calls Tryd.prog 57 #[.pointer (some ⟨g, 0, none⟩)] w fun e w' => e = .returned (.int .i64 0) ∧ w'.heap = (w.setCell ⟨g, 1, none⟩ (.int .i64 (at0 + 1))).heap ∧ w'.os = w.os ∧ w'.tape = w.tape ∧ w'.output = w.output := by
  have k0 : (w.setCell ⟨g, 1, none⟩ (.int .i64 (at0 + 1))).cell? ⟨g, 0, none⟩ = some (.slice A len cap) := by rw [World.cell?_setCell_other _ _ _ _ (by simp)]; exact h0
  have k1 : (w.setCell ⟨g, 1, none⟩ (.int .i64 (at0 + 1))).cell? ⟨g, 1, none⟩ = some (.int .i64 (at0 + 1)) := World.cell?_setCell_same _ _ _ h1
  go_enter Tryd.func57, Tryd.ntmps57
  go_wp2
  go_quiet (fail)
  go_wp2
  go_ret
  exact ⟨rfl, rfl, rfl, rfl, rfl⟩
set_option maxHeartbeats 1000000 in
theorem byte_mid (g len cap : Nat) (A : Option Addr) (at0 seed : Int) (w : World) (h0 : w.cell? ⟨g, 0, none⟩ = some (.slice A len cap)) (h1 : w.cell? ⟨g, 1, none⟩ = some (.int .i64 at0)) (h2 : w.cell? ⟨g, 2, none⟩ = some (.int .i64 seed))
    (f1 : w.frozen? ⟨g, 1, none⟩ = false) (f2 : w.frozen? ⟨g, 2, none⟩ = false) (a0 : 0 ≤ at0) (a1 : at0 ≤ 1000000) (s0 : 0 ≤ seed) (s1 : seed < 2147483648) (hlt : (len : Int) < at0 + 1) (h3 : at0 + 1 ≤ 3000) :
    Calls Tryd.prog 57 #[.pointer (some ⟨g, 0, none⟩)] w fun e w' => e = .returned (.int .i64 ((seed * 1103515245 + 12345) % 2147483648 / 65536 % 256)) ∧ w'.heap = ((w.setCell ⟨g, 1, none⟩ (.int .i64 (at0 + 1))).setCell ⟨g, 2, none⟩ (.int .i64 ((seed * 1103515245 + 12345) % 2147483648))).heap ∧ w'.os = w.os ∧ w'.tape = w.tape ∧ w'.output = w.output := by
  have k0 : (w.setCell ⟨g, 1, none⟩ (.int .i64 (at0 + 1))).cell? ⟨g, 0, none⟩ = some (.slice A len cap) := by rw [World.cell?_setCell_other _ _ _ _ (by simp)]; exact h0
  have k1 : (w.setCell ⟨g, 1, none⟩ (.int .i64 (at0 + 1))).cell? ⟨g, 1, none⟩ = some (.int .i64 (at0 + 1)) := World.cell?_setCell_same _ _ _ h1
  have k2 : (w.setCell ⟨g, 1, none⟩ (.int .i64 (at0 + 1))).cell? ⟨g, 2, none⟩ = some (.int .i64 seed) := by rw [World.cell?_setCell_other _ _ _ _ (by simp)]; exact h2
  have kf : (w.setCell ⟨g, 1, none⟩ (.int .i64 (at0 + 1))).frozen? ⟨g, 2, none⟩ = false := by rw [World.frozen?_setCell]; exact f2
  go_enter Tryd.func57, Tryd.ntmps57
  go_wp2
  go_quiet (fail)
  go_wp2
  go_ret
  exact ⟨rfl, rfl, rfl, rfl, rfl⟩
/-- a call that draws a number from lo to hi out of the source in block g -/
def Drawn (g : Nat) (v : Value) (N : Nat) (lo hi : Int) (w : World) (e : Ending) (w' : World) : Prop :=
  ∃ r : Int, lo ≤ r ∧ r ≤ hi ∧ e = .returned (.int .i64 r) ∧ Src w' g v N ∧ w.grownBy w' (some g)
theorem grown_trans {w w1 w2 : World} {row : Option Nat} (h1 : w.grownBy w1 row) (h2 : w1.grownBy w2 row) : w.grownBy w2 row :=
  ⟨h2.os.trans h1.os, h2.tape.trans h1.tape, h2.output.trans h1.output, Nat.le_trans h1.size h2.size, fun k hk hne => (h2.block k (Nat.lt_of_lt_of_le hk h1.size) hne).trans (h1.block k hk hne)⟩
theorem src_byte (g len cap N B : Nat) (A : Option Addr) (w : World) (h : Src w g (.slice A len cap) N) (hN : N ≤ 1000000) (hr : Rdb w B A len) (hB : B ≤ g) :
    Calls Tryd.prog 57 #[.pointer (some ⟨g, 0, none⟩)] w (Drawn g (.slice A len cap) (N + 1) 0 255 w) := by
  obtain ⟨at0, seed, hb, a0, a1, s0, s1⟩ := h
  have h0 : w.cell? ⟨g, 0, none⟩ = some (.slice A len cap) := blk_cell hb 0
  have h1 : w.cell? ⟨g, 1, none⟩ = some (.int .i64 at0) := blk_cell hb 1
  have h2 : w.cell? ⟨g, 2, none⟩ = some (.int .i64 seed) := blk_cell hb 2
  have f1 := blk_free hb 1
  have f2 := blk_free hb 2
  by_cases hlt : at0 + 1 ≤ len
  · obtain ⟨b, off, rfl, hbB, hc⟩ := hr (by omega)
    obtain ⟨z, hz, z0, z1⟩ := hc at0.toNat (by omega)
    refine (byte_in g b off len cap at0 seed z w h0 h1 h2 f1 f2 (by omega) a0 (by omega) s0 s1 hlt hz z0 z1).mono fun e w' ⟨he, hh, ho, ht, hp⟩ => ?_
    refine ⟨z, z0, z1, he, ⟨at0 + 1, (seed * 31 + z + 7) % 2147483648, ?_, by omega, by omega, ?_, ?_⟩, grown_of_heap hh ho ht hp⟩
    · rw [hh, blk_set (blk_set hb 1 _) 2 _]; rfl
    · exact Int.emod_nonneg _ (by decide)
    · exact Int.emod_lt_of_pos _ (by decide)
  · by_cases h3 : 3000 < at0 + 1
    · refine (byte_end g len cap A at0 w h0 h1 f1 a0 (by omega) (by omega) h3).mono fun e w' ⟨he, hh, ho, ht, hp⟩ => ?_
      refine ⟨0, by omega, by omega, he, ⟨at0 + 1, seed, ?_, by omega, by omega, s0, s1⟩, grown_of_heap1 hh ho ht hp⟩
      rw [hh, blk_set hb 1 _]; rfl
    · refine (byte_mid g len cap A at0 seed w h0 h1 h2 f1 f2 a0 (by omega) s0 s1 (by omega) (by omega)).mono fun e w' ⟨he, hh, ho, ht, hp⟩ => ?_
      refine ⟨_, ?_, ?_, he, ⟨at0 + 1, (seed * 1103515245 + 12345) % 2147483648, ?_, by omega, by omega, ?_, ?_⟩, grown_of_heap hh ho ht hp⟩
      · exact Int.emod_nonneg _ (by decide)
      · have := Int.emod_lt_of_pos ((seed * 1103515245 + 12345) % 2147483648 / 65536) (show (0 : Int) < 256 by decide); omega
      · rw [hh, blk_set (blk_set hb 1 _) 2 _]; rfl
      · exact Int.emod_nonneg _ (by decide)
      · exact Int.emod_lt_of_pos _ (by decide)
set_option maxHeartbeats 400000 in
theorem src_next (n : Int) (g len cap N B : Nat) (A : Option Addr) (w : World) (h : Src w g (.slice A len cap) N) (hN : N ≤ 1000000) (hr : Rdb w B A len) (hB : B ≤ g) (n0 : 1 < n) (n1 : n ≤ 256) :
    Calls Tryd.prog 36 #[.pointer (some ⟨g, 0, none⟩), .int .i64 n] w (Drawn g (.slice A len cap) (N + 1) 0 (n - 1) w) := by
  go_enter Tryd.func36, Tryd.ntmps36
  go_wp2_with fail
  refine (src_byte g len cap N B A _ h hN hr hB).mono ?_
  rintro e w1 ⟨r, r0, r1, rfl, hs1, hg1⟩
  have e1 : (n == 0) = false := beq_eq_false_iff_ne.mpr (by omega)
  go_wp2
  go_ret
  exact ⟨_, Int.emod_nonneg _ (by omega), by have := Int.emod_lt_of_pos r (show 0 < n by omega); omega, rfl, hs1, hg1⟩
end Go.Proofs.YtlijjbdhoooamaaDoor
