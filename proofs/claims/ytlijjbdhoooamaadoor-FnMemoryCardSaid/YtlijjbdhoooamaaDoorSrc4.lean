/-
  What drawing a chance and a text does, the source kept; conditions: the bytes can be read, and few draws have been made.
-/
import Derived.Test.YtlijjbdhoooamaaDoorSrc3
import Derived.Lib.Hide
namespace Go.Proofs.YtlijjbdhoooamaaDoor
open Go.RowKit
set_option linter.unusedVariables false
set_option linter.unusedSimpArgs false
set_option maxHeartbeats 1000000 in
theorem src_chance (n : Int) (g len cap N B : Nat) (A : Option Addr) (w : World) (h : Src w g (.slice A len cap) N) (hN : N ≤ 1000000) (hr : Rdb w B A len) (hB : B ≤ g) (n0 : 1 < n) (n1 : n ≤ 256) :
    Calls Tryd.prog 34 #[.pointer (some ⟨g, 0, none⟩), .int .i64 n] w fun e w' => ∃ b : Bool, e = .returned (.bool b) ∧ Src w' g (.slice A len cap) (N + 1) ∧ w.grownBy w' (some g) := by
  go_enter Tryd.func34, Tryd.ntmps34
  go_wp2_with fail
  refine (src_next n g len cap N B A _ h hN hr hB n0 n1).mono ?_
  rintro e w1 ⟨r, r0, r1, rfl, hs, hg⟩
  go_wp2
  go_ret
  exact ⟨_, rfl, hs, hg⟩
/-- a call that makes a text of n bytes, draws n bytes and keeps all memory but the source -/
def TextS (g : Nat) (v : Value) (N n : Nat) (w : World) (e : Ending) (w' : World) : Prop := ∃ t : ByteArray, t.size = n ∧ e = .returned (.string t) ∧ Src w' g v (N + n) ∧ w.grownBy w' (some g)
theorem grown_app {w wr w1 w2 : World} {g : Nat} {row : Option Nat} {o : Obj} (h : w.grownBy wr (some g)) (h1 : wr.grownBy w1 (some g)) (h2 : (w1.alloc o).grownBy w2 row) (hr : ∀ k, row = some k → w.heap.size ≤ k) : w.grownBy w2 (some g) := by
  refine ⟨h2.os.trans (h1.os.trans h.os), h2.tape.trans (h1.tape.trans h.tape), h2.output.trans (h1.output.trans h.output), ?_, fun k hk hne => ?_⟩
  · have := h.size; have := h1.size; have := h2.size; simp at this; omega
  · have e1 := h.block k hk hne
    have e2 := h1.block k (Nat.lt_of_lt_of_le hk h.size) hne
    have hk1 : k < w1.heap.size := Nat.lt_of_lt_of_le hk (Nat.le_trans h.size h1.size)
    have e3 := h2.block k (by simp; omega) (fun e => by have := hr k e.symm; omega)
    exact e3.trans ((Below.heap_alloc w1 o k hk1).trans (e2.trans e1))
set_option maxHeartbeats 1000000 in
theorem src_someS (n g len cap N B : Nat) (A : Option Addr) (w : World) (h : Src w g (.slice A len cap) N) (hN : N ≤ 400000) (hr : Rdb w B A len) (hB : B ≤ g) (hn : n ≤ 400000) :
    Calls Tryd.prog 35 #[.pointer (some ⟨g, 0, none⟩), .int .i64 (n : Int)] w (TextS g (.slice A len cap) N n w) := by
  obtain ⟨i0, hi, hz0, hz1, hz2⟩ := info_parts infoB
  have hlt := h.lt
  go_enter Tryd.func35, Tryd.ntmps35
  go_wp2
  go_loopw [5, 6] (fun v i wr => ∃ (k g' cap' : Nat) (l : List UInt8), k ≤ n ∧ i = .int .i64 k ∧ v = .slice (some ⟨g', 0, none⟩) k cap' ∧ wr.ownsRow w.heap.size 5 1 (.slice (some ⟨g', 0, none⟩) k cap') k (BV l) ∧ Src wr g (.slice A len cap) (N + k) ∧ Rdb wr B A len ∧ w.grownBy wr (some g) ∧ w.heap.size ≤ wr.heap.size) (fun _ i _ => n - (intOf i).toNat)
  case atStart =>
    exact ⟨0, w.heap.size, 0, [], Nat.zero_le _, rfl, rfl, World.ownsRow_made w #[] 0 (Nat.le_refl _) (Nat.zero_le _) rfl, h.alloc _, hr.alloc (by omega) _, World.grownBy_alloc _ _ _, by simp⟩
  case round =>
    obtain ⟨k, g', cap', l, hk, rfl, rfl, hown, hsr, hrr, hbr, hsz⟩ := hrel
    by_cases hlt2 : k < n
    · have hlt3 : (k : Int) < n := by omega
      have hm1 : k + 1 ≤ maxLen := by unfold maxLen; omega
      have hb1 : (k + 1) * 1 ≤ 140737488355328 := by omega
      go_wp2_with fail
      refine (src_byte g len cap (N + k) B A _ hsr (by omega) hrr hB).mono ?_
      rintro e w1 ⟨r, r0, r1, rfl, hs1, hg1⟩
      have hown1 := hown.kept hg1 (.inr (by have := (hown.lt g' rfl).1; simp [Value.ownBlock]; omega))
      have hr1 := hrr.grown hg1 hB (by omega)
      have hsz1 := hg1.size
      obtain ⟨b, hbv⟩ : ∃ b : UInt8, (b.toNat : Int) = r := ⟨UInt8.ofNat r.toNat, by rw [UInt8.toNat_ofNat']; omega⟩
      have hbw : IntKind.u8.wrap r = (b.toNat : Int) := by rw [hbv, IntKind.wrap_u8]; omega
      have HBV := Lib.hid hbv; clear hbv
      go_wp2_with (at_builtin; refine wpList_append_lies _ rfl _ _ _ rfl w.heap.size 5 i0 (.int .u8 0) 1 1 Tryd.underlying22 hi hz0 hz1 hz2 rfl (by omega) _ k (BV l) rfl (hown1.alloc _) ⟨w1.heap.size, 0, none⟩ 1 1 (BV [b]) rfl rfl (news1' _ _) (BV_one _) (by omega) hm1 hb1 (by simp; omega) (w1.heap.size + 1) (by simp) ?_; intro g2 cap2 w2 hown2 hgrow hat hlt1)
      rw [BV_app] at hown2
      have hgb := (hown.lt g' rfl).1
      have hs2 : Src w2 g (.slice A len cap) (N + k + 1) := (hs1.alloc _).same (hgrow.block g (by have := hs1.lt; simp; omega) (fun e => by have := (hown.lt g e.symm).1; omega))
      have hbw2 : w.grownBy w2 (some g) := grown_app hbr hg1 hgrow (fun q hq => (hown.lt q hq).1)
      have hrd2 : Rdb w2 B A len := (hr1.alloc (by omega) _).below ((Below.refl _ _).grown hgrow (by simp; omega) (fun q hq => by have := (hown.lt q hq).1; omega))
      have hsz2 := hgrow.size
      simp only [World.size_alloc] at hsz2
      clear hbw hown hown1 hsr hs1 hrr hr1 hbr hgrow hat hlt1 hm1 hb1 hg1
      go_wp2
      go_roundw
      case rel => exact ⟨k + 1, g2, cap2, l ++ [b], by omega, by go_num, rfl, hown2, hs2, hrd2, hbw2, by omega⟩
      case measure => simp [intOf]; omega
    · have hconv := str_own hown
      have hll := own_len hown
      have HLL := Lib.hid hll; clear hll
      go_wp2
      go_ret
      exact ⟨⟨l.toArray⟩, by have := HLL.out; simp [ByteArray.size, this]; omega, rfl, (by rw [show N + n = N + k by omega]; exact hsr), hbr⟩
/-- the pages that memory draws from -/
def pgL : List (Int × Int) := [(4096, 3), (16640, 4), (16896, 5), (17152, 5), (17408, 3), (17664, 3), (17920, 1), (20224, 3)]
end Go.Proofs.YtlijjbdhoooamaaDoor
