/-
  Facts for walks of laws whose calls answer memories: marks in a memory of its own, and what other memories hold behind them; no condition but those in each head.
-/
import Derived.Test.YtbkgmpkednkbcaaGreatDoorWalkMark
import Derived.Test.YtbkgmpkednkbcaaGreatDoorWalkOwn
import Derived.Deep.RegionHeld3
namespace Go.Proofs.YtbkgmpkednkbcaaGreatDoor
open Go.RowKit
theorem below_grownBy {W W' : World} (h : Below W.heap.size W W') (row : Option Nat) : W.grownBy W' row := ⟨h.os, h.tape, h.output, h.size, fun k hk _ => h.block k hk⟩
set_option maxHeartbeats 400000 in
theorem markEmpty (p : Option Addr) (cap : Nat) (w : World) : Calls Tryz.prog 44 #[.slice p 0 cap, .int .i64 1] w fun e w' => e = .returned (.int .i64 1) ∧ w' = w := by
  go_enter Tryz.func44, Tryz.ntmps44
  go_wp2
  refine wp_loop_rounds 1 ?_
  rw [rounds_succ]
  go_wp2
  go_ret
  exact ⟨rfl, rfl⟩
set_option maxHeartbeats 400000 in
theorem markEmptyM (p : Option Addr) (cap : Nat) (w : World) : Calls Tryz.prog 24 #[.agg #[.slice p 0 cap], .int .i64 1] w fun e w' => e = .returned (.int .i64 1) ∧ Below w.heap.size w w' := by
  have C := Lib.hid (fun w => markEmpty p cap w)
  have hb0 := below1 w (.cells #[.slice p 0 cap] 34)
  have HB := Lib.hid hb0
  clear hb0
  go_enter Tryz.func24, Tryz.ntmps24
  go_wp2_with fail
  refine (C.out _).mono ?_
  rintro e w1 ⟨rfl, rfl⟩
  go_wp2
  go_ret
  exact ⟨rfl, HB.out⟩
theorem mkd_nil (k : Nat) : mkd [] k = [] := rfl
theorem markAny (p : Option Addr) (cap B : Nat) (l : List Pg) (w : World) (hn : l.length ≤ 1048576) (ho : Owns w B p cap l) :
    Calls Tryz.prog 24 #[.agg #[.slice p l.length cap], .int .i64 1] w fun e w' => e = .returned (.int .i64 ((1 + 3 * l.length : Nat) : Int)) ∧ Owns w' B p cap (mkd l 1) ∧ w.grownBy w' (Value.slice p l.length cap).ownBlock := by
  by_cases h0 : l = []
  · subst h0
    refine (markEmptyM p cap w).mono ?_
    rintro e w' ⟨rfl, hb⟩
    exact ⟨rfl, own_below ho hb, below_grownBy hb _⟩
  · have hp : 0 < l.length := List.length_pos_iff.mpr h0
    obtain ⟨g, c', e⟩ := Joins.ownsRow_form ho hp
    cases e
    refine (markMemoryC g cap B l w hn ho).mono ?_
    rintro e w' ⟨rfl, ho', hg⟩
    refine ⟨rfl, ?_, hg⟩
    unfold Owns; rw [mkd_len]; exact ho'
/-- where a memory's pages lie -/
def Blk (p : Option Addr) (l : List Pg) (lo hi : Nat) : Prop := ∀ b o, p = some ⟨b, o, none⟩ → l ≠ [] → lo ≤ b ∧ b < hi
theorem owns_blk {W : World} {B : Nat} {p : Option Addr} {cap : Nat} {l : List Pg} (h : Owns W B p cap l) : Blk p l B W.heap.size := by
  rintro b o rfl _
  exact h.lt b rfl
theorem rd_blk {w : World} {p : Option Addr} {l : List Pg} (h : Rd w p l) : Blk p l 0 w.heap.size := by
  intro b o e hl
  cases l with
  | nil => exact absurd rfl hl
  | cons x l =>
    obtain ⟨b', o', e', hb, _⟩ := h 0 x rfl
    rw [e] at e'
    cases e'
    exact ⟨Nat.zero_le _, hb⟩
theorem Rd.grown {w w' : World} {p : Option Addr} {l : List Pg} {row : Option Nat} (h : Rd w p l) (hg : w.grownBy w' row) (hne : ∀ b o, p = some ⟨b, o, none⟩ → l ≠ [] → some b ≠ row) : Rd w' p l := by
  intro k x hk
  obtain ⟨b, o, rfl, h0, h1, h2, h3⟩ := h k x hk
  have hl : l ≠ [] := by intro e; rw [e] at hk; simp at hk
  have hb := hg.block b h0 (hne b o rfl hl)
  have hs := hg.size
  exact ⟨b, o, rfl, by omega, (World.cell?_of_block (a := ⟨b, _, none⟩) hb).trans h1, (World.cell?_of_block (a := ⟨b, _, none⟩) hb).trans h2, (World.cell?_of_block (a := ⟨b, _, none⟩) hb).trans h3⟩
theorem Bx.grown {w w' : World} {b : Nat} {p : Option Addr} {c : Nat} {l : List Pg} {row : Option Nat} (h : Bx w b p c l) (hg : w.grownBy w' row) (hb : some b ≠ row) (hne : ∀ b o, p = some ⟨b, o, none⟩ → l ≠ [] → some b ≠ row) : Bx w' b p c l :=
  ⟨by have := hg.size; have := h.1; omega, (World.cell?_of_block (a := ⟨b, 0, none⟩) (hg.block b h.1 hb)).trans h.2.1, h.2.2.grown hg hne⟩
theorem bgrown {w W W' : World} {row : Option Nat} (h : Below w.heap.size w W) (hg : W.grownBy W' row) (hr : ∀ k, row = some k → w.heap.size ≤ k) : Below w.heap.size w W' := h.grown hg h.size hr
/-- the block of a memory of its own -/
theorem own_row {W : World} {B : Nat} {p : Option Addr} {cap : Nat} {l : List Pg} (h : Owns W B p cap l) {k : Nat} (e : (Value.slice p l.length cap).ownBlock = some k) : B ≤ k ∧ k < W.heap.size := h.lt k e
theorem Owns.grown {W W' : World} {B : Nat} {p : Option Addr} {cap : Nat} {l : List Pg} {row : Option Nat} (h : Owns W B p cap l) (hg : W.grownBy W' row) (hne : (Value.slice p l.length cap).ownBlock = none ∨ (Value.slice p l.length cap).ownBlock ≠ row) : Owns W' B p cap l := by
  refine ⟨h.1, ?_⟩
  rcases h.2 with h' | ⟨g, c, cur, e1, e2, e3, e4⟩
  · exact .inl h'
  · refine .inr ⟨g, c, cur, e1, e2, (hg.block g (Array.getElem?_eq_some_iff.1 e3).1 ?_).trans e3, e4⟩
    intro e
    have : (Value.slice p l.length cap).ownBlock = some g := by rw [e1]; rfl
    rcases hne with h | h
    · rw [this] at h; cases h
    · exact h (this.trans e)
theorem Owns.below {W W' : World} {B : Nat} {p : Option Addr} {cap : Nat} {l : List Pg} (h : Owns W B p cap l) (hb : Below W.heap.size W W') : Owns W' B p cap l := own_below h hb
theorem keepC {w : World} {a1 a2 : Addr} {v1 v2 : Option Value} (h1 : w.cell? a1 = v1) (h2 : w.cell? a2 = v2) : w.drew.cell? a1 = v1 ∧ w.drew.cell? a2 = v2 := ⟨h1, h2⟩
theorem newBx {w : World} {p : Option Addr} {c : Nat} {l : List Pg} (t : TypeId) {B : Nat} (h : Owns w B p c l) : Bx (w.alloc (.cells #[.slice p l.length c] t)) w.heap.size p c l := Bx.new t (Rd.of_own h)
end Go.Proofs.YtbkgmpkednkbcaaGreatDoor
