/-
  What the law's helpers over lists of ints do (eqIntS, markIntS, heldIntS); conditions: those in each head.
-/
import Derived.Test.YtcnmklgcifdmoaaProg
import Derived.WalkKit
import Derived.OwnWalk
import Derived.Lib.Hide
import Derived.Lib.SmallJoins
namespace Go.Proofs.Ytcnmklgcifdmoaa
open Go.RowKit
set_option linter.unusedVariables false
set_option linter.unusedSimpArgs false
/-- the slice that begins at p holds the ints L -/
def RdZ (w : World) (p : Option Addr) (L : List Int) : Prop := ∀ k z, L[k]? = some z → ∃ b, p = some ⟨b, 0, none⟩ ∧ b < w.heap.size ∧ w.cell? ⟨b, k, none⟩ = some (.int .i64 z)
theorem RdZ.kept {w w' : World} {p : Option Addr} {L : List Int} (h : RdZ w p L) (hk : ∀ b, p = some ⟨b, 0, none⟩ → b < w.heap.size → w'.heap[b]? = w.heap[b]?) (hs : w.heap.size ≤ w'.heap.size) : RdZ w' p L := by
  intro k z hz
  obtain ⟨b, e, hb, hc⟩ := h k z hz
  have := hk b e hb
  exact ⟨b, e, by omega, by rw [← hc]; exact World.cell?_of_block (w := w) (a := ⟨b, k, none⟩) this⟩
theorem RdZ.below {w w' : World} {p : Option Addr} {L : List Int} (h : RdZ w p L) (hb : Below w.heap.size w w') : RdZ w' p L := h.kept (fun b _ hlt => hb.block b hlt) hb.size
theorem rdZ_own {w : World} {B n : Nat} {e : TypeId} {p : Option Addr} {c : Nat} {L : List Int} (h : w.ownsRow B e 1 (.slice p n c) n (L.map (fun i => .int .i64 i))) : RdZ w p L := by
  intro k z hz
  have hk : k < L.length := (List.getElem?_eq_some_iff.1 hz).1
  have hl := h.1
  rw [List.length_map] at hl
  rcases h.2 with ⟨_, h0⟩ | ⟨g, cap, cur, e1, _, h3, _⟩
  · omega
  · cases e1
    have hlt : g < w.heap.size := by
      rcases Nat.lt_or_ge g w.heap.size with h' | h'
      · exact h'
      · rw [Array.getElem?_eq_none h'] at h3; cases h3
    exact ⟨g, rfl, hlt, by rw [h.cellAt k (by omega), List.getElem?_map, hz]; rfl⟩
set_option maxHeartbeats 2000000 in
theorem eqIntsC (p q : Option Addr) (c d : Nat) (L : List Int) (w : World) (h1 : RdZ w p L) (h2 : RdZ w q L) (hm : L.length ≤ maxLen) :
    Calls Try.prog 64 #[.slice p L.length c, .slice q L.length d] w fun e w' => e = .returned (.bool true) ∧ Below w.heap.size w w' := by
  have H1 := Lib.hid h1; have H2 := Lib.hid h2
  unfold maxLen at hm
  clear h1 h2
  go_enter Try.func64, Try.ntmps64
  go_wp2
  go_loopw [5] (fun i wr => ∃ k : Nat, i = .int .i64 (k : Int) ∧ k ≤ L.length ∧ Hid (Below w.heap.size w wr)) (fun i _ => L.length - (intOf i).toNat)
  case atStart => exact ⟨0, rfl, Nat.zero_le _, Lib.hid (Below.refl _ _)⟩
  case round =>
    obtain ⟨k, rfl, hk, HB⟩ := hrel
    by_cases hlt : k < L.length
    · have hk' : (k : Int) < (L.length : Int) := by omega
      obtain ⟨z, hz⟩ : ∃ z, L[k]? = some z := ⟨_, List.getElem?_eq_getElem hlt⟩
      obtain ⟨a, rfl, ha, ca⟩ := (H1.out.below HB.out) k z hz
      obtain ⟨b, rfl, hb, cb⟩ := (H2.out.below HB.out) k z hz
      clear hz ha hb
      go_wp2
      go_region
      go_wp2
      go_roundw
      case rel => exact ⟨k + 1, by go_num, by omega, Lib.hid HB.out.drew⟩
      case measure => simp [intOf]; omega
    · obtain rfl : k = L.length := by omega
      go_wp2
      go_ret
      exact ⟨rfl, HB.out⟩
/-- block g holds the marks 1, 2, .. at its first n cells -/
def Mk (w : World) (g n : Nat) : Prop := ∀ j, j < n → w.cell? ⟨g, j, none⟩ = some (.int .i64 ((j : Int) + 1))
/-- a block of ints that may be written -/
def Wz (w : World) (g n : Nat) : Prop := g < w.heap.size ∧ ∀ j, j < n → (∃ z : Int, w.cell? ⟨g, j, none⟩ = some (.int .i64 z)) ∧ w.frozen? ⟨g, j, none⟩ = false
theorem World.grownBy_setCell (w : World) (a : Addr) (v : Value) : w.grownBy (w.setCell a v) (some a.block) :=
  ⟨rfl, rfl, rfl, by simp [World.setCell], fun k hk hne => Below.heap_setCell _ _ _ _ (fun e => hne (by rw [e]))⟩
theorem Wz.set {w : World} {g n k : Nat} {v : Int} (h : Wz w g n) : Wz (w.setCell ⟨g, k, none⟩ (.int .i64 v)) g n := by
  refine ⟨by rw [show (w.setCell ⟨g, k, none⟩ (.int .i64 v)).heap.size = w.heap.size from by simp [World.setCell]]; exact h.1, fun j hj => ?_⟩
  obtain ⟨⟨z, hz⟩, hf⟩ := h.2 j hj
  refine ⟨?_, ?_⟩
  · by_cases e : j = k
    · subst e; exact ⟨v, World.cell?_setCell_same _ _ _ hz⟩
    · exact ⟨z, (World.cell?_setCell_other _ _ _ _ (by intro e'; injection e' with _ e2 _; exact e e2.symm)).trans hz⟩
  · rw [World.frozen?_setCell]; exact hf
set_option maxHeartbeats 2000000 in
theorem markIntsC (g n c : Nat) (w : World) (hW : Wz w g n) (hn : n ≤ 4096) :
    Calls Try.prog 66 #[.slice (some ⟨g, 0, none⟩) n c, .int .i64 1] w fun e w' => e = .returned (.int .i64 ((n : Int) + 1)) ∧ Mk w' g n ∧ w.grownBy w' (some g) ∧ w'.heap.size = w.heap.size := by
  have HW := Lib.hid hW
  clear hW
  go_enter Try.func66, Try.ntmps66
  go_wp2
  go_loopw [1, 5] (fun m i wr => ∃ k : Nat, i = .int .i64 (k : Int) ∧ m = .int .i64 ((k : Int) + 1) ∧ k ≤ n ∧ Hid (Mk wr g k) ∧ Hid (Wz wr g n) ∧ Hid (w.grownBy wr (some g)) ∧ Hid (wr.heap.size = w.heap.size)) (fun _ i _ => n - (intOf i).toNat)
  case atStart => exact ⟨0, rfl, rfl, Nat.zero_le _, Lib.hid (fun j hj => by omega), HW, Lib.hid (World.grownBy.refl _ _), Lib.hid rfl⟩
  case round =>
    obtain ⟨k, rfl, rfl, hk, HM, HZ, HG, HS⟩ := hrel
    by_cases hlt : k < n
    · have hk' : (k : Int) < (n : Int) := by omega
      obtain ⟨⟨z, cz⟩, fz⟩ := HZ.out.2 k hlt
      have HM2 : Hid (Mk (wr.setCell ⟨g, k, none⟩ (.int .i64 ((k : Int) + 1))) g (k + 1)) := Lib.hid (fun j hj => by
        by_cases e : j = k
        · subst e; exact World.cell?_setCell_same _ _ _ cz
        · exact (World.cell?_setCell_other _ _ _ _ (by intro e'; injection e' with _ e2 _; exact e e2.symm)).trans (HM.out j (by omega)))
      have HZ2 := Lib.hid (HZ.out.set (k := k) (v := (k : Int) + 1))
      have HG2 : Hid (w.grownBy (wr.setCell ⟨g, k, none⟩ (.int .i64 ((k : Int) + 1))) (some g)) := Lib.hid (HG.out.andThen (World.grownBy_setCell wr ⟨g, k, none⟩ _) (fun j hj => Or.inr hj))
      have HS2 : Hid ((wr.setCell ⟨g, k, none⟩ (.int .i64 ((k : Int) + 1))).heap.size = w.heap.size) := Lib.hid (by rw [← HS.out]; simp [World.setCell])
      go_wp2
      go_roundw
      case rel => exact ⟨k + 1, by go_num, by go_num, by omega, HM2, HZ2, HG2, HS2⟩
      case measure => simp [intOf]; omega
    · obtain rfl : k = n := by omega
      go_wp2
      go_ret
      exact ⟨rfl, HM.out, HG.out, HS.out⟩
set_option maxHeartbeats 2000000 in
theorem markIntsNil (p : Option Addr) (c : Nat) (w : World) :
    Calls Try.prog 66 #[.slice p 0 c, .int .i64 1] w fun e w' => e = .returned (.int .i64 1) ∧ w' = w := by
  go_enter Try.func66, Try.ntmps66
  go_wp2
  refine wp_loop_rounds 1 ?_
  rw [rounds_succ]
  go_wp2
  go_ret
  exact ⟨rfl, rfl⟩
end Go.Proofs.Ytcnmklgcifdmoaa
