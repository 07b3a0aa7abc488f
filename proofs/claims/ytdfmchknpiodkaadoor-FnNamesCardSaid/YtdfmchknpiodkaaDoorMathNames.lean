/-
  The names of operations, conditions and registers are told apart, and the groups of shapes lie from 0 to 7; no condition but those in each head.
-/
import Derived.Test.YtdfmchknpiodkaaDoorWalkMetA
import Derived.Test.YtdfmchknpiodkaaDoorWalkRegOf
import Derived.Test.YtdfmchknpiodkaaDoorWalkGroup
import Derived.Test.YtdfmchknpiodkaaDoorWalkAtD
import Derived.Test.YtdfmchknpiodkaaDoorWalkClass
namespace Go.Proofs.YtdfmchknpiodkaaDoor
open Go.RowKit
theorem nm_list {l : List (List UInt8)} {i : Nat} : (nm l i).toList = l.getD i [] := by rw [ByteArray.toList_eq]; simp [nm]
theorem ops_inj : ∀ i, i < 44 → ∀ j, j < 44 → opsL.getD i [] = opsL.getD j [] → i = j := by decide +kernel
theorem conds_inj : ∀ i, i < 16 → ∀ j, j < 16 → condsL.getD i [] = condsL.getD j [] → i = j := by decide +kernel
def rg (p : Nat) : List UInt8 := (regsL (szAt (p / 20))).getD (p % 20) []
theorem rg_inj : ∀ p, p < 80 → ∀ q, q < 80 → rg p ≠ [] → rg p = rg q → p = q := by decide +kernel
theorem reg_short : ∀ n, n < 4 → ∀ i, i < (regsL (szAt n)).length → ((regsL (szAt n)).getD i []).length ≤ 4 ∧ (regsL (szAt n)).getD i [] ≠ [] := by decide +kernel
theorem regs_inj (n : Nat) (hn : n < 4) (m : Nat) (hm : m < 4) (i : Nat) (hi : i < (regsL (szAt n)).length) (j : Nat) (hj : j < (regsL (szAt m)).length) (e : (regsL (szAt n)).getD i [] = (regsL (szAt m)).getD j []) : n = m ∧ i = j := by
  have l1 := (regs_len (szAt n)).1
  have l2 := (regs_len (szAt m)).1
  have a1 : (n * 20 + i) / 20 = n := by omega
  have a2 : (n * 20 + i) % 20 = i := by omega
  have b1 : (m * 20 + j) / 20 = m := by omega
  have b2 : (m * 20 + j) % 20 = j := by omega
  have h := rg_inj (n * 20 + i) (by omega) (m * 20 + j) (by omega) (by rw [rg, a1, a2]; exact (reg_short n hn i hi).2) (by rw [rg, rg, a1, a2, b1, b2]; exact e)
  omega
theorem op_back {i : Nat} (hi : i < 44) {r : Int} (h : IsAt opsL (nm opsL i) r) : r = i := by
  rcases h with ⟨k, hk, rfl, e, _⟩ | ⟨_, n⟩
  · rw [nm_list, nm_list] at e
    rw [ops_inj k hk i hi e]
  · exact absurd rfl (n i hi)
theorem cond_back {i : Nat} (hi : i < 16) {r : Int} (h : IsAt condsL (nm condsL i) r) : r = i := by
  rcases h with ⟨k, hk, rfl, e, _⟩ | ⟨_, n⟩
  · rw [nm_list, nm_list] at e
    rw [conds_inj k hk i hi e]
  · exact absurd rfl (n i hi)
theorem reg_back {n i : Nat} (hn : n < 4) (hi : i < (regsL (szAt n)).length) {a b c : Int} (h : RegOut (nm (regsL (szAt n)) i) a b c) : a = i ∧ b = (szAt n : Int) ∧ c = 0 := by
  rcases h with ⟨m, k, h1, h2, h3, _, _, rfl, rfl, rfl⟩ | ⟨h, _⟩
  · rw [nm_list, nm_list] at h3
    obtain ⟨rfl, rfl⟩ := regs_inj m h1 n hn k h2 i hi h3
    exact ⟨rfl, rfl, rfl⟩
  · exact absurd rfl (h n hn i hi)
theorem reg_size {n i : Nat} (hn : n < 4) (hi : i < (regsL (szAt n)).length) : (nm (regsL (szAt n)) i).size ≤ 65536 := by
  have := (reg_short n hn i hi).1
  have h2 : (nm (regsL (szAt n)) i).size = ((regsL (szAt n)).getD i []).length := rfl
  omega
theorem reg_ne {n i : Nat} (hn : n < 4) (hi : i < (regsL (szAt n)).length) : (nm (regsL (szAt n)) i).toList ≠ [] := by rw [nm_list]; exact (reg_short n hn i hi).2
theorem sz4_szAt (k : Nat) : AtD.sz4 k = szAt k := rfl
theorem grp_bd : ∀ b, b < 256 → (0 ≤ (shape1 b).g ∧ (shape1 b).g ≤ 7) ∧ (0 ≤ (shape2 b).g ∧ (shape2 b).g ≤ 7) := by decide +kernel
theorem grp_res (s : Bool) (b : Nat) (hb : b < 256) : 0 ≤ (shpRes (shapeT s b)).g ∧ (shpRes (shapeT s b)).g ≤ 7 := by
  have := grp_bd b hb
  unfold shpRes
  split
  · exact ⟨by decide, by decide⟩
  · cases s
    · exact this.1
    · exact this.2
/-- all tables that a row lists -/
def Tabs (W : World) : Prop := Regs W ∧ Nms W 5 opsL ∧ Nms W 6 condsL ∧ Grps W 4 ∧ Ari W 7
theorem Tabs.below {W W' : World} (h : Tabs W) (hb : Below W.heap.size W W') : Tabs W' := ⟨h.1.below hb, h.2.1.below hb, h.2.2.1.below hb, h.2.2.2.1.below hb, h.2.2.2.2.below hb⟩
end Go.Proofs.YtdfmchknpiodkaaDoor
