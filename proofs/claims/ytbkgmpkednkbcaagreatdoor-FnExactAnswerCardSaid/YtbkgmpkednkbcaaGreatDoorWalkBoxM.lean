/-
  What the law's helpers over lists of ints do (eqIntS, markIntS, heldIntS); conditions: those in each head.
  How an argument that is a report (three lists of ints and an int) reads; no condition but those in each head.
  What impl.ZoneOf and spec.ZoneOf answer; no condition.
  What the laws' helpers over a report do (szReport, toReport, eqReport), and MayGo of both; conditions: those in each head.
  laws.toIntS and laws.toReport with what they own, marks of reports of any lists, and what is kept behind marks; conditions: those in each head.
  laws.markBox and laws.heldBox; boxes that lie within bounds of blocks, and what is kept of them behind marks elsewhere; conditions: those in each head.
-/
import Derived.Test.YtbkgmpkednkbcaaGreatDoorProg
import Derived.WalkKit
import Derived.OwnWalk
import Derived.Lib.Hide
import Derived.Lib.SmallJoins
import Derived.Deep.Slices
import Derived.Deep.Fields
import Derived.OpenShut
import Derived.WalkSpells
import Derived.Test.YtbkgmpkednkbcaaGreatDoorShelf
import Derived.WalkLawsBesides
import Derived.IntWalk
import Derived.Test.YtbkgmpkednkbcaaGreatDoorLawWrite
import Derived.Test.YtbkgmpkednkbcaaGreatDoorWalkBox
namespace Go.Proofs.YtbkgmpkednkbcaaGreatDoor
open Go.RowKit
set_option linter.unusedVariables false
set_option linter.unusedSimpArgs false
/-- the slice that begins at p holds the ints L -/
def RdZ (w : World) (p : Option Addr) (L : List Int) : Prop := ∀ k z, L[k]? = some z → ∃ b, p = some ⟨b, 0, none⟩ ∧ b < w.heap.size ∧ w.cell? ⟨b, k, none⟩ = some (.int .i64 z)
theorem RdZ.kept {w w' : World} {p : Option Addr} {L : List Int} (h : RdZ w p L) (hk : ∀ b, p = some ⟨b, 0, none⟩ → b < w.heap.size → w'.heap[b]? = w.heap[b]?) (hs : w.heap.size ≤ w'.heap.size) : RdZ w' p L := by
  intro k z hz
  obtain ⟨b, e, hb, hc⟩ := h k z hz
  have := hk b e hb
  exact ⟨b, e, by omega, by rw [← hc]; exact World.cell?_of_block (w := w) (a := ⟨b, k, none⟩) this⟩
theorem RdZ.below {w w' : World} {p : Option Addr} {L : List Int} (h : RdZ w p L) (hb : Below w.heap.size w w') : RdZ w' p L := h.kept (fun b _ hlt => hb.block b hlt) hb.size
theorem rdZ_own {w : World} {B n : Nat} {e : TypeId} {p : Option Addr} {c : Nat} {L : List Int} (h : w.ownsRow B e 1 (.slice p n c) n (L.map (fun i => .int .i64 i))) : RdZ w p L := by
  intro k z hz
  have hk : k < L.length := (List.getElem?_eq_some_iff.1 hz).1
  have hl := h.1
  rw [List.length_map] at hl
  rcases h.2 with ⟨_, h0⟩ | ⟨g, cap, cur, e1, _, h3, _⟩
  · omega
  · cases e1
    have hlt : g < w.heap.size := by
      rcases Nat.lt_or_ge g w.heap.size with h' | h'
      · exact h'
      · rw [Array.getElem?_eq_none h'] at h3; cases h3
    exact ⟨g, rfl, hlt, by rw [h.cellAt k (by omega), List.getElem?_map, hz]; rfl⟩
/-- block g holds the marks 1, 2, .. at its first n cells -/
def Mk (w : World) (g n : Nat) : Prop := ∀ j, j < n → w.cell? ⟨g, j, none⟩ = some (.int .i64 ((j : Int) + 1))
/-- a block of ints that may be written -/
def Wz (w : World) (g n : Nat) : Prop := g < w.heap.size ∧ ∀ j, j < n → (∃ z : Int, w.cell? ⟨g, j, none⟩ = some (.int .i64 z)) ∧ w.frozen? ⟨g, j, none⟩ = false
theorem World.grownBy_setCell (w : World) (a : Addr) (v : Value) : w.grownBy (w.setCell a v) (some a.block) :=
  ⟨rfl, rfl, rfl, by simp [World.setCell], fun k hk hne => Below.heap_setCell _ _ _ _ (fun e => hne (by rw [e]))⟩
theorem Wz.set {w : World} {g n k : Nat} {v : Int} (h : Wz w g n) : Wz (w.setCell ⟨g, k, none⟩ (.int .i64 v)) g n := by
  refine ⟨by rw [show (w.setCell ⟨g, k, none⟩ (.int .i64 v)).heap.size = w.heap.size from by simp [World.setCell]]; exact h.1, fun j hj => ?_⟩
  obtain ⟨⟨z, hz⟩, hf⟩ := h.2 j hj
  refine ⟨?_, ?_⟩
  · by_cases e : j = k
    · subst e; exact ⟨v, World.cell?_setCell_same _ _ _ hz⟩
    · exact ⟨z, (World.cell?_setCell_other _ _ _ _ (by intro e'; injection e' with _ e2 _; exact e e2.symm)).trans hz⟩
  · rw [World.frozen?_setCell]; exact hf
end Go.Proofs.YtbkgmpkednkbcaaGreatDoor
namespace Go.Proofs.YtbkgmpkednkbcaaGreatDoor
open Go.RowKit Go.ChangeShapes Go.WideShapes Go.Deep Go.Joins
theorem list_ofR {α : Type} {Q : Nat → α → Prop} (n : Nat) (h : ∀ i, i < n → ∃ x, Q i x) : ∃ l : List α, l.length = n ∧ ∀ (k : Nat) x, l[k]? = some x → Q k x := by
  induction n with
  | zero => exact ⟨[], rfl, fun k x hk => by simp at hk⟩
  | succ n ih =>
    obtain ⟨l, hl, hq⟩ := ih (fun i hi => h i (by omega))
    obtain ⟨y, hy⟩ := h n (by omega)
    refine ⟨l ++ [y], by simp [hl], fun k x hk => ?_⟩
    by_cases e : k < l.length
    · rw [List.getElem?_append_left e] at hk
      exact hq k x hk
    · have hkl : k < (l ++ [y]).length := (List.getElem?_eq_some_iff.1 hk).1
      simp at hkl
      obtain rfl : k = l.length := by omega
      simp at hk
      subst hk
      rw [hl]; exact hy
theorem cell_spotR {w : World} {a : Addr} {v : Value} (h : w.cell? a = some v) : a.spot = none := by
  unfold World.cell? at h
  split at h
  · split at h
    · cases h
    · rename_i hs; cases hh : a.spot with
      | none => rfl
      | some s => rw [hh] at hs; simp at hs
  · cases h
/-- the slice that begins at p holds the ints L, wherever it begins -/
def RdA (w : World) (p : Option Addr) (L : List Int) : Prop := (L = [] ∨ ∃ b o, p = some ⟨b, o, none⟩ ∧ b < w.heap.size ∧ ∀ k z, L[k]? = some z → w.cell? ⟨b, o + k, none⟩ = some (.int .i64 z)) ∧ L.length ≤ maxLen
theorem RdA.below {w w' : World} {p : Option Addr} {L : List Int} (h : RdA w p L) (hb : Below w.heap.size w w') : RdA w' p L := by
  refine ⟨?_, h.2⟩
  rcases h.1 with h1 | ⟨b, o, e, hlt, hc⟩
  · exact .inl h1
  · exact .inr ⟨b, o, e, Nat.lt_of_lt_of_le hlt hb.size, fun k z hz => (hb.cell (p := ⟨b, o + k, none⟩) hlt).trans (hc k z hz)⟩
/-- a slice of ints, as its data is read -/
theorem read_ints {H : Type} {enc : TypeId × Value → H} {P : Program} {w : World} {base : Nat} {spare : Nat → Bool} {held : Bool} {t tE : TypeId} {fuel : Nat} {c0 : Value} {x : DataW H × List MemPlace}
    (hS : P.underlying t = some (.slice tE)) (hE : P.underlying tE = some (.int .i64)) (hc1 : P.cellsOf tE = 1)
    (h : DataW.trod enc P w base spare held fuel t [c0] = some x) : ∃ (q : Option Addr) (L : List Int) (cap : Nat), c0 = .slice q L.length cap ∧ RdA w q L := by
  rcases open_slice hS h with ⟨hcs, _⟩ | ⟨a, len, cap, m, n2, D, Pl, hcs, _, hl, hmx, hmm, _, hi⟩
  · cases hcs
    exact ⟨none, [], 0, rfl, .inl rfl, by simp⟩
  · cases hcs
    have hlm : len ≤ m := by rw [hmm]; split <;> omega
    have hsp (h0 : 0 < len) : a.spot = none := by
      obtain ⟨cs', hcs', _⟩ := hi 0 (by omega)
      rw [hc1] at hcs'
      obtain ⟨_, hcl, hat⟩ := World.cells?_some hcs'
      have a0 := hat 0 (by omega)
      rw [List.getElem?_eq_getElem (by omega), Go.Deep.add_add] at a0
      have := cell_spotR a0
      simpa [Addr.add] using this
    obtain ⟨l, hll, hq⟩ := list_ofR (α := Int) (Q := fun i z => a.spot = none ∧ w.cell? ⟨a.block, a.off + i, none⟩ = some (.int .i64 z)) len (fun i hil => by
      obtain ⟨cs', hcs', ht'⟩ := hi i (by omega)
      rw [hc1] at hcs'
      obtain ⟨_, hcl, hat⟩ := World.cells?_some hcs'
      match cs', hcl with
      | [z0], _ =>
        obtain ⟨b, eb, _, _⟩ := DataW.trod_int hE ht'
        have a0 := hat 0 (by omega)
        rw [Go.Deep.add_add] at a0
        simp at eb
        subst eb
        have hsp := hsp (by omega)
        have ea (j : Nat) : a.add j = ⟨a.block, a.off + j, none⟩ := by
          unfold Addr.add
          split
          · rename_i hj; subst hj; cases a; simp_all
          · simp
        rw [ea] at a0
        simp only [Nat.mul_one, Nat.add_zero, List.getElem?_cons_zero] at a0
        exact ⟨b, hsp, a0⟩)
    refine ⟨some a, l, cap, by rw [hll], ?_, by rw [hll]; omega⟩
    by_cases h0 : len = 0
    · left; exact List.length_eq_zero_iff.1 (by omega)
    · right
      obtain ⟨z, hz⟩ : ∃ z, l[0]? = some z := ⟨_, List.getElem?_eq_getElem (by omega)⟩
      obtain ⟨hsp, hc0⟩ := hq 0 z hz
      refine ⟨a.block, a.off, by cases a; simp_all, World.block_lt_of_cell? w ⟨a.block, _, none⟩ hc0, fun k z hz => (hq k z hz).2⟩
theorem open_rep {H : Type} {enc : TypeId × Value → H} {P : Program} {w : World} {base b0 : Nat} {spare : Nat → Bool} {held : Bool} {r : Reach} {t tE : TypeId} {f0 f1 f2 f3 : Field} {v : Value} {d : DataW H} {pl : List MemPlace}
    (hM : P.underlying t = some (.struct #[f0, f1, f2, f3])) (h1 : oneCellFields P #[f0, f1, f2, f3] = true) (hc : P.cellsOf t = 4)
    (s0 : P.underlying f0.type = some (.slice tE)) (s1 : P.underlying f1.type = some (.slice tE)) (s2 : P.underlying f2.type = some (.slice tE)) (s3 : P.underlying f3.type = some (.int .i64))
    (hE : P.underlying tE = some (.int .i64)) (hc1 : P.cellsOf tE = 1)
    (hv : Value.okWide P w r b0 t v) (h : DataW.Trod enc P w base spare held t v d pl) :
    ∃ (q0 q1 q2 : Option Addr) (L0 L1 L2 : List Int) (p0 p1 p2 : Nat) (n : Int), v = .agg #[.slice q0 L0.length p0, .slice q1 L1.length p1, .slice q2 L2.length p2, .int .i64 n] ∧ RdA w q0 L0 ∧ RdA w q1 L1 ∧ RdA w q2 L2 := by
  obtain ⟨cs, rfl, hsz⟩ := okWide_struct hM hv
  rw [hc] at hsz
  obtain ⟨c0, c1, c2, c3, rfl⟩ : ∃ c0 c1 c2 c3, cs = #[c0, c1, c2, c3] := by
    match cs, hsz with
    | ⟨[x0, x1, x2, x3]⟩, _ => exact ⟨x0, x1, x2, x3, rfl⟩
  obtain ⟨fuel, hf⟩ := h
  obtain ⟨xs, n, _, hx, _, hlen, hg⟩ := DataW.trod_struct hM hf
  have get (j : Nat) (f : Field) (c : Value) (hj : j < 4) (hf : (#[f0, f1, f2, f3] : Array Field)[j]? = some f) (hcj : (((Value.agg #[c0, c1, c2, c3]).cells.toList).drop j).take 1 = [c]) : ∃ y, DataW.trod enc P w base spare held n f.type [c] = some y := by
    obtain ⟨o, k⟩ := hone_of h1 j f hf
    have e := hg j f hf
    rw [o, k, hcj] at e
    obtain ⟨y, hy⟩ : ∃ y, xs[j]? = some y := ⟨_, List.getElem?_eq_getElem (by rw [hlen]; exact hj)⟩
    exact ⟨y, by rw [hy] at e; exact e⟩
  obtain ⟨y0, e0⟩ := get 0 f0 c0 (by decide) rfl rfl
  obtain ⟨y1, e1⟩ := get 1 f1 c1 (by decide) rfl rfl
  obtain ⟨y2, e2⟩ := get 2 f2 c2 (by decide) rfl rfl
  obtain ⟨y3, e3⟩ := get 3 f3 c3 (by decide) rfl rfl
  obtain ⟨q0, L0, p0, rfl, r0⟩ := read_ints s0 hE hc1 e0
  obtain ⟨q1, L1, p1, rfl, r1⟩ := read_ints s1 hE hc1 e1
  obtain ⟨q2, L2, p2, rfl, r2⟩ := read_ints s2 hE hc1 e2
  obtain ⟨z, ez, _, _⟩ := DataW.trod_int s3 e3
  simp only [List.cons.injEq, and_true] at ez
  subst ez
  exact ⟨q0, q1, q2, L0, L1, L2, p0, p1, p2, z, rfl, r0, r1, r2⟩
end Go.Proofs.YtbkgmpkednkbcaaGreatDoor
namespace Go.Proofs.YtbkgmpkednkbcaaGreatDoor
open Go.RowKit
set_option linter.unusedVariables false
set_option linter.unusedSimpArgs false
theorem zin (b : Bool) (v lo hi : Int) (w : World) (h : decide (lo ≤ v ∧ v ≤ hi) = b) : Calls Tryz.prog 30 #[.int .i64 v, .int .i64 lo, .int .i64 hi] w fun e w' => e = .returned (.bool b) ∧ w = w' := by
  subst h
  by_cases h1 : lo ≤ v
  · by_cases h2 : v ≤ hi
    · rw [decide_eq_true (show lo ≤ v ∧ v ≤ hi from ⟨h1, h2⟩)]
      go_enter Tryz.func30, Tryz.ntmps30
      go_wp2
      go_ret
      exact ⟨rfl, rfl⟩
    · rw [decide_eq_false (show ¬ (lo ≤ v ∧ v ≤ hi) from fun h => h2 h.2)]
      have h3 := decide_eq_false h2
      clear h2
      go_enter Tryz.func30, Tryz.ntmps30
      go_wp2
      go_ret
      exact ⟨rfl, rfl⟩
  · rw [decide_eq_false (show ¬ (lo ≤ v ∧ v ≤ hi) from fun h => h1 h.1)]
    have h3 : v < lo := by omega
    clear h1
    go_enter Tryz.func30, Tryz.ntmps30
    go_wp2
    go_ret
    exact ⟨rfl, rfl⟩
/-- the zone of an address -/
def znN (a : Int) : Int := if 16384 ≤ a ∧ a ≤ 20479 then 1 else if 12288 ≤ a ∧ a ≤ 24575 then 2 else if (4096 ≤ a ∧ a ≤ 4351) ∨ (32768 ≤ a ∧ a ≤ 33023) then 3 else 0
end Go.Proofs.YtbkgmpkednkbcaaGreatDoor
namespace Go.Proofs.YtbkgmpkednkbcaaGreatDoor
open Go.RowKit
set_option linter.unusedVariables false
set_option linter.unusedSimpArgs false
theorem infoZ : (Tryz.prog.info? 3).map (fun i => (i.zero, i.size, i.bytes)) = some (some (.int .i64 0), 1, 8) := by kernel_rfl
/-- a list of which k elements are laid, then noughts -/
def mixZ (L : List Int) (k : Nat) : List Value := (L.take k ++ List.replicate (L.length - k) 0).map (fun z => .int .i64 z)
theorem mixZ_zero (L : List Int) : (madeCells (Value.int .i64 0).cells (L.length * 1)).toList = mixZ L 0 := by
  simp [madeCells, mixZ, Value.cells, Nat.mod_one]
  exact List.eq_replicate_iff.mpr ⟨by simp, by simp⟩
theorem mixZ_set (L : List Int) (k : Nat) (z : Int) (h : L[k]? = some z) : (mixZ L k).set k (.int .i64 z) = mixZ L (k + 1) := by
  obtain ⟨hk, hz⟩ := List.getElem?_eq_some_iff.1 h
  unfold mixZ
  apply List.ext_getElem?
  intro i
  rw [List.getElem?_set]
  simp only [List.getElem?_map, List.length_map, List.length_append, List.length_take, List.length_replicate, List.getElem?_append, List.getElem?_take, List.getElem?_replicate, Nat.min_eq_left (show k ≤ L.length by omega), Nat.min_eq_left (show k + 1 ≤ L.length by omega)]
  by_cases e : k = i
  · subst e
    rw [if_pos rfl, if_pos (by omega), if_pos (by omega), if_pos (by omega), h]
    rfl
  · rw [if_neg e]
    by_cases h1 : i < k
    · rw [if_pos h1, if_pos h1, if_pos (by omega), if_pos (by omega)]
    · rw [if_neg h1, if_neg (show ¬ i < k + 1 by omega)]
      by_cases h2 : i < L.length
      · rw [if_pos (by omega), if_pos (by omega)]
      · rw [if_neg (by omega), if_neg (by omega)]
theorem mixZ_all (L : List Int) : mixZ L L.length = L.map (fun z => .int .i64 z) := by simp [mixZ]
/-- what is answered of a report of lists -/
def RepOut (L0 L1 L2 : List Int) (n : Int) (w : World) (e : Ending) (w' : World) : Prop :=
  ∃ a0 a1 a2 : Addr, e = .returned (.agg #[.slice (some a0) L0.length L0.length, .slice (some a1) L1.length L1.length, .slice (some a2) L2.length L2.length, .int .i64 n]) ∧ RdZ w' (some a0) L0 ∧ RdZ w' (some a1) L1 ∧ RdZ w' (some a2) L2 ∧ Below w.heap.size w w'
/-- a list of ints is copied -/
def IntsOut (L : List Int) (w : World) (e : Ending) (w' : World) : Prop := ∃ a : Addr, e = .returned (.slice (some a) L.length L.length) ∧ RdZ w' (some a) L ∧ w.heap.size ≤ a.block ∧ Below w.heap.size w w'
theorem below_setRowR {n : Nat} {w0 W : World} {b : Nat} (h : Below n w0 W) (hle : n ≤ b) (hn : n ≤ w0.heap.size) (c : Array Value) : Below n w0 (W.setRow b c) :=
  ⟨h.os, h.tape, h.output, by simpa using h.size, fun k hk => (setRow_other W b k c (by omega)).trans (h.block k hk)⟩
theorem lt_of_heap {w : World} {b : Nat} {o : Obj} (h : w.heap[b]? = some o) : b < w.heap.size := (Array.getElem?_eq_some_iff.1 h).1
theorem ret_bb {a b : Bool} (h : a = b) : Ending.returned (.bool a) = .returned (.bool b) := by rw [h]
/-- three lists that lie in memory -/
structure Rz (w : World) (a0 a1 a2 : Addr) (L0 L1 L2 : List Int) : Prop where
  z0 : RdZ w (some a0) L0
  z1 : RdZ w (some a1) L1
  z2 : RdZ w (some a2) L2
theorem Rz.below {w w' : World} {a0 a1 a2 : Addr} {L0 L1 L2 : List Int} (h : Rz w a0 a1 a2 L0 L1 L2) (hb : Below w.heap.size w w') : Rz w' a0 a1 a2 L0 L1 L2 := ⟨h.z0.below hb, h.z1.below hb, h.z2.below hb⟩
/-- whether a jump may go there -/
def mayB (L0 L1 : List Int) (s g : Int) : Bool := decide (0 ≤ g ∧ g < s) && (L0.contains g && !L1.contains g)
end Go.Proofs.YtbkgmpkednkbcaaGreatDoor
namespace Go.Proofs.YtbkgmpkednkbcaaGreatDoor
open Go.RowKit Go.Sort
set_option linter.unusedVariables false
set_option linter.unusedSimpArgs false
/-- a list of ints of its own, in block g -/
def OwZ (B : Nat) (W : World) (g : Nat) (L : List Int) : Prop := W.ownsRow B 3 1 (.slice (some ⟨g, 0, none⟩) L.length L.length) L.length (L.map fun z => .int .i64 z)
theorem OwZ.kept {B g : Nat} {w w' : World} {L : List Int} (h : OwZ B w g L) (hb : w'.heap[g]? = w.heap[g]?) : OwZ B w' g L := by
  refine ⟨h.1, ?_⟩
  rcases h.2 with ⟨h', _⟩ | ⟨g', cap, cur, e1, e2, e3, e4⟩
  · cases h'
  · cases e1
    exact .inr ⟨_, _, cur, rfl, e2, hb.trans e3, e4⟩
theorem OwZ.lt {B g : Nat} {w : World} {L : List Int} (h : OwZ B w g L) : B ≤ g ∧ g < w.heap.size := by
  rcases h.2 with ⟨h', _⟩ | ⟨g', cap, cur, e1, e2, e3, e4⟩
  · cases h'
  · cases e1
    exact ⟨e2, (Array.getElem?_eq_some_iff.1 e3).1⟩
theorem OwZ.below {B g : Nat} {w w' : World} {L : List Int} (h : OwZ B w g L) (hb : Below w.heap.size w w') : OwZ B w' g L := h.kept (hb.block _ h.lt.2)
theorem OwZ.le {B B' g : Nat} {w : World} {L : List Int} (h : OwZ B w g L) (hb : B' ≤ B) : OwZ B' w g L := Joins.ownsRow_le h hb
theorem OwZ.rd {B g : Nat} {w : World} {L : List Int} (h : OwZ B w g L) : RdZ w (some ⟨g, 0, none⟩) L := rdZ_own h
def IntsOw (L : List Int) (w : World) (e : Ending) (w' : World) : Prop := ∃ g : Nat, e = .returned (.slice (some ⟨g, 0, none⟩) L.length L.length) ∧ OwZ w.heap.size w' g L ∧ w.heap.size ≤ g ∧ g < w'.heap.size ∧ Below w.heap.size w w'
/-- a report of lists of its own -/
def RepOw (L0 L1 L2 : List Int) (n : Int) (w : World) (e : Ending) (w' : World) : Prop :=
  ∃ a0 a1 a2 : Nat, e = .returned (.agg #[.slice (some ⟨a0, 0, none⟩) L0.length L0.length, .slice (some ⟨a1, 0, none⟩) L1.length L1.length, .slice (some ⟨a2, 0, none⟩) L2.length L2.length, .int .i64 n]) ∧ OwZ w.heap.size w' a0 L0 ∧ OwZ w.heap.size w' a1 L1 ∧ OwZ w.heap.size w' a2 L2 ∧ w.heap.size ≤ a0 ∧ a0 < a1 ∧ a1 < a2 ∧ a2 < w'.heap.size ∧ Below w.heap.size w w'
/-- all is kept but blocks from lo on and below hi -/
structure Keep (lo hi : Nat) (w w' : World) : Prop where
  os : w'.os = w.os
  tape : w'.tape = w.tape
  output : w'.output = w.output
  size : w.heap.size ≤ w'.heap.size
  block : ∀ k, k < w.heap.size → (k < lo ∨ hi ≤ k) → w'.heap[k]? = w.heap[k]?
theorem Keep.of_grown {w w' : World} {g lo hi : Nat} (h : w.grownBy w' (some g)) (h1 : lo ≤ g) (h2 : g < hi) : Keep lo hi w w' :=
  ⟨h.os, h.tape, h.output, h.size, fun k hk hc => h.block k hk (by simp; omega)⟩
theorem Keep.of_grown' {w w' : World} {row : Option Nat} {lo hi : Nat} (h : w.grownBy w' row) (h1 : ∀ g, row = some g → lo ≤ g ∧ g < hi) : Keep lo hi w w' :=
  ⟨h.os, h.tape, h.output, h.size, fun k hk hc => h.block k hk (fun e => by have := h1 k e.symm; omega)⟩
theorem Keep.of_below {w w' : World} {lo hi : Nat} (h : Below w.heap.size w w') : Keep lo hi w w' := ⟨h.os, h.tape, h.output, h.size, fun k hk _ => h.block k hk⟩
theorem Keep.trans {w w' w'' : World} {lo hi : Nat} (h : Keep lo hi w w') (h' : Keep lo hi w' w'') : Keep lo hi w w'' :=
  ⟨h'.os.trans h.os, h'.tape.trans h.tape, h'.output.trans h.output, Nat.le_trans h.size h'.size, fun k hk hc => (h'.block k (Nat.lt_of_lt_of_le hk h.size) hc).trans (h.block k hk hc)⟩
theorem Keep.below {w W W' : World} {lo hi : Nat} (hb : Below w.heap.size w W) (h : Keep lo hi W W') (hl : w.heap.size ≤ lo) : Below w.heap.size w W' :=
  ⟨h.os.trans hb.os, h.tape.trans hb.tape, h.output.trans hb.output, Nat.le_trans hb.size h.size, fun k hk => (h.block k (Nat.lt_of_lt_of_le hk hb.size) (.inl (Nat.lt_of_lt_of_le hk hl))).trans (hb.block k hk)⟩
theorem OwZ.wz {B g : Nat} {w : World} {L : List Int} (h : OwZ B w g L) : Wz w g L.length := by
  refine ⟨h.lt.2, fun j hj => ⟨?_, World.ownsRow.frozenAt h j⟩⟩
  have e := World.ownsRow.cellAt h j (by omega)
  rw [e]
  exact ⟨L[j], by simp [List.getElem?_eq_getElem hj]⟩
end Go.Proofs.YtbkgmpkednkbcaaGreatDoor
namespace Go.Proofs.YtbkgmpkednkbcaaGreatDoor
open Go.RowKit Go.Sort
set_option linter.unusedVariables false
set_option linter.unusedSimpArgs false
set_option maxRecDepth 100000 in
set_option maxHeartbeats 4000000 in
theorem markBoxC (b : Bo) (p : Option Addr) (c B : Nat) (l : List Pg) (w : World) (hn : l.length ≤ 1048576) (ho : Owns w B p c l) :
    Calls Tryz.prog 10 #[.agg (boV b (.slice p l.length c)), .int .i64 1] w fun e w' => e = .returned (.int .i64 ((1 + 3 * l.length : Nat) : Int)) ∧ Owns w' B p c (mkd l 1) ∧ w.grownBy w' (Value.slice p l.length c).ownBlock := by
  have n1 := heap_alloc_new w (.cells (boV b (.slice p l.length c)) 36)
  have b0 := below1 w (.cells (boV b (.slice p l.length c)) 36)
  have a18 := (cell_of_row _ _ 18 _ _ _ n1).trans (show (boV b (.slice p l.length c))[18]? = some (.slice p l.length c) from rfl)
  have C := Lib.hid (markAny p c B l _ hn (own_below ho b0))
  have B0 := Lib.hid b0
  clear n1 ho b0
  generalize boV b (.slice p l.length c) = V at *
  obtain ⟨K, hK⟩ : ∃ K : Nat, K = 1 + 3 * l.length := ⟨_, rfl⟩
  rw [← hK] at C ⊢
  clear hK
  go_enter Tryz.func10, Tryz.ntmps10
  go_wp2_with fail
  refine (C.out).mono ?_
  rintro e w1 ⟨rfl, om, gm⟩
  have O1 := Lib.hid om
  have G1 := Lib.hid ((below_grownBy B0.out (Value.slice p l.length c).ownBlock).trans gm)
  clear om gm a18 C B0
  go_wp2
  go_ret
  exact ⟨rfl, O1.out, G1.out⟩
set_option maxRecDepth 100000 in
set_option maxHeartbeats 4000000 in
theorem heldBoxC (b : Bo) (p : Option Addr) (c : Nat) (l : List Pg) (w : World) (hn : l.length ≤ 1048576) (hr : Rd w p (mkd l 1)) :
    Calls Tryz.prog 11 #[.agg (boV b (.slice p l.length c)), .int .i64 1] w fun e w' => e = .returned (.int .i64 ((1 + 3 * l.length : Nat) : Int)) ∧ Below w.heap.size w w' := by
  have n1 := heap_alloc_new w (.cells (boV b (.slice p l.length c)) 36)
  have b0 := below1 w (.cells (boV b (.slice p l.length c)) 36)
  have a18 := (cell_of_row _ _ 18 _ _ _ n1).trans (show (boV b (.slice p l.length c))[18]? = some (.slice p l.length c) from rfl)
  have C := Lib.hid (heldMemoryC p c l _ hn (hr.below b0))
  have B0 := Lib.hid b0
  clear n1 hr b0
  generalize boV b (.slice p l.length c) = V at *
  obtain ⟨K, hK⟩ : ∃ K : Nat, K = 1 + 3 * l.length := ⟨_, rfl⟩
  rw [← hK] at C ⊢
  have hd : decide ((K : Int) < 0) = false := decide_eq_false (by omega)
  clear hK
  go_enter Tryz.func11, Tryz.ntmps11
  go_wp2_with fail
  refine (C.out).mono ?_
  rintro e w1 ⟨rfl, b1⟩
  have L1 := Lib.hid (bthen B0.out b1)
  clear b1 a18 C B0
  go_wp2
  go_ret
  exact ⟨rfl, L1.out⟩
/-- block n holds the cells X, and the pages l lie within the blocks from lo on and below hi, as n does -/
structure BX (t : TypeId) (n : Nat) (X : Array Value) (p : Option Addr) (l : List Pg) (lo hi : Nat) (W : World) : Prop where
  x : W.heap[n]? = some (.cells X t (0, 0))
  r : Rd W p l
  k : ∀ b o, p = some ⟨b, o, none⟩ → l ≠ [] → lo ≤ b ∧ b < hi
  n1 : lo ≤ n
  n2 : n < hi
theorem BX.lt {t : TypeId} {n : Nat} {X : Array Value} {p : Option Addr} {l : List Pg} {lo hi : Nat} {W : World} (h : BX t n X p l lo hi W) : n < W.heap.size := lt_of_blk' h.x
theorem BX.below {t : TypeId} {n : Nat} {X : Array Value} {p : Option Addr} {l : List Pg} {lo hi : Nat} {W W' : World} (h : BX t n X p l lo hi W) (hb : Below W.heap.size W W') : BX t n X p l lo hi W' :=
  ⟨(hb.block _ h.lt).trans h.x, h.r.below hb, h.k, h.n1, h.n2⟩
theorem Rd.kept {w w' : World} {p : Option Addr} {l : List Pg} (h : Rd w p l) (hs : w.heap.size ≤ w'.heap.size) (hk : ∀ b o, p = some ⟨b, o, none⟩ → l ≠ [] → b < w.heap.size → w'.heap[b]? = w.heap[b]?) : Rd w' p l := by
  intro k x hx
  obtain ⟨b, o, rfl, h0, h1, h2, h3⟩ := h k x hx
  have hl : l ≠ [] := by intro e; rw [e] at hx; simp at hx
  have hb := hk b o rfl hl h0
  exact ⟨b, o, rfl, by omega, (World.cell?_of_block (a := ⟨b, _, none⟩) hb).trans h1, (World.cell?_of_block (a := ⟨b, _, none⟩) hb).trans h2, (World.cell?_of_block (a := ⟨b, _, none⟩) hb).trans h3⟩
theorem BX.keep {t : TypeId} {n : Nat} {X : Array Value} {p : Option Addr} {l : List Pg} {lo hi a b : Nat} {W W' : World} (h : BX t n X p l lo hi W) (hk : Keep a b W W') (hd : hi ≤ a ∨ b ≤ lo) : BX t n X p l lo hi W' :=
  ⟨(hk.block _ h.lt (by have := h.n1; have := h.n2; omega)).trans h.x, h.r.kept hk.size (fun j o e hl hj => hk.block _ hj (by have := h.k j o e hl; omega)), h.k, h.n1, h.n2⟩
/-- a variable of a struct that was stored whole -/
theorem BX.new {t : TypeId} {W0 W : World} {X Z : Array Value} {p : Option Addr} {c : Nat} {l : List Pg} (ho : Owns W W0.heap.size p c l) (hs : W0.heap.size ≤ W.heap.size) : BX t W.heap.size X p l W0.heap.size (W.heap.size + 1) ((W.alloc (.cells Z t)).setRow W.heap.size X) := by
  have hb : Below W.heap.size W ((W.alloc (.cells Z t)).setRow W.heap.size X) := Go.below_setRow (below1 W _) (Nat.le_refl _) _
  exact ⟨setRow_heap _ _ _ _ _ _ (heap_alloc_new W _), (owns_rd ho).below hb, fun b o e hl => by have := owns_blk ho b o e hl; omega, hs, by omega⟩
theorem below_var (t : TypeId) (W : World) (X Z : Array Value) : Below W.heap.size W ((W.alloc (.cells Z t)).setRow W.heap.size X) := Go.below_setRow (below1 W _) (Nat.le_refl _) _
theorem size_var (t : TypeId) (W : World) (X Z : Array Value) : ((W.alloc (.cells Z t)).setRow W.heap.size X).heap.size = W.heap.size + 1 := by simp [World.setRow]
end Go.Proofs.YtbkgmpkednkbcaaGreatDoor
