/-
  How an argument that is a report (three lists of ints and an int) reads; no condition but those in each head.
-/
import Derived.Test.YtcnmklgcifdmoaaWalkInts
import Derived.Deep.Slices
import Derived.Deep.Fields
import Derived.Lib.SmallJoins
import Derived.OpenShut
namespace Go.Proofs.Ytcnmklgcifdmoaa
open Go.RowKit Go.ChangeShapes Go.WideShapes Go.Deep Go.Joins
theorem list_ofR {α : Type} {Q : Nat → α → Prop} (n : Nat) (h : ∀ i, i < n → ∃ x, Q i x) : ∃ l : List α, l.length = n ∧ ∀ (k : Nat) x, l[k]? = some x → Q k x := by
  induction n with
  | zero => exact ⟨[], rfl, fun k x hk => by simp at hk⟩
  | succ n ih =>
    obtain ⟨l, hl, hq⟩ := ih (fun i hi => h i (by omega))
    obtain ⟨y, hy⟩ := h n (by omega)
    refine ⟨l ++ [y], by simp [hl], fun k x hk => ?_⟩
    by_cases e : k < l.length
    · rw [List.getElem?_append_left e] at hk
      exact hq k x hk
    · have hkl : k < (l ++ [y]).length := (List.getElem?_eq_some_iff.1 hk).1
      simp at hkl
      obtain rfl : k = l.length := by omega
      simp at hk
      subst hk
      rw [hl]; exact hy
theorem cell_spotR {w : World} {a : Addr} {v : Value} (h : w.cell? a = some v) : a.spot = none := by
  unfold World.cell? at h
  split at h
  · split at h
    · cases h
    · rename_i hs; cases hh : a.spot with
      | none => rfl
      | some s => rw [hh] at hs; simp at hs
  · cases h
/-- the slice that begins at p holds the ints L, wherever it begins -/
def RdA (w : World) (p : Option Addr) (L : List Int) : Prop := (L = [] ∨ ∃ b o, p = some ⟨b, o, none⟩ ∧ b < w.heap.size ∧ ∀ k z, L[k]? = some z → w.cell? ⟨b, o + k, none⟩ = some (.int .i64 z)) ∧ L.length ≤ maxLen
theorem RdA.below {w w' : World} {p : Option Addr} {L : List Int} (h : RdA w p L) (hb : Below w.heap.size w w') : RdA w' p L := by
  refine ⟨?_, h.2⟩
  rcases h.1 with h1 | ⟨b, o, e, hlt, hc⟩
  · exact .inl h1
  · exact .inr ⟨b, o, e, Nat.lt_of_lt_of_le hlt hb.size, fun k z hz => (hb.cell (p := ⟨b, o + k, none⟩) hlt).trans (hc k z hz)⟩
/-- a slice of ints, as its data is read -/
theorem read_ints {H : Type} {enc : TypeId × Value → H} {P : Program} {w : World} {base : Nat} {spare : Nat → Bool} {held : Bool} {t tE : TypeId} {fuel : Nat} {c0 : Value} {x : DataW H × List MemPlace}
    (hS : P.underlying t = some (.slice tE)) (hE : P.underlying tE = some (.int .i64)) (hc1 : P.cellsOf tE = 1)
    (h : DataW.trod enc P w base spare held fuel t [c0] = some x) : ∃ (q : Option Addr) (L : List Int) (cap : Nat), c0 = .slice q L.length cap ∧ RdA w q L := by
  rcases open_slice hS h with ⟨hcs, _⟩ | ⟨a, len, cap, m, n2, D, Pl, hcs, _, hl, hmx, hmm, _, hi⟩
  · cases hcs
    exact ⟨none, [], 0, rfl, .inl rfl, by simp⟩
  · cases hcs
    have hlm : len ≤ m := by rw [hmm]; split <;> omega
    have hsp (h0 : 0 < len) : a.spot = none := by
      obtain ⟨cs', hcs', _⟩ := hi 0 (by omega)
      rw [hc1] at hcs'
      obtain ⟨_, hcl, hat⟩ := World.cells?_some hcs'
      have a0 := hat 0 (by omega)
      rw [List.getElem?_eq_getElem (by omega), Go.Deep.add_add] at a0
      have := cell_spotR a0
      simpa [Addr.add] using this
    obtain ⟨l, hll, hq⟩ := list_ofR (α := Int) (Q := fun i z => a.spot = none ∧ w.cell? ⟨a.block, a.off + i, none⟩ = some (.int .i64 z)) len (fun i hil => by
      obtain ⟨cs', hcs', ht'⟩ := hi i (by omega)
      rw [hc1] at hcs'
      obtain ⟨_, hcl, hat⟩ := World.cells?_some hcs'
      match cs', hcl with
      | [z0], _ =>
        obtain ⟨b, eb, _, _⟩ := DataW.trod_int hE ht'
        have a0 := hat 0 (by omega)
        rw [Go.Deep.add_add] at a0
        simp at eb
        subst eb
        have hsp := hsp (by omega)
        have ea (j : Nat) : a.add j = ⟨a.block, a.off + j, none⟩ := by
          unfold Addr.add
          split
          · rename_i hj; subst hj; cases a; simp_all
          · simp
        rw [ea] at a0
        simp only [Nat.mul_one, Nat.add_zero, List.getElem?_cons_zero] at a0
        exact ⟨b, hsp, a0⟩)
    refine ⟨some a, l, cap, by rw [hll], ?_, by rw [hll]; omega⟩
    by_cases h0 : len = 0
    · left; exact List.length_eq_zero_iff.1 (by omega)
    · right
      obtain ⟨z, hz⟩ : ∃ z, l[0]? = some z := ⟨_, List.getElem?_eq_getElem (by omega)⟩
      obtain ⟨hsp, hc0⟩ := hq 0 z hz
      refine ⟨a.block, a.off, by cases a; simp_all, World.block_lt_of_cell? w ⟨a.block, _, none⟩ hc0, fun k z hz => (hq k z hz).2⟩
theorem open_rep {H : Type} {enc : TypeId × Value → H} {P : Program} {w : World} {base b0 : Nat} {spare : Nat → Bool} {held : Bool} {r : Reach} {t tE : TypeId} {f0 f1 f2 f3 : Field} {v : Value} {d : DataW H} {pl : List MemPlace}
    (hM : P.underlying t = some (.struct #[f0, f1, f2, f3])) (h1 : oneCellFields P #[f0, f1, f2, f3] = true) (hc : P.cellsOf t = 4)
    (s0 : P.underlying f0.type = some (.slice tE)) (s1 : P.underlying f1.type = some (.slice tE)) (s2 : P.underlying f2.type = some (.slice tE)) (s3 : P.underlying f3.type = some (.int .i64))
    (hE : P.underlying tE = some (.int .i64)) (hc1 : P.cellsOf tE = 1)
    (hv : Value.okWide P w r b0 t v) (h : DataW.Trod enc P w base spare held t v d pl) :
    ∃ (q0 q1 q2 : Option Addr) (L0 L1 L2 : List Int) (p0 p1 p2 : Nat) (n : Int), v = .agg #[.slice q0 L0.length p0, .slice q1 L1.length p1, .slice q2 L2.length p2, .int .i64 n] ∧ RdA w q0 L0 ∧ RdA w q1 L1 ∧ RdA w q2 L2 := by
  obtain ⟨cs, rfl, hsz⟩ := okWide_struct hM hv
  rw [hc] at hsz
  obtain ⟨c0, c1, c2, c3, rfl⟩ : ∃ c0 c1 c2 c3, cs = #[c0, c1, c2, c3] := by
    match cs, hsz with
    | ⟨[x0, x1, x2, x3]⟩, _ => exact ⟨x0, x1, x2, x3, rfl⟩
  obtain ⟨fuel, hf⟩ := h
  obtain ⟨xs, n, _, hx, _, hlen, hg⟩ := DataW.trod_struct hM hf
  have get (j : Nat) (f : Field) (c : Value) (hj : j < 4) (hf : (#[f0, f1, f2, f3] : Array Field)[j]? = some f) (hcj : (((Value.agg #[c0, c1, c2, c3]).cells.toList).drop j).take 1 = [c]) : ∃ y, DataW.trod enc P w base spare held n f.type [c] = some y := by
    obtain ⟨o, k⟩ := hone_of h1 j f hf
    have e := hg j f hf
    rw [o, k, hcj] at e
    obtain ⟨y, hy⟩ : ∃ y, xs[j]? = some y := ⟨_, List.getElem?_eq_getElem (by rw [hlen]; exact hj)⟩
    exact ⟨y, by rw [hy] at e; exact e⟩
  obtain ⟨y0, e0⟩ := get 0 f0 c0 (by decide) rfl rfl
  obtain ⟨y1, e1⟩ := get 1 f1 c1 (by decide) rfl rfl
  obtain ⟨y2, e2⟩ := get 2 f2 c2 (by decide) rfl rfl
  obtain ⟨y3, e3⟩ := get 3 f3 c3 (by decide) rfl rfl
  obtain ⟨q0, L0, p0, rfl, r0⟩ := read_ints s0 hE hc1 e0
  obtain ⟨q1, L1, p1, rfl, r1⟩ := read_ints s1 hE hc1 e1
  obtain ⟨q2, L2, p2, rfl, r2⟩ := read_ints s2 hE hc1 e2
  obtain ⟨z, ez, _, _⟩ := DataW.trod_int s3 e3
  simp only [List.cons.injEq, and_true] at ez
  subst ez
  exact ⟨q0, q1, q2, L0, L1, L2, p0, p1, p2, z, rfl, r0, r1, r2⟩
end Go.Proofs.Ytcnmklgcifdmoaa
