/-
  How an argument that is a struct of one list of pages (a laws.Memory) reads: as a slice of pages that lie in memory; no condition but those in each head.
-/
import Derived.Test.YtbkgmpkednkbcaaGreatDoorWalkSz
import Derived.Deep.Slices
import Derived.Deep.Fields
import Derived.OpenShut
namespace Go.Proofs.YtbkgmpkednkbcaaGreatDoor
open Go.RowKit Go.ChangeShapes Go.WideShapes Go.Deep
theorem list_of {α : Type} {Q : Nat → α → Prop} (n : Nat) (h : ∀ i, i < n → ∃ x, Q i x) : ∃ l : List α, l.length = n ∧ ∀ (k : Nat) x, l[k]? = some x → Q k x := by
  induction n with
  | zero => exact ⟨[], rfl, fun k x hk => by simp at hk⟩
  | succ n ih =>
    obtain ⟨l, hl, hq⟩ := ih (fun i hi => h i (by omega))
    obtain ⟨y, hy⟩ := h n (by omega)
    refine ⟨l ++ [y], by simp [hl], fun k x hk => ?_⟩
    by_cases e : k < l.length
    · rw [List.getElem?_append_left e] at hk
      exact hq k x hk
    · have hkl : k < (l ++ [y]).length := (List.getElem?_eq_some_iff.1 hk).1
      simp at hkl
      obtain rfl : k = l.length := by omega
      simp at hk
      subst hk
      rw [hl]; exact hy
theorem cell_spot {w : World} {a : Addr} {v : Value} (h : w.cell? a = some v) : a.spot = none := by
  unfold World.cell? at h
  split at h
  · split at h
    · cases h
    · rename_i hs; cases hh : a.spot with
      | none => rfl
      | some s => rw [hh] at hs; simp at hs
  · cases h
theorem open_mem {H : Type} {enc : TypeId × Value → H} {P : Program} {w : World} {base b0 : Nat} {spare : Nat → Bool} {held : Bool} {r : Reach} {t tE : TypeId} {f0 g0 g1 g2 : Field} {v : Value} {d : DataW H} {pl : List MemPlace}
    (hM : P.underlying t = some (.struct #[f0])) (h1 : oneCellFields P #[f0] = true) (hc : P.cellsOf t = 1) (hS : P.underlying f0.type = some (.slice tE)) (hE : P.underlying tE = some (.struct #[g0, g1, g2])) (h3 : oneCellFields P #[g0, g1, g2] = true) (hc3 : P.cellsOf tE = 3)
    (u0 : P.underlying g0.type = some (.int .i64)) (u1 : P.underlying g1.type = some (.int .i64)) (u2 : P.underlying g2.type = some .string)
    (hv : Value.okWide P w r b0 t v) (h : DataW.Trod enc P w base spare held t v d pl) :
    ∃ (q : Option Addr) (l : List Pg) (cap : Nat), v = .agg #[.slice q l.length cap] ∧ Rd w q l ∧ Fits l := by
  obtain ⟨cs, rfl, hsz⟩ := okWide_struct hM hv
  rw [hc] at hsz
  obtain ⟨c0, rfl⟩ : ∃ c, cs = #[c] := Array.size_eq_one_iff.mp hsz
  obtain ⟨fuel, hf⟩ := h
  obtain ⟨xs, n, _, hx, _, hlen, hg⟩ := DataW.trod_struct hM hf
  obtain ⟨o0, k0⟩ := hone_of h1 0 f0 rfl
  have e0 := hg 0 f0 rfl
  rw [o0, k0] at e0
  simp only [Value.cells, List.drop_zero] at e0
  obtain ⟨y, hy⟩ : ∃ y, xs[0]? = some y := ⟨_, List.getElem?_eq_getElem (by rw [hlen]; simp)⟩
  rw [hy] at e0
  have e1 : DataW.trod enc P w base spare held n f0.type [c0] = some y := e0
  rcases open_slice hS e1 with ⟨hcs, _⟩ | ⟨a, len, cap, m, n2, D, Pl, hcs, _, hl, hmx, hmm, _, hi⟩
  · cases hcs
    exact ⟨none, [], 0, rfl, fun k x hk => by simp at hk, by simp, fun k x hk => by simp at hk⟩
  · cases hcs
    have hlm : len ≤ m := by rw [hmm]; split <;> omega
    have hsp (h0 : 0 < len) : a.spot = none := by
      obtain ⟨cs', hcs', _⟩ := hi 0 (by omega)
      rw [hc3] at hcs'
      obtain ⟨_, hcl, hat⟩ := World.cells?_some hcs'
      have a0 := hat 0 (by omega)
      rw [List.getElem?_eq_getElem (by omega), Go.Deep.add_add] at a0
      have := cell_spot a0
      simpa [Addr.add] using this
    obtain ⟨l, hll, hq⟩ := list_of (α := Pg) (Q := fun i x => a.spot = none ∧ w.cell? ⟨a.block, a.off + i * 3, none⟩ = some (.int .i64 x.b) ∧ w.cell? ⟨a.block, a.off + i * 3 + 1, none⟩ = some (.int .i64 x.p) ∧ w.cell? ⟨a.block, a.off + i * 3 + 2, none⟩ = some (.string x.d) ∧ x.d.size ≤ maxLen) len (fun i hil => by
      obtain ⟨cs', hcs', ht'⟩ := hi i (by omega)
      rw [hc3] at hcs'
      obtain ⟨_, hcl, hat⟩ := World.cells?_some hcs'
      obtain ⟨ys, n3, _, _, _, hyl, hfs⟩ := DataW.trod_struct hE ht'
      match cs', hcl with
      | [z0, z1, z2], _ =>
        obtain ⟨p0, q0⟩ := hone_of h3 0 g0 rfl
        obtain ⟨p1, q1⟩ := hone_of h3 1 g1 rfl
        obtain ⟨p2, q2⟩ := hone_of h3 2 g2 rfl
        have t0 := hfs 0 g0 rfl
        have t1 := hfs 1 g1 rfl
        have t2 := hfs 2 g2 rfl
        rw [p0, q0] at t0
        rw [p1, q1] at t1
        rw [p2, q2] at t2
        obtain ⟨y0, hy0⟩ : ∃ y, ys[0]? = some y := ⟨_, List.getElem?_eq_getElem (by rw [hyl]; simp)⟩
        obtain ⟨y1, hy1⟩ : ∃ y, ys[1]? = some y := ⟨_, List.getElem?_eq_getElem (by rw [hyl]; simp)⟩
        obtain ⟨y2, hy2⟩ : ∃ y, ys[2]? = some y := ⟨_, List.getElem?_eq_getElem (by rw [hyl]; simp)⟩
        rw [hy0] at t0
        rw [hy1] at t1
        rw [hy2] at t2
        obtain ⟨b, eb, _, _⟩ := DataW.trod_int u0 t0
        obtain ⟨p, ep, _, _⟩ := DataW.trod_int u1 t1
        obtain ⟨s, es, _, hsz⟩ := DataW.trod_string u2 t2
        have a0 := hat 0 (by omega)
        have a1 := hat 1 (by omega)
        have a2 := hat 2 (by omega)
        rw [Go.Deep.add_add] at a0 a1 a2
        simp at eb ep es
        subst eb ep es
        have hsp := hsp (by omega)
        have ea (j : Nat) : a.add j = ⟨a.block, a.off + j, none⟩ := by
          unfold Addr.add
          split
          · rename_i hj; subst hj; cases a; simp_all
          · simp
        rw [ea] at a0 a1 a2
        exact ⟨⟨b, p, s⟩, hsp, a0, a1, a2, hsz⟩)
    refine ⟨some a, l, cap, by rw [hll], fun k x hk => ?_, ?_, fun k x hk => ?_⟩
    · obtain ⟨hsp, b0, b1, b2, _⟩ := hq k x hk
      refine ⟨a.block, a.off, ?_, World.block_lt_of_cell? w ⟨a.block, _, none⟩ b0, b0, b1, b2⟩
      cases a; simp_all
    · rw [hll]; unfold maxLen at hmx; omega
    · have := (hq k x hk).2.2.2.2; unfold maxLen at this; exact this
end Go.Proofs.YtbkgmpkednkbcaaGreatDoor
