/-
  How an argument that is an instruction (a laws.Instr: five ints and two structs of seven ints) reads; no condition but those in each head.
-/
import Derived.Test.YtjnjlgaemmdkhaaGreatDoorMathOpd
import Derived.Deep.Slices
import Derived.Deep.Fields
import Derived.Lib.SmallJoins
import Derived.OpenShut
namespace Go.Proofs.YtjnjlgaemmdkhaaGreatDoor
open Go.RowKit Go.ChangeShapes Go.WideShapes Go.Deep Go.Joins
theorem array19 {α : Type} {a : Array α} (h : a.size = 19) : ∃ x0 x1 x2 x3 x4 x5 x6 x7 x8 x9 x10 x11 x12 x13 x14 x15 x16 x17 x18, a = #[x0, x1, x2, x3, x4, x5, x6, x7, x8, x9, x10, x11, x12, x13, x14, x15, x16, x17, x18] := by
  match a, h with
  | ⟨[x0, x1, x2, x3, x4, x5, x6, x7, x8, x9, x10, x11, x12, x13, x14, x15, x16, x17, x18]⟩, _ => exact ⟨x0, x1, x2, x3, x4, x5, x6, x7, x8, x9, x10, x11, x12, x13, x14, x15, x16, x17, x18, rfl⟩
/-- a struct of seven ints, as its data is read -/
theorem read7 {H : Type} {enc : TypeId × Value → H} {P : Program} {w : World} {base : Nat} {spare : Nat → Bool} {held : Bool} {t : TypeId} {g0 g1 g2 g3 g4 g5 g6 : Field} {fuel : Nat} {c0 c1 c2 c3 c4 c5 c6 : Value} {x : DataW H × List MemPlace}
    (hM : P.underlying t = some (.struct #[g0, g1, g2, g3, g4, g5, g6])) (h1 : oneCellFields P #[g0, g1, g2, g3, g4, g5, g6] = true)
    (u0 : P.underlying g0.type = some (.int .i64)) (u1 : P.underlying g1.type = some (.int .i64)) (u2 : P.underlying g2.type = some (.int .i64)) (u3 : P.underlying g3.type = some (.int .i64)) (u4 : P.underlying g4.type = some (.int .i64)) (u5 : P.underlying g5.type = some (.int .i64)) (u6 : P.underlying g6.type = some (.int .i64))
    (h : DataW.trod enc P w base spare held fuel t [c0, c1, c2, c3, c4, c5, c6] = some x) : ∃ o : Opd, [c0, c1, c2, c3, c4, c5, c6] = opdL o := by
  obtain ⟨xs, n, _, hx, _, hlen, hg⟩ := DataW.trod_struct hM h
  have get (j : Nat) (f : Field) (c : Value) (hj : j < 7) (hf : (#[g0, g1, g2, g3, g4, g5, g6] : Array Field)[j]? = some f) (u : P.underlying f.type = some (.int .i64)) (hcj : (([c0, c1, c2, c3, c4, c5, c6] : List Value).drop j).take 1 = [c]) : ∃ k, c = .int .i64 k := by
    obtain ⟨o, k⟩ := hone_of h1 j f hf
    have e := hg j f hf
    rw [o, k, hcj] at e
    obtain ⟨y, hy⟩ : ∃ y, xs[j]? = some y := ⟨_, List.getElem?_eq_getElem (by rw [hlen]; exact hj)⟩
    rw [hy] at e
    obtain ⟨z, ez, _, _⟩ := DataW.trod_int u e
    simp only [List.cons.injEq, and_true] at ez
    exact ⟨z, ez⟩
  obtain ⟨k0, rfl⟩ := get 0 g0 c0 (by decide) rfl u0 rfl
  obtain ⟨k1, rfl⟩ := get 1 g1 c1 (by decide) rfl u1 rfl
  obtain ⟨k2, rfl⟩ := get 2 g2 c2 (by decide) rfl u2 rfl
  obtain ⟨k3, rfl⟩ := get 3 g3 c3 (by decide) rfl u3 rfl
  obtain ⟨k4, rfl⟩ := get 4 g4 c4 (by decide) rfl u4 rfl
  obtain ⟨k5, rfl⟩ := get 5 g5 c5 (by decide) rfl u5 rfl
  obtain ⟨k6, rfl⟩ := get 6 g6 c6 (by decide) rfl u6 rfl
  exact ⟨⟨k0, k1, k2, k3, k4, k5, k6⟩, rfl⟩
theorem open_ins {H : Type} {enc : TypeId × Value → H} {P : Program} {w : World} {base b0 : Nat} {spare : Nat → Bool} {held : Bool} {r : Reach} {t : TypeId} {f0 f1 f2 f3 f4 f5 f6 : Field} {g0 g1 g2 g3 g4 g5 g6 : Field} {v : Value} {d : DataW H} {pl : List MemPlace}
    (hI : P.underlying t = some (.struct #[f0, f1, f2, f3, f4, f5, f6])) (hc : P.cellsOf t = 19)
    (hM : P.underlying f4.type = some (.struct #[g0, g1, g2, g3, g4, g5, g6])) (e45 : f5.type = f4.type) (hC : P.cellsOf f4.type = 7) (h1 : oneCellFields P #[g0, g1, g2, g3, g4, g5, g6] = true)
    (ho : [f0.offset, f1.offset, f2.offset, f3.offset, f4.offset, f5.offset, f6.offset] = [0, 1, 2, 3, 4, 11, 18])
    (hk : [P.cellsOf f0.type, P.cellsOf f1.type, P.cellsOf f2.type, P.cellsOf f3.type, P.cellsOf f6.type] = [1, 1, 1, 1, 1])
    (v0 : P.underlying f0.type = some (.int .i64)) (v1 : P.underlying f1.type = some (.int .i64)) (v2 : P.underlying f2.type = some (.int .i64)) (v3 : P.underlying f3.type = some (.int .i64)) (v6 : P.underlying f6.type = some (.int .i64))
    (u0 : P.underlying g0.type = some (.int .i64)) (u1 : P.underlying g1.type = some (.int .i64)) (u2 : P.underlying g2.type = some (.int .i64)) (u3 : P.underlying g3.type = some (.int .i64)) (u4 : P.underlying g4.type = some (.int .i64)) (u5 : P.underlying g5.type = some (.int .i64)) (u6 : P.underlying g6.type = some (.int .i64))
    (hv : Value.okWide P w r b0 t v) (h : DataW.Trod enc P w base spare held t v d pl) :
    ∃ x : Ins, v = .agg (insV x) := by
  obtain ⟨cs, rfl, hsz⟩ := okWide_struct hI hv
  obtain ⟨c0, c1, c2, c3, c4, c5, c6, c7, c8, c9, c10, c11, c12, c13, c14, c15, c16, c17, c18, rfl⟩ := array19 (hsz.trans hc)
  obtain ⟨fuel, hf⟩ := h
  obtain ⟨xs, n, _, hx, _, hlen, hg⟩ := DataW.trod_struct hI hf
  simp only [List.cons.injEq, and_true] at ho hk
  obtain ⟨o0, o1, o2, o3, o4, o5, o6⟩ := ho
  obtain ⟨k0, k1, k2, k3, k6⟩ := hk
  have get (j : Nat) (f : Field) (o : Nat) (c : Value) (hj : j < 7) (hf : (#[f0, f1, f2, f3, f4, f5, f6] : Array Field)[j]? = some f) (ho : f.offset = o) (hk : P.cellsOf f.type = 1) (u : P.underlying f.type = some (.int .i64))
      (hcj : ((Value.agg #[c0, c1, c2, c3, c4, c5, c6, c7, c8, c9, c10, c11, c12, c13, c14, c15, c16, c17, c18]).cells.toList.drop o).take 1 = [c]) : ∃ k, c = .int .i64 k := by
    have e := hg j f hf
    rw [ho, hk, hcj] at e
    obtain ⟨y, hy⟩ : ∃ y, xs[j]? = some y := ⟨_, List.getElem?_eq_getElem (by rw [hlen]; exact hj)⟩
    rw [hy] at e
    obtain ⟨z, ez, _, _⟩ := DataW.trod_int u e
    simp only [List.cons.injEq, and_true] at ez
    exact ⟨z, ez⟩
  obtain ⟨a0, rfl⟩ := get 0 f0 0 c0 (by decide) rfl o0 k0 v0 rfl
  obtain ⟨a1, rfl⟩ := get 1 f1 1 c1 (by decide) rfl o1 k1 v1 rfl
  obtain ⟨a2, rfl⟩ := get 2 f2 2 c2 (by decide) rfl o2 k2 v2 rfl
  obtain ⟨a3, rfl⟩ := get 3 f3 3 c3 (by decide) rfl o3 k3 v3 rfl
  obtain ⟨a6, rfl⟩ := get 6 f6 18 c18 (by decide) rfl o6 k6 v6 rfl
  have e4 := hg 4 f4 rfl
  have e5 := hg 5 f5 rfl
  rw [o4, hC] at e4
  rw [o5, e45, hC] at e5
  obtain ⟨y4, hy4⟩ : ∃ y, xs[4]? = some y := ⟨_, List.getElem?_eq_getElem (by rw [hlen]; exact (show _ < 7 by decide))⟩
  obtain ⟨y5, hy5⟩ : ∃ y, xs[5]? = some y := ⟨_, List.getElem?_eq_getElem (by rw [hlen]; exact (show _ < 7 by decide))⟩
  rw [hy4] at e4; rw [hy5] at e5
  obtain ⟨od, hd⟩ := read7 (c0 := c4) (c1 := c5) (c2 := c6) (c3 := c7) (c4 := c8) (c5 := c9) (c6 := c10) hM h1 u0 u1 u2 u3 u4 u5 u6 e4
  obtain ⟨os, hs⟩ := read7 (c0 := c11) (c1 := c12) (c2 := c13) (c3 := c14) (c4 := c15) (c5 := c16) (c6 := c17) hM h1 u0 u1 u2 u3 u4 u5 u6 e5
  unfold opdL at hd hs
  simp only [List.cons.injEq, and_true] at hd hs
  obtain ⟨rfl, rfl, rfl, rfl, rfl, rfl, rfl⟩ := hd
  obtain ⟨rfl, rfl, rfl, rfl, rfl, rfl, rfl⟩ := hs
  exact ⟨⟨a0, a1, a2, a3, od, os, a6⟩, rfl⟩
end Go.Proofs.YtjnjlgaemmdkhaaGreatDoor
