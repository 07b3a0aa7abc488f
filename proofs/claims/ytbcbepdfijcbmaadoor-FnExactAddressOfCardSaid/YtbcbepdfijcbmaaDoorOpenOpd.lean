/-
  How an argument that is a struct of seven ints (a laws.Operand) reads; no condition but those in each head.
-/
import Derived.Test.YtbcbepdfijcbmaaDoorMathOpd
import Derived.Deep.Slices
import Derived.Deep.Fields
import Derived.Lib.SmallJoins
import Derived.OpenShut
namespace Go.Proofs.YtbcbepdfijcbmaaDoor
open Go.RowKit Go.ChangeShapes Go.WideShapes Go.Deep Go.Joins
theorem array7 {α : Type} {a : Array α} (h : a.size = 7) : ∃ x0 x1 x2 x3 x4 x5 x6, a = #[x0, x1, x2, x3, x4, x5, x6] := by
  match a, h with
  | ⟨[x0, x1, x2, x3, x4, x5, x6]⟩, _ => exact ⟨x0, x1, x2, x3, x4, x5, x6, rfl⟩
theorem open_opd {H : Type} {enc : TypeId × Value → H} {P : Program} {w : World} {base b0 : Nat} {spare : Nat → Bool} {held : Bool} {r : Reach} {t : TypeId} {g0 g1 g2 g3 g4 g5 g6 : Field} {v : Value} {d : DataW H} {pl : List MemPlace}
    (hM : P.underlying t = some (.struct #[g0, g1, g2, g3, g4, g5, g6])) (h1 : oneCellFields P #[g0, g1, g2, g3, g4, g5, g6] = true) (hc : P.cellsOf t = 7)
    (u0 : P.underlying g0.type = some (.int .i64)) (u1 : P.underlying g1.type = some (.int .i64)) (u2 : P.underlying g2.type = some (.int .i64)) (u3 : P.underlying g3.type = some (.int .i64)) (u4 : P.underlying g4.type = some (.int .i64)) (u5 : P.underlying g5.type = some (.int .i64)) (u6 : P.underlying g6.type = some (.int .i64))
    (hv : Value.okWide P w r b0 t v) (h : DataW.Trod enc P w base spare held t v d pl) :
    ∃ x : Opd, v = .agg #[.int .i64 x.k, .int .i64 x.r, .int .i64 x.b, .int .i64 x.i, .int .i64 x.s, .int .i64 x.d, .int .i64 x.m] := by
  obtain ⟨cs, rfl, hsz⟩ := okWide_struct hM hv
  obtain ⟨c0, c1, c2, c3, c4, c5, c6, rfl⟩ := array7 (hsz.trans hc)
  obtain ⟨fuel, hf⟩ := h
  obtain ⟨xs, n, _, hx, _, hlen, hg⟩ := DataW.trod_struct hM hf
  have get (j : Nat) (f : Field) (c : Value) (hj : j < 7) (hf : (#[g0, g1, g2, g3, g4, g5, g6] : Array Field)[j]? = some f) (u : P.underlying f.type = some (.int .i64)) (hcj : ((Value.agg #[c0, c1, c2, c3, c4, c5, c6]).cells.toList.drop j).take 1 = [c]) : ∃ k, c = .int .i64 k := by
    obtain ⟨o, k⟩ := hone_of h1 j f hf
    have e := hg j f hf
    rw [o, k, hcj] at e
    obtain ⟨y, hy⟩ : ∃ y, xs[j]? = some y := ⟨_, List.getElem?_eq_getElem (by rw [hlen]; exact hj)⟩
    rw [hy] at e
    obtain ⟨z, ez, _, _⟩ := DataW.trod_int u e
    simp only [List.cons.injEq, and_true] at ez
    exact ⟨z, ez⟩
  obtain ⟨k0, rfl⟩ := get 0 g0 c0 (by decide) rfl u0 rfl
  obtain ⟨k1, rfl⟩ := get 1 g1 c1 (by decide) rfl u1 rfl
  obtain ⟨k2, rfl⟩ := get 2 g2 c2 (by decide) rfl u2 rfl
  obtain ⟨k3, rfl⟩ := get 3 g3 c3 (by decide) rfl u3 rfl
  obtain ⟨k4, rfl⟩ := get 4 g4 c4 (by decide) rfl u4 rfl
  obtain ⟨k5, rfl⟩ := get 5 g5 c5 (by decide) rfl u5 rfl
  obtain ⟨k6, rfl⟩ := get 6 g6 c6 (by decide) rfl u6 rfl
  exact ⟨⟨k0, k1, k2, k3, k4, k5, k6⟩, rfl⟩
end Go.Proofs.YtbcbepdfijcbmaaDoor
