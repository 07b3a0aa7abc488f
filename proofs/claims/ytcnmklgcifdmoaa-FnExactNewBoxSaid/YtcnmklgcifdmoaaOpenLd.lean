/-
  How an argument that is a loaded thing (a laws.Loaded) reads: pages, four numbers, and a report; no condition but those in each head.
-/
import Derived.Test.YtcnmklgcifdmoaaOpenBox
import Derived.Test.YtcnmklgcifdmoaaOpenRep
namespace Go.Proofs.Ytcnmklgcifdmoaa
open Go.RowKit Go.ChangeShapes Go.WideShapes Go.Deep Go.Joins
set_option linter.unusedVariables false
theorem read_rep {H : Type} {enc : TypeId × Value → H} {P : Program} {w : World} {base : Nat} {spare : Nat → Bool} {held : Bool} {fuel : Nat} {t tE : TypeId} {f0 f1 f2 f3 : Field} {c0 c1 c2 c3 : Value} {z0 : DataW H × List MemPlace}
    (hM : P.underlying t = some (.struct #[f0, f1, f2, f3])) (h1 : oneCellFields P #[f0, f1, f2, f3] = true)
    (s0 : P.underlying f0.type = some (.slice tE)) (s1 : P.underlying f1.type = some (.slice tE)) (s2 : P.underlying f2.type = some (.slice tE)) (s3 : P.underlying f3.type = some (.int .i64))
    (hE : P.underlying tE = some (.int .i64)) (hc1 : P.cellsOf tE = 1)
    (hf : DataW.trod enc P w base spare held fuel t [c0, c1, c2, c3] = some z0) :
    ∃ (q0 q1 q2 : Option Addr) (L0 L1 L2 : List Int) (p0 p1 p2 : Nat) (n : Int), c0 = .slice q0 L0.length p0 ∧ c1 = .slice q1 L1.length p1 ∧ c2 = .slice q2 L2.length p2 ∧ c3 = .int .i64 n ∧ RdA w q0 L0 ∧ RdA w q1 L1 ∧ RdA w q2 L2 := by
  obtain ⟨xs, n, _, hx, _, hlen, hg⟩ := DataW.trod_struct hM hf
  have get (j : Nat) (f : Field) (c : Value) (hj : j < 4) (hf : (#[f0, f1, f2, f3] : Array Field)[j]? = some f) (hcj : (([c0, c1, c2, c3] : List Value).drop j).take 1 = [c]) : ∃ y, DataW.trod enc P w base spare held n f.type [c] = some y := by
    obtain ⟨o, k⟩ := hone_of h1 j f hf
    have e := hg j f hf
    rw [o, k, hcj] at e
    obtain ⟨y, hy⟩ : ∃ y, xs[j]? = some y := ⟨_, List.getElem?_eq_getElem (by rw [hlen]; exact hj)⟩
    exact ⟨y, by rw [hy] at e; exact e⟩
  obtain ⟨y0, e0⟩ := get 0 f0 c0 (by decide) rfl rfl
  obtain ⟨y1, e1⟩ := get 1 f1 c1 (by decide) rfl rfl
  obtain ⟨y2, e2⟩ := get 2 f2 c2 (by decide) rfl rfl
  obtain ⟨y3, e3⟩ := get 3 f3 c3 (by decide) rfl rfl
  obtain ⟨q0, L0, p0, rfl, r0⟩ := read_ints s0 hE hc1 e0
  obtain ⟨q1, L1, p1, rfl, r1⟩ := read_ints s1 hE hc1 e1
  obtain ⟨q2, L2, p2, rfl, r2⟩ := read_ints s2 hE hc1 e2
  obtain ⟨z, ez, _, _⟩ := DataW.trod_int s3 e3
  simp only [List.cons.injEq, and_true] at ez
  subst ez
  exact ⟨q0, q1, q2, L0, L1, L2, p0, p1, p2, z, rfl, rfl, rfl, rfl, r0, r1, r2⟩
theorem open_ld {H : Type} {enc : TypeId × Value → H} {P : Program} {w : World} {base b0 : Nat} {spare : Nat → Bool} {held : Bool} {r : Reach} {t tE tI : TypeId} {f0 f1 f2 f3 f4 f5 m0 g0 g1 g2 k0 k1 k2 k3 : Field} {v : Value} {d : DataW H} {pl : List MemPlace}
    (hI : P.underlying t = some (.struct #[f0, f1, f2, f3, f4, f5])) (hc : P.cellsOf t = 9)
    (ho : [f0.offset, f1.offset, f2.offset, f3.offset, f4.offset, f5.offset] = [0, 1, 2, 3, 4, 5]) (hk : [P.cellsOf f0.type, P.cellsOf f1.type, P.cellsOf f2.type, P.cellsOf f3.type, P.cellsOf f4.type, P.cellsOf f5.type] = [1, 1, 1, 1, 1, 4])
    (hM : P.underlying f0.type = some (.struct #[m0])) (h1 : oneCellFields P #[m0] = true) (hS : P.underlying m0.type = some (.slice tE)) (hE : P.underlying tE = some (.struct #[g0, g1, g2])) (h3 : oneCellFields P #[g0, g1, g2] = true) (hc3 : P.cellsOf tE = 3)
    (u0 : P.underlying g0.type = some (.int .i64)) (u1 : P.underlying g1.type = some (.int .i64)) (u2 : P.underlying g2.type = some .string)
    (hu : [P.underlying f1.type, P.underlying f2.type, P.underlying f3.type, P.underlying f4.type] = [some (.int .i64), some (.int .i64), some (.int .i64), some (.int .i64)])
    (hR : P.underlying f5.type = some (.struct #[k0, k1, k2, k3])) (hr1 : oneCellFields P #[k0, k1, k2, k3] = true)
    (s0 : P.underlying k0.type = some (.slice tI)) (s1 : P.underlying k1.type = some (.slice tI)) (s2 : P.underlying k2.type = some (.slice tI)) (s3 : P.underlying k3.type = some (.int .i64))
    (hEI : P.underlying tI = some (.int .i64)) (hc1 : P.cellsOf tI = 1)
    (hv : Value.okWide P w r b0 t v) (h : DataW.Trod enc P w base spare held t v d pl) :
    ∃ (E H' T S : Int) (q : Option Addr) (l : List Pg) (cap : Nat) (q0 q1 q2 : Option Addr) (L0 L1 L2 : List Int) (p0 p1 p2 : Nat) (n : Int), v = .agg #[.slice q l.length cap, .int .i64 E, .int .i64 H', .int .i64 T, .int .i64 S, .slice q0 L0.length p0, .slice q1 L1.length p1, .slice q2 L2.length p2, .int .i64 n] ∧ Rd w q l ∧ Fits l ∧ RdA w q0 L0 ∧ RdA w q1 L1 ∧ RdA w q2 L2 := by
  obtain ⟨cs, rfl, hsz⟩ := okWide_struct hI hv
  obtain ⟨x0, x1, x2, x3, x4, x5, x6, x7, x8, rfl⟩ : ∃ x0 x1 x2 x3 x4 x5 x6 x7 x8, cs = #[x0, x1, x2, x3, x4, x5, x6, x7, x8] := by
    match cs, hsz.trans hc with
    | ⟨[x0, x1, x2, x3, x4, x5, x6, x7, x8]⟩, _ => exact ⟨x0, x1, x2, x3, x4, x5, x6, x7, x8, rfl⟩
  obtain ⟨fuel, hf⟩ := h
  obtain ⟨xs, n, _, hx, _, hlen, hg⟩ := DataW.trod_struct hI hf
  simp only [List.cons.injEq, and_true] at ho hk hu
  obtain ⟨oo0, oo1, oo2, oo3, oo4, oo5⟩ := ho
  obtain ⟨kk0, kk1, kk2, kk3, kk4, kk5⟩ := hk
  obtain ⟨uu1, uu2, uu3, uu4⟩ := hu
  have get (j : Nat) (f : Field) (o k : Nat) (L : List Value) (hj : j < 6) (hf : (#[f0, f1, f2, f3, f4, f5] : Array Field)[j]? = some f) (ho : f.offset = o) (hk : P.cellsOf f.type = k)
      (hcj : ((Value.agg #[x0, x1, x2, x3, x4, x5, x6, x7, x8]).cells.toList.drop o).take k = L) : ∃ y, DataW.trod enc P w base spare held n f.type L = some y := by
    have e := hg j f hf
    rw [ho, hk, hcj] at e
    obtain ⟨y, hy⟩ : ∃ y, xs[j]? = some y := ⟨_, List.getElem?_eq_getElem (by rw [hlen]; exact hj)⟩
    exact ⟨y, by rw [hy] at e; exact e⟩
  obtain ⟨y0, e0⟩ := get 0 f0 0 1 [x0] (by decide) rfl oo0 kk0 rfl
  obtain ⟨q, l, cap, rfl, hr, hfit⟩ := read_mem hM h1 hS hE h3 hc3 u0 u1 u2 e0
  obtain ⟨y1, e1⟩ := get 1 f1 1 1 [x1] (by decide) rfl oo1 kk1 rfl
  obtain ⟨z1, ez1, _, hw1⟩ := DataW.trod_int uu1 e1
  simp only [List.cons.injEq, and_true] at ez1
  subst ez1
  obtain ⟨y2, e2⟩ := get 2 f2 2 1 [x2] (by decide) rfl oo2 kk2 rfl
  obtain ⟨z2, ez2, _, hw2⟩ := DataW.trod_int uu2 e2
  simp only [List.cons.injEq, and_true] at ez2
  subst ez2
  obtain ⟨y3, e3⟩ := get 3 f3 3 1 [x3] (by decide) rfl oo3 kk3 rfl
  obtain ⟨z3, ez3, _, hw3⟩ := DataW.trod_int uu3 e3
  simp only [List.cons.injEq, and_true] at ez3
  subst ez3
  obtain ⟨y4, e4⟩ := get 4 f4 4 1 [x4] (by decide) rfl oo4 kk4 rfl
  obtain ⟨z4, ez4, _, hw4⟩ := DataW.trod_int uu4 e4
  simp only [List.cons.injEq, and_true] at ez4
  subst ez4
  obtain ⟨y5, e5⟩ := get 5 f5 5 4 [x5, x6, x7, x8] (by decide) rfl oo5 kk5 rfl
  obtain ⟨q0, q1, q2, L0, L1, L2, p0, p1, p2, m, rfl, rfl, rfl, rfl, r0, r1, r2⟩ := read_rep hR hr1 s0 s1 s2 s3 hEI hc1 e5
  exact ⟨z1, z2, z3, z4, q, l, cap, q0, q1, q2, L0, L1, L2, p0, p1, p2, m, rfl, hr, hfit, r0, r1, r2⟩
end Go.Proofs.Ytcnmklgcifdmoaa
