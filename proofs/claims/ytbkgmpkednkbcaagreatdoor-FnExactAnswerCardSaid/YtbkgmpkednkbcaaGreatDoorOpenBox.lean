/-
  How an argument that is a box (a laws.Box) reads: as a processor, a slice of pages that lie in memory, numbers and texts; no condition but those in each head.
-/
import Derived.Test.YtbkgmpkednkbcaaGreatDoorMathBox
import Derived.Test.YtbkgmpkednkbcaaGreatDoorOpenMem
namespace Go.Proofs.YtbkgmpkednkbcaaGreatDoor
open Go.RowKit Go.ChangeShapes Go.WideShapes Go.Deep
set_option linter.unusedVariables false
theorem read_mem {H : Type} {enc : TypeId × Value → H} {P : Program} {w : World} {base : Nat} {spare : Nat → Bool} {held : Bool} {fuel : Nat} {t tE : TypeId} {f0 g0 g1 g2 : Field} {c0 : Value} {z : DataW H × List MemPlace}
    (hM : P.underlying t = some (.struct #[f0])) (h1 : oneCellFields P #[f0] = true) (hS : P.underlying f0.type = some (.slice tE)) (hE : P.underlying tE = some (.struct #[g0, g1, g2])) (h3 : oneCellFields P #[g0, g1, g2] = true) (hc3 : P.cellsOf tE = 3)
    (u0 : P.underlying g0.type = some (.int .i64)) (u1 : P.underlying g1.type = some (.int .i64)) (u2 : P.underlying g2.type = some .string)
    (h : DataW.trod enc P w base spare held fuel t [c0] = some z) :
    ∃ (q : Option Addr) (l : List Pg) (cap : Nat), c0 = .slice q l.length cap ∧ Rd w q l ∧ Fits l := by
  obtain ⟨xs, n, _, hx, _, hlen, hg⟩ := DataW.trod_struct hM h
  obtain ⟨o0, k0⟩ := hone_of h1 0 f0 rfl
  have e0 := hg 0 f0 rfl
  rw [o0, k0] at e0
  simp only [List.drop_zero] at e0
  obtain ⟨y, hy⟩ : ∃ y, xs[0]? = some y := ⟨_, List.getElem?_eq_getElem (by rw [hlen]; simp)⟩
  rw [hy] at e0
  have e1 : DataW.trod enc P w base spare held n f0.type [c0] = some y := e0
  rcases open_slice hS e1 with ⟨hcs, _⟩ | ⟨a, len, cap, m, n2, D, Pl, hcs, _, hl, hmx, hmm, _, hi⟩
  · cases hcs
    exact ⟨none, [], 0, rfl, fun k x hk => by simp at hk, by simp, fun k x hk => by simp at hk⟩
  · cases hcs
    have hlm : len ≤ m := by rw [hmm]; split <;> omega
    have hsp (h0 : 0 < len) : a.spot = none := by
      obtain ⟨cs', hcs', _⟩ := hi 0 (by omega)
      rw [hc3] at hcs'
      obtain ⟨_, hcl, hat⟩ := World.cells?_some hcs'
      have a0 := hat 0 (by omega)
      rw [List.getElem?_eq_getElem (by omega), Go.Deep.add_add] at a0
      have := cell_spot a0
      simpa [Addr.add] using this
    obtain ⟨l, hll, hq⟩ := list_of (α := Pg) (Q := fun i x => a.spot = none ∧ w.cell? ⟨a.block, a.off + i * 3, none⟩ = some (.int .i64 x.b) ∧ w.cell? ⟨a.block, a.off + i * 3 + 1, none⟩ = some (.int .i64 x.p) ∧ w.cell? ⟨a.block, a.off + i * 3 + 2, none⟩ = some (.string x.d) ∧ x.d.size ≤ maxLen) len (fun i hil => by
      obtain ⟨cs', hcs', ht'⟩ := hi i (by omega)
      rw [hc3] at hcs'
      obtain ⟨_, hcl, hat⟩ := World.cells?_some hcs'
      obtain ⟨ys, n3, _, _, _, hyl, hfs⟩ := DataW.trod_struct hE ht'
      match cs', hcl with
      | [z0, z1, z2], _ =>
        obtain ⟨p0, q0⟩ := hone_of h3 0 g0 rfl
        obtain ⟨p1, q1⟩ := hone_of h3 1 g1 rfl
        obtain ⟨p2, q2⟩ := hone_of h3 2 g2 rfl
        have t0 := hfs 0 g0 rfl
        have t1 := hfs 1 g1 rfl
        have t2 := hfs 2 g2 rfl
        rw [p0, q0] at t0
        rw [p1, q1] at t1
        rw [p2, q2] at t2
        obtain ⟨y0, hy0⟩ : ∃ y, ys[0]? = some y := ⟨_, List.getElem?_eq_getElem (by rw [hyl]; simp)⟩
        obtain ⟨y1, hy1⟩ : ∃ y, ys[1]? = some y := ⟨_, List.getElem?_eq_getElem (by rw [hyl]; simp)⟩
        obtain ⟨y2, hy2⟩ : ∃ y, ys[2]? = some y := ⟨_, List.getElem?_eq_getElem (by rw [hyl]; simp)⟩
        rw [hy0] at t0
        rw [hy1] at t1
        rw [hy2] at t2
        obtain ⟨b, eb, _, _⟩ := DataW.trod_int u0 t0
        obtain ⟨p, ep, _, _⟩ := DataW.trod_int u1 t1
        obtain ⟨s, es, _, hsz⟩ := DataW.trod_string u2 t2
        have a0 := hat 0 (by omega)
        have a1 := hat 1 (by omega)
        have a2 := hat 2 (by omega)
        rw [Go.Deep.add_add] at a0 a1 a2
        simp at eb ep es
        subst eb ep es
        have hsp := hsp (by omega)
        have ea (j : Nat) : a.add j = ⟨a.block, a.off + j, none⟩ := by
          unfold Addr.add
          split
          · rename_i hj; subst hj; cases a; simp_all
          · simp
        rw [ea] at a0 a1 a2
        exact ⟨⟨b, p, s⟩, hsp, a0, a1, a2, hsz⟩)
    refine ⟨some a, l, cap, by rw [hll], fun k x hk => ?_, ?_, fun k x hk => ?_⟩
    · obtain ⟨hsp, b0, b1, b2, _⟩ := hq k x hk
      refine ⟨a.block, a.off, ?_, World.block_lt_of_cell? w ⟨a.block, _, none⟩ b0, b0, b1, b2⟩
      cases a; simp_all
    · rw [hll]; unfold maxLen at hmx; omega
    · have := (hq k x hk).2.2.2.2; unfold maxLen at this; exact this
theorem read_cpu {H : Type} {enc : TypeId × Value → H} {P : Program} {w : World} {base : Nat} {spare : Nat → Bool} {held : Bool} {fuel : Nat} {t e : TypeId} {f0 f1 f2 : Field} {c0 c1 c2 c3 c4 c5 c6 c7 c8 c9 c10 c11 c12 c13 c14 c15 c16 c17 : Value} {z : DataW H × List MemPlace}
    (hI : P.underlying t = some (.struct #[f0, f1, f2]))
    (hA : P.underlying f0.type = some (.array 16 e)) (hC : P.cellsOf f0.type = 16) (hE : P.cellsOf e = 1) (ue : P.underlying e = some (.int .i64))
    (ho : [f0.offset, f1.offset, f2.offset] = [0, 16, 17]) (hk : [P.cellsOf f1.type, P.cellsOf f2.type] = [1, 1])
    (u1 : P.underlying f1.type = some (.int .i64)) (u2 : P.underlying f2.type = some (.int .i64))
    (hf : DataW.trod enc P w base spare held fuel t [c0, c1, c2, c3, c4, c5, c6, c7, c8, c9, c10, c11, c12, c13, c14, c15, c16, c17] = some z) :
    ∃ c : Cp, CpW c ∧ [c0, c1, c2, c3, c4, c5, c6, c7, c8, c9, c10, c11, c12, c13, c14, c15, c16, c17] = (cpV c).toList := by
  obtain ⟨xs, n, _, hx, _, hlen, hg⟩ := DataW.trod_struct hI hf
  simp only [List.cons.injEq, and_true] at ho hk
  obtain ⟨o0, o1, o2⟩ := ho
  obtain ⟨k1, k2⟩ := hk
  have get (j : Nat) (f : Field) (o : Nat) (c : Value) (hj : j < 3) (hf : (#[f0, f1, f2] : Array Field)[j]? = some f) (ho : f.offset = o) (hk : P.cellsOf f.type = 1) (u : P.underlying f.type = some (.int .i64))
      (hcj : (([c0, c1, c2, c3, c4, c5, c6, c7, c8, c9, c10, c11, c12, c13, c14, c15, c16, c17] : List Value).drop o).take 1 = [c]) : ∃ k, c = .int .i64 k ∧ (Lit.int .i64 k).wf = true := by
    have e := hg j f hf
    rw [ho, hk, hcj] at e
    obtain ⟨y, hy⟩ : ∃ y, xs[j]? = some y := ⟨_, List.getElem?_eq_getElem (by rw [hlen]; exact hj)⟩
    rw [hy] at e
    obtain ⟨z, ez, _, hw⟩ := DataW.trod_int u e
    simp only [List.cons.injEq, and_true] at ez
    exact ⟨z, ez, hw⟩
  obtain ⟨a1, rfl, w1⟩ := get 1 f1 16 c16 (by decide) rfl o1 k1 u1 rfl
  obtain ⟨a2, rfl, w2⟩ := get 2 f2 17 c17 (by decide) rfl o2 k2 u2 rfl
  have e0 := hg 0 f0 rfl
  rw [o0, hC] at e0
  obtain ⟨y0, hy0⟩ : ∃ y, xs[0]? = some y := ⟨_, List.getElem?_eq_getElem (by rw [hlen]; exact (show _ < 3 by decide))⟩
  rw [hy0] at e0
  obtain ⟨ys, m, _, _, _, hl2, hy⟩ := DataW.trod_array hA e0
  have getA (j : Nat) (c : Value) (hj : j < 16) (hcj : (((([c0, c1, c2, c3, c4, c5, c6, c7, c8, c9, c10, c11, c12, c13, c14, c15, .int .i64 a1, .int .i64 a2] : List Value).drop 0).take 16).drop j).take 1 = [c]) : ∃ k, c = .int .i64 k ∧ (Lit.int .i64 k).wf = true := by
    have e := hy j hj
    rw [hE, Nat.mul_one, hcj] at e
    obtain ⟨y, hy⟩ : ∃ y, ys[j]? = some y := ⟨_, List.getElem?_eq_getElem (by rw [hl2]; exact hj)⟩
    rw [hy] at e
    obtain ⟨z, ez, _, hw⟩ := DataW.trod_int ue e
    simp only [List.cons.injEq, and_true] at ez
    exact ⟨z, ez, hw⟩
  obtain ⟨g0, rfl, p0⟩ := getA 0 c0 (by decide) rfl
  obtain ⟨g1, rfl, p1⟩ := getA 1 c1 (by decide) rfl
  obtain ⟨g2, rfl, p2⟩ := getA 2 c2 (by decide) rfl
  obtain ⟨g3, rfl, p3⟩ := getA 3 c3 (by decide) rfl
  obtain ⟨g4, rfl, p4⟩ := getA 4 c4 (by decide) rfl
  obtain ⟨g5, rfl, p5⟩ := getA 5 c5 (by decide) rfl
  obtain ⟨g6, rfl, p6⟩ := getA 6 c6 (by decide) rfl
  obtain ⟨g7, rfl, p7⟩ := getA 7 c7 (by decide) rfl
  obtain ⟨g8, rfl, p8⟩ := getA 8 c8 (by decide) rfl
  obtain ⟨g9, rfl, p9⟩ := getA 9 c9 (by decide) rfl
  obtain ⟨g10, rfl, p10⟩ := getA 10 c10 (by decide) rfl
  obtain ⟨g11, rfl, p11⟩ := getA 11 c11 (by decide) rfl
  obtain ⟨g12, rfl, p12⟩ := getA 12 c12 (by decide) rfl
  obtain ⟨g13, rfl, p13⟩ := getA 13 c13 (by decide) rfl
  obtain ⟨g14, rfl, p14⟩ := getA 14 c14 (by decide) rfl
  obtain ⟨g15, rfl, p15⟩ := getA 15 c15 (by decide) rfl
  exact ⟨⟨fn16 g0 g1 g2 g3 g4 g5 g6 g7 g8 g9 g10 g11 g12 g13 g14 g15, a1, a2⟩, ⟨lt16 p0 p1 p2 p3 p4 p5 p6 p7 p8 p9 p10 p11 p12 p13 p14 p15, w1, w2⟩, rfl⟩
theorem open_box {H : Type} {enc : TypeId × Value → H} {P : Program} {w : World} {base b0 : Nat} {spare : Nat → Bool} {held : Bool} {r : Reach} {t tE e : TypeId} {f0 f1 f2 f3 f4 f5 f6 f7 f8 f9 f10 f11 f12 k0 k1 k2 m0 g0 g1 g2 : Field} {v : Value} {d : DataW H} {pl : List MemPlace}
    (hI : P.underlying t = some (.struct #[f0, f1, f2, f3, f4, f5, f6, f7, f8, f9, f10, f11, f12])) (hc : P.cellsOf t = 30)
    (ho : [f0.offset, f1.offset, f2.offset, f3.offset, f4.offset, f5.offset, f6.offset, f7.offset, f8.offset, f9.offset, f10.offset, f11.offset, f12.offset] = [0, 18, 19, 20, 21, 22, 23, 24, 25, 26, 27, 28, 29]) (hk : [P.cellsOf f0.type, P.cellsOf f1.type, P.cellsOf f2.type, P.cellsOf f3.type, P.cellsOf f4.type, P.cellsOf f5.type, P.cellsOf f6.type, P.cellsOf f7.type, P.cellsOf f8.type, P.cellsOf f9.type, P.cellsOf f10.type, P.cellsOf f11.type, P.cellsOf f12.type] = [18, 1, 1, 1, 1, 1, 1, 1, 1, 1, 1, 1, 1])
    (hK : P.underlying f0.type = some (.struct #[k0, k1, k2])) (hA : P.underlying k0.type = some (.array 16 e)) (hC : P.cellsOf k0.type = 16) (hE1 : P.cellsOf e = 1) (ue : P.underlying e = some (.int .i64))
    (ho2 : [k0.offset, k1.offset, k2.offset] = [0, 16, 17]) (hk2 : [P.cellsOf k1.type, P.cellsOf k2.type] = [1, 1])
    (v1 : P.underlying k1.type = some (.int .i64)) (v2 : P.underlying k2.type = some (.int .i64))
    (hM : P.underlying f1.type = some (.struct #[m0])) (h1 : oneCellFields P #[m0] = true) (hS : P.underlying m0.type = some (.slice tE)) (hE : P.underlying tE = some (.struct #[g0, g1, g2])) (h3 : oneCellFields P #[g0, g1, g2] = true) (hc3 : P.cellsOf tE = 3)
    (u0 : P.underlying g0.type = some (.int .i64)) (u1 : P.underlying g1.type = some (.int .i64)) (u2 : P.underlying g2.type = some .string)
    (hu : [P.underlying f2.type, P.underlying f3.type, P.underlying f4.type, P.underlying f5.type, P.underlying f6.type, P.underlying f7.type, P.underlying f8.type, P.underlying f9.type, P.underlying f10.type, P.underlying f11.type, P.underlying f12.type] = [some (.int .i64), some (.int .i64), some .string, some (.int .i64), some .string, some (.int .i64), some (.int .i64), some (.int .i64), some (.int .i64), some (.int .i64), some (.int .i64)])
    (hv : Value.okWide P w r b0 t v) (h : DataW.Trod enc P w base spare held t v d pl) :
    ∃ (b : Bo) (q : Option Addr) (l : List Pg) (cap : Nat), v = .agg (boV b (.slice q l.length cap)) ∧ BoW b ∧ Rd w q l ∧ Fits l := by
  obtain ⟨cs, rfl, hsz⟩ := okWide_struct hI hv
  obtain ⟨x0, x1, x2, x3, x4, x5, x6, x7, x8, x9, x10, x11, x12, x13, x14, x15, x16, x17, x18, x19, x20, x21, x22, x23, x24, x25, x26, x27, x28, x29, rfl⟩ := array30 (hsz.trans hc)
  obtain ⟨fuel, hf⟩ := h
  obtain ⟨xs, n, _, hx, _, hlen, hg⟩ := DataW.trod_struct hI hf
  simp only [List.cons.injEq, and_true] at ho hk hu
  obtain ⟨oo0, oo1, oo2, oo3, oo4, oo5, oo6, oo7, oo8, oo9, oo10, oo11, oo12⟩ := ho
  obtain ⟨kk0, kk1, kk2, kk3, kk4, kk5, kk6, kk7, kk8, kk9, kk10, kk11, kk12⟩ := hk
  obtain ⟨uu2, uu3, uu4, uu5, uu6, uu7, uu8, uu9, uu10, uu11, uu12⟩ := hu
  have get (j : Nat) (f : Field) (o k : Nat) (L : List Value) (hj : j < 13) (hf : (#[f0, f1, f2, f3, f4, f5, f6, f7, f8, f9, f10, f11, f12] : Array Field)[j]? = some f) (ho : f.offset = o) (hk : P.cellsOf f.type = k)
      (hcj : ((Value.agg #[x0, x1, x2, x3, x4, x5, x6, x7, x8, x9, x10, x11, x12, x13, x14, x15, x16, x17, x18, x19, x20, x21, x22, x23, x24, x25, x26, x27, x28, x29]).cells.toList.drop o).take k = L) : ∃ y, DataW.trod enc P w base spare held n f.type L = some y := by
    have e := hg j f hf
    rw [ho, hk, hcj] at e
    obtain ⟨y, hy⟩ : ∃ y, xs[j]? = some y := ⟨_, List.getElem?_eq_getElem (by rw [hlen]; exact hj)⟩
    exact ⟨y, by rw [hy] at e; exact e⟩
  obtain ⟨y0, e0⟩ := get 0 f0 0 18 [x0, x1, x2, x3, x4, x5, x6, x7, x8, x9, x10, x11, x12, x13, x14, x15, x16, x17] (by decide) rfl oo0 kk0 rfl
  obtain ⟨y1, e1⟩ := get 1 f1 18 1 [x18] (by decide) rfl oo1 kk1 rfl
  obtain ⟨q, l, cap, rfl, hr, hfit⟩ := read_mem hM h1 hS hE h3 hc3 u0 u1 u2 e1
  obtain ⟨y2, e2⟩ := get 2 f2 19 1 [x19] (by decide) rfl oo2 kk2 rfl
  obtain ⟨z2, ez2, _, hw2⟩ := DataW.trod_int uu2 e2
  simp only [List.cons.injEq, and_true] at ez2
  subst ez2
  obtain ⟨y3, e3⟩ := get 3 f3 20 1 [x20] (by decide) rfl oo3 kk3 rfl
  obtain ⟨z3, ez3, _, hw3⟩ := DataW.trod_int uu3 e3
  simp only [List.cons.injEq, and_true] at ez3
  subst ez3
  obtain ⟨y4, e4⟩ := get 4 f4 21 1 [x21] (by decide) rfl oo4 kk4 rfl
  obtain ⟨z4, ez4, _, hw4⟩ := DataW.trod_string uu4 e4
  simp only [List.cons.injEq, and_true] at ez4
  subst ez4
  obtain ⟨y5, e5⟩ := get 5 f5 22 1 [x22] (by decide) rfl oo5 kk5 rfl
  obtain ⟨z5, ez5, _, hw5⟩ := DataW.trod_int uu5 e5
  simp only [List.cons.injEq, and_true] at ez5
  subst ez5
  obtain ⟨y6, e6⟩ := get 6 f6 23 1 [x23] (by decide) rfl oo6 kk6 rfl
  obtain ⟨z6, ez6, _, hw6⟩ := DataW.trod_string uu6 e6
  simp only [List.cons.injEq, and_true] at ez6
  subst ez6
  obtain ⟨y7, e7⟩ := get 7 f7 24 1 [x24] (by decide) rfl oo7 kk7 rfl
  obtain ⟨z7, ez7, _, hw7⟩ := DataW.trod_int uu7 e7
  simp only [List.cons.injEq, and_true] at ez7
  subst ez7
  obtain ⟨y8, e8⟩ := get 8 f8 25 1 [x25] (by decide) rfl oo8 kk8 rfl
  obtain ⟨z8, ez8, _, hw8⟩ := DataW.trod_int uu8 e8
  simp only [List.cons.injEq, and_true] at ez8
  subst ez8
  obtain ⟨y9, e9⟩ := get 9 f9 26 1 [x26] (by decide) rfl oo9 kk9 rfl
  obtain ⟨z9, ez9, _, hw9⟩ := DataW.trod_int uu9 e9
  simp only [List.cons.injEq, and_true] at ez9
  subst ez9
  obtain ⟨y10, e10⟩ := get 10 f10 27 1 [x27] (by decide) rfl oo10 kk10 rfl
  obtain ⟨z10, ez10, _, hw10⟩ := DataW.trod_int uu10 e10
  simp only [List.cons.injEq, and_true] at ez10
  subst ez10
  obtain ⟨y11, e11⟩ := get 11 f11 28 1 [x28] (by decide) rfl oo11 kk11 rfl
  obtain ⟨z11, ez11, _, hw11⟩ := DataW.trod_int uu11 e11
  simp only [List.cons.injEq, and_true] at ez11
  subst ez11
  obtain ⟨y12, e12⟩ := get 12 f12 29 1 [x29] (by decide) rfl oo12 kk12 rfl
  obtain ⟨z12, ez12, _, hw12⟩ := DataW.trod_int uu12 e12
  simp only [List.cons.injEq, and_true] at ez12
  subst ez12
  obtain ⟨cp, hcw, ec⟩ := read_cpu hK hA hC hE1 ue ho2 hk2 v1 v2 e0
  have ec' : [x0, x1, x2, x3, x4, x5, x6, x7, x8, x9, x10, x11, x12, x13, x14, x15, x16, x17] = [.int .i64 (cp.rs 0), .int .i64 (cp.rs 1), .int .i64 (cp.rs 2), .int .i64 (cp.rs 3), .int .i64 (cp.rs 4), .int .i64 (cp.rs 5), .int .i64 (cp.rs 6), .int .i64 (cp.rs 7), .int .i64 (cp.rs 8), .int .i64 (cp.rs 9), .int .i64 (cp.rs 10), .int .i64 (cp.rs 11), .int .i64 (cp.rs 12), .int .i64 (cp.rs 13), .int .i64 (cp.rs 14), .int .i64 (cp.rs 15), .int .i64 cp.ip, .int .i64 cp.fl] := ec
  simp only [List.cons.injEq, and_true] at ec'
  obtain ⟨rfl, rfl, rfl, rfl, rfl, rfl, rfl, rfl, rfl, rfl, rfl, rfl, rfl, rfl, rfl, rfl, rfl, rfl⟩ := ec'
  exact ⟨⟨cp, z2, z3, z4, z5, z6, z7, z8, z9, z10, z11, z12⟩, q, l, cap, rfl, ⟨hcw, hw2, hw3, hw4, hw5, hw6, hw7, hw8, hw9, hw10, hw11, hw12⟩, hr, hfit⟩
end Go.Proofs.YtbkgmpkednkbcaaGreatDoor
