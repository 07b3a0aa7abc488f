/-
  A processor as sixteen registers, a place and flags; how an argument that is one (a laws.Cpu) reads; no condition but those in each head.
-/
import Derived.Deep.Slices
import Derived.Deep.Fields
import Derived.Lib.SmallJoins
import Derived.OpenShut
namespace Go.Proofs.YtbkgmpkednkbcaaGreatDoor
open Go.RowKit Go.ChangeShapes Go.WideShapes Go.Deep Go.Joins
structure Cp where
  rs : Nat → Int
  ip : Int
  fl : Int
def regA (f : Nat → Int) : Array Value := #[.int .i64 (f 0), .int .i64 (f 1), .int .i64 (f 2), .int .i64 (f 3), .int .i64 (f 4), .int .i64 (f 5), .int .i64 (f 6), .int .i64 (f 7), .int .i64 (f 8), .int .i64 (f 9), .int .i64 (f 10), .int .i64 (f 11), .int .i64 (f 12), .int .i64 (f 13), .int .i64 (f 14), .int .i64 (f 15)]
def cpV (c : Cp) : Array Value := #[.int .i64 (c.rs 0), .int .i64 (c.rs 1), .int .i64 (c.rs 2), .int .i64 (c.rs 3), .int .i64 (c.rs 4), .int .i64 (c.rs 5), .int .i64 (c.rs 6), .int .i64 (c.rs 7), .int .i64 (c.rs 8), .int .i64 (c.rs 9), .int .i64 (c.rs 10), .int .i64 (c.rs 11), .int .i64 (c.rs 12), .int .i64 (c.rs 13), .int .i64 (c.rs 14), .int .i64 (c.rs 15), .int .i64 c.ip, .int .i64 c.fl]
/-- all numbers of a processor are of 64 bits -/
structure CpW (c : Cp) : Prop where
  rs : ∀ i, i < 16 → (Lit.int .i64 (c.rs i)).wf = true
  ip : (Lit.int .i64 c.ip).wf = true
  fl : (Lit.int .i64 c.fl).wf = true
theorem cpV_size (c : Cp) : (cpV c).size = 18 := rfl
theorem cpV_one (c : Cp) : (cpV c).all (·.oneCell') = true := by simp [cpV, Value.oneCell']
theorem lt16 {P : Nat → Prop} (h0 : P 0) (h1 : P 1) (h2 : P 2) (h3 : P 3) (h4 : P 4) (h5 : P 5) (h6 : P 6) (h7 : P 7) (h8 : P 8) (h9 : P 9) (h10 : P 10) (h11 : P 11) (h12 : P 12) (h13 : P 13) (h14 : P 14) (h15 : P 15) : ∀ i, i < 16 → P i := by
  intro i hi
  rcases i with _ | _ | _ | _ | _ | _ | _ | _ | _ | _ | _ | _ | _ | _ | _ | _ | i
  all_goals first | assumption | omega
theorem cpV_at (c : Cp) : ∀ i, i < 16 → (cpV c)[i]? = some (.int .i64 (c.rs i)) := lt16 rfl rfl rfl rfl rfl rfl rfl rfl rfl rfl rfl rfl rfl rfl rfl rfl
theorem regA_at (f : Nat → Int) : ∀ i, i < 16 → (regA f)[i]? = some (.int .i64 (f i)) := lt16 rfl rfl rfl rfl rfl rfl rfl rfl rfl rfl rfl rfl rfl rfl rfl rfl
def upd (f : Nat → Int) (i : Nat) (v : Int) : Nat → Int := fun j => if j = i then v else f j
def Cp.set (c : Cp) (i : Nat) (v : Int) : Cp := { c with rs := upd c.rs i v }
theorem regA_set (f : Nat → Int) (v : Int) : ∀ i, i < 16 → (regA f).setIfInBounds i (.int .i64 v) = regA (upd f i v) := lt16 rfl rfl rfl rfl rfl rfl rfl rfl rfl rfl rfl rfl rfl rfl rfl rfl
theorem cpV_set (c : Cp) (v : Int) : ∀ i, i < 16 → (cpV c).setIfInBounds i (.int .i64 v) = cpV (c.set i v) := lt16 rfl rfl rfl rfl rfl rfl rfl rfl rfl rfl rfl rfl rfl rfl rfl rfl
theorem cpV_ip (c : Cp) (v : Int) : (cpV c).setIfInBounds 16 (.int .i64 v) = cpV { c with ip := v } := rfl
theorem cpV_fl (c : Cp) (v : Int) : (cpV c).setIfInBounds 17 (.int .i64 v) = cpV { c with fl := v } := rfl
def cp0 : Cp := ⟨fun _ => 0, 0, 0⟩
theorem array18 {α : Type} {a : Array α} (h : a.size = 18) : ∃ x0 x1 x2 x3 x4 x5 x6 x7 x8 x9 x10 x11 x12 x13 x14 x15 x16 x17, a = #[x0, x1, x2, x3, x4, x5, x6, x7, x8, x9, x10, x11, x12, x13, x14, x15, x16, x17] := by
  match a, h with
  | ⟨[x0, x1, x2, x3, x4, x5, x6, x7, x8, x9, x10, x11, x12, x13, x14, x15, x16, x17]⟩, _ => exact ⟨x0, x1, x2, x3, x4, x5, x6, x7, x8, x9, x10, x11, x12, x13, x14, x15, x16, x17, rfl⟩
def fn16 (k0 k1 k2 k3 k4 k5 k6 k7 k8 k9 k10 k11 k12 k13 k14 k15 : Int) : Nat → Int
  | 0 => k0 | 1 => k1 | 2 => k2 | 3 => k3 | 4 => k4 | 5 => k5 | 6 => k6 | 7 => k7 | 8 => k8 | 9 => k9 | 10 => k10 | 11 => k11 | 12 => k12 | 13 => k13 | 14 => k14 | _ => k15
theorem open_cpu {H : Type} {enc : TypeId × Value → H} {P : Program} {w : World} {base b0 : Nat} {spare : Nat → Bool} {held : Bool} {r : Reach} {t e : TypeId} {f0 f1 f2 : Field} {v : Value} {d : DataW H} {pl : List MemPlace}
    (hI : P.underlying t = some (.struct #[f0, f1, f2])) (hc : P.cellsOf t = 18)
    (hA : P.underlying f0.type = some (.array 16 e)) (hC : P.cellsOf f0.type = 16) (hE : P.cellsOf e = 1) (ue : P.underlying e = some (.int .i64))
    (ho : [f0.offset, f1.offset, f2.offset] = [0, 16, 17]) (hk : [P.cellsOf f1.type, P.cellsOf f2.type] = [1, 1])
    (u1 : P.underlying f1.type = some (.int .i64)) (u2 : P.underlying f2.type = some (.int .i64))
    (hv : Value.okWide P w r b0 t v) (h : DataW.Trod enc P w base spare held t v d pl) :
    ∃ c : Cp, CpW c ∧ v = .agg (cpV c) := by
  obtain ⟨cs, rfl, hsz⟩ := okWide_struct hI hv
  obtain ⟨c0, c1, c2, c3, c4, c5, c6, c7, c8, c9, c10, c11, c12, c13, c14, c15, c16, c17, rfl⟩ := array18 (hsz.trans hc)
  obtain ⟨fuel, hf⟩ := h
  obtain ⟨xs, n, _, hx, _, hlen, hg⟩ := DataW.trod_struct hI hf
  simp only [List.cons.injEq, and_true] at ho hk
  obtain ⟨o0, o1, o2⟩ := ho
  obtain ⟨k1, k2⟩ := hk
  have get (j : Nat) (f : Field) (o : Nat) (c : Value) (hj : j < 3) (hf : (#[f0, f1, f2] : Array Field)[j]? = some f) (ho : f.offset = o) (hk : P.cellsOf f.type = 1) (u : P.underlying f.type = some (.int .i64))
      (hcj : ((Value.agg #[c0, c1, c2, c3, c4, c5, c6, c7, c8, c9, c10, c11, c12, c13, c14, c15, c16, c17]).cells.toList.drop o).take 1 = [c]) : ∃ k, c = .int .i64 k ∧ (Lit.int .i64 k).wf = true := by
    have e := hg j f hf
    rw [ho, hk, hcj] at e
    obtain ⟨y, hy⟩ : ∃ y, xs[j]? = some y := ⟨_, List.getElem?_eq_getElem (by rw [hlen]; exact hj)⟩
    rw [hy] at e
    obtain ⟨z, ez, _, hw⟩ := DataW.trod_int u e
    simp only [List.cons.injEq, and_true] at ez
    exact ⟨z, ez, hw⟩
  obtain ⟨a1, rfl, w1⟩ := get 1 f1 16 c16 (by decide) rfl o1 k1 u1 rfl
  obtain ⟨a2, rfl, w2⟩ := get 2 f2 17 c17 (by decide) rfl o2 k2 u2 rfl
  have e0 := hg 0 f0 rfl
  rw [o0, hC] at e0
  obtain ⟨y0, hy0⟩ : ∃ y, xs[0]? = some y := ⟨_, List.getElem?_eq_getElem (by rw [hlen]; exact (show _ < 3 by decide))⟩
  rw [hy0] at e0
  obtain ⟨ys, m, _, _, _, hl2, hy⟩ := DataW.trod_array hA e0
  have getA (j : Nat) (c : Value) (hj : j < 16) (hcj : ((((Value.agg #[c0, c1, c2, c3, c4, c5, c6, c7, c8, c9, c10, c11, c12, c13, c14, c15, .int .i64 a1, .int .i64 a2]).cells.toList.drop 0).take 16).drop j).take 1 = [c]) : ∃ k, c = .int .i64 k ∧ (Lit.int .i64 k).wf = true := by
    have e := hy j hj
    rw [hE, Nat.mul_one, hcj] at e
    obtain ⟨y, hy⟩ : ∃ y, ys[j]? = some y := ⟨_, List.getElem?_eq_getElem (by rw [hl2]; exact hj)⟩
    rw [hy] at e
    obtain ⟨z, ez, _, hw⟩ := DataW.trod_int ue e
    simp only [List.cons.injEq, and_true] at ez
    exact ⟨z, ez, hw⟩
  obtain ⟨g0, rfl, p0⟩ := getA 0 c0 (by decide) rfl
  obtain ⟨g1, rfl, p1⟩ := getA 1 c1 (by decide) rfl
  obtain ⟨g2, rfl, p2⟩ := getA 2 c2 (by decide) rfl
  obtain ⟨g3, rfl, p3⟩ := getA 3 c3 (by decide) rfl
  obtain ⟨g4, rfl, p4⟩ := getA 4 c4 (by decide) rfl
  obtain ⟨g5, rfl, p5⟩ := getA 5 c5 (by decide) rfl
  obtain ⟨g6, rfl, p6⟩ := getA 6 c6 (by decide) rfl
  obtain ⟨g7, rfl, p7⟩ := getA 7 c7 (by decide) rfl
  obtain ⟨g8, rfl, p8⟩ := getA 8 c8 (by decide) rfl
  obtain ⟨g9, rfl, p9⟩ := getA 9 c9 (by decide) rfl
  obtain ⟨g10, rfl, p10⟩ := getA 10 c10 (by decide) rfl
  obtain ⟨g11, rfl, p11⟩ := getA 11 c11 (by decide) rfl
  obtain ⟨g12, rfl, p12⟩ := getA 12 c12 (by decide) rfl
  obtain ⟨g13, rfl, p13⟩ := getA 13 c13 (by decide) rfl
  obtain ⟨g14, rfl, p14⟩ := getA 14 c14 (by decide) rfl
  obtain ⟨g15, rfl, p15⟩ := getA 15 c15 (by decide) rfl
  exact ⟨⟨fn16 g0 g1 g2 g3 g4 g5 g6 g7 g8 g9 g10 g11 g12 g13 g14 g15, a1, a2⟩, ⟨lt16 p0 p1 p2 p3 p4 p5 p6 p7 p8 p9 p10 p11 p12 p13 p14 p15, w1, w2⟩, rfl⟩
end Go.Proofs.YtbkgmpkednkbcaaGreatDoor
