/-
  Proved: for every two memories (lists of pages), laws.FnExactSameMemory returns true (impl.SameMemory answers as spec.SameMemory, and leaves its arguments as they were), with no condition.
-/
import Derived.Test.YtceoomihncchfaaRows
import Derived.WalkKit
import Derived.ProofKit
import Derived.OpenShut
import Derived.ShutString
import Derived.Test.YtceoomihncchfaaWalkSame
import Derived.Deep.RegionHeld3
import Derived.ChangeOld
import Derived.Below
import Derived.Test.YtceoomihncchfaaOpenMem
namespace Go.Proofs.Ytceoomihncchfaa.fnExactSameMemory
open Go.ChangeShapes Go.WideShapes Go.ChangeAt Go.RowKit
open Go.ChangeMaps (open_string shut_string)
set_option linter.unusedVariables false

theorem own : ownKnob Try.prog.godebug = none := by kernel_rfl
theorem laidOut : laidOutB Try.prog = true := by kernel_rfl

theorem keepC {w : World} {a1 a2 : Addr} {v1 v2 : Option Value} (h1 : w.cell? a1 = v1) (h2 : w.cell? a2 = v2) : w.drew.cell? a1 = v1 ∧ w.drew.cell? a2 = v2 := ⟨h1, h2⟩
set_option maxHeartbeats 1000000 in
set_option maxRecDepth 100000 in
theorem walk (q0 : Option Addr) (c0 : Nat) (l0 : List Pg) (q1 : Option Addr) (c1 : Nat) (l1 : List Pg) (w : World) (r0 : Rd w q0 l0) (f0 : Fits l0) (r1 : Rd w q1 l1) (f1 : Fits l1) :
    Calls Try.prog 10 #[.agg #[.slice q0 l0.length c0], .agg #[.slice q1 l1.length c1]] w fun e w' => e = .returned (.bool true) ∧ Below w.heap.size w w' := by
  obtain ⟨W, hW⟩ : ∃ W, W = (w.alloc (.cells #[.slice q0 l0.length c0] 24)).alloc (.cells #[.slice q1 l1.length c1] 24) := ⟨_, rfl⟩
  have L0 : Hid (Below w.heap.size w W) := Lib.hid (by rw [hW]; go_grown)
  have A0 : Hid (Bx W w.heap.size q0 c0 l0) := Lib.hid (by rw [hW]; exact (Bx.new _ r0).next (below1 _ _))
  have B0 : Hid (Bx W (w.heap.size + 1) q1 c1 l1) := Lib.hid (by rw [hW]; have := Bx.new (w := w.alloc (.cells #[.slice q0 l0.length c0] 24)) (c := c1) 24 (r1.below (below1 w _)); simpa using this)
  have HW := Lib.hid hW; have HF := Lib.hid f0; have HF1 := Lib.hid f1
  have hm := mixed
  clear r0 f0 r1 f1 hW
  go_enter Try.func10, Try.ntmps10
  go_wp2_with fail
  rw [← HW.out]
  refine (szMemoryC q0 c0 l0 1048576 W A0.out.2.2 HF.out (by omega) (by omega)).mono ?_
  rintro e w1 ⟨r, rfl, HQ, b1⟩
  have L1 := Lib.hid (bthen L0.out b1); have A1 := Lib.hid (A0.out.next b1); have B1 := Lib.hid (B0.out.next b1)
  have y1 := B1.out.2.1
  clear b1 L0 A0 B0
  by_cases hneg : r < 0
  · go_wp2
    go_ret
    exact ⟨rfl, L1.out⟩
  have hd : decide (r < 0) = false := decide_eq_false hneg
  have HS := Lib.hid (sz_small HQ.out hneg)
  have HR : Hid (0 ≤ r ∧ r ≤ 1048576) := Lib.hid ⟨by omega, HQ.out.2.1⟩
  clear hneg
  go_wp2_with fail
  refine (szMemoryC q1 c1 l1 r w1 B1.out.2.2 HF1.out HR.out.1 HR.out.2).mono ?_
  rintro e w2 ⟨r2, rfl, HQ2, b2⟩
  have L2 := Lib.hid (bthen L1.out b2); have A2 := Lib.hid (A1.out.next b2); have B2 := Lib.hid (B1.out.next b2)
  have x2 := A2.out.2.1; have y2 := B2.out.2.1
  clear b2 L1 A1 B1 y1
  by_cases hneg : r2 < 0
  · go_wp2
    go_ret
    exact ⟨rfl, L2.out⟩
  have hd2 : decide (r2 < 0) = false := decide_eq_false hneg
  have HS1 := Lib.hid (sz_small HQ2.out hneg)
  clear hneg
  have C3 := Lib.hid (toMemoryC q0 c0 l0 w2.drew (A2.out.next (below_drew1 w2)).2.2 HS.out)
  have B2d := Lib.hid (B2.out.next (below_drew1 w2)); have A2d := Lib.hid (A2.out.next (below_drew1 w2)); have L2d := Lib.hid (bthen L2.out (below_drew1 w2))
  go_wp2_with fail
  go_region_held3 (fun w' => w'.cell? ⟨w.heap.size, 0, none⟩ = some (.slice q0 l0.length c0) ∧ w'.cell? ⟨w.heap.size + 1, 0, none⟩ = some (.slice q1 l1.length c1)) (first | (with_reducible exact ⟨x2, y2⟩) | (with_reducible exact keepC x2 y2) | (with_reducible exact ⟨x3, y3⟩) | (with_reducible exact ⟨x4, y4⟩) | (with_reducible exact ⟨x5, y5⟩) | go_keep) (first | (go_at_call 13; (with_reducible refine Calls.mono (C3.out) ?_); rintro e w3 ⟨g3, hg3, rfl, o3, b3⟩; have B3 := Lib.hid (B2d.out.next b3); have A3 := Lib.hid (A2d.out.next b3); have L3 := Lib.hid (bthen L2d.out b3); have x3 := A3.out.2.1; have y3 := B3.out.2.1; have R3 := Lib.hid (Rd.of_own o3); have C4 := Lib.hid (toMemoryC q1 c1 l1 w3 B3.out.2.2 HS1.out); clear o3 b3 hg3) | (go_at_call 13; (with_reducible refine Calls.mono (C4.out) ?_); rintro e w4 ⟨g4, hg4, rfl, o4, b4⟩; have B4 := Lib.hid (B3.out.next b4); have A4 := Lib.hid (A3.out.next b4); have L4 := Lib.hid (bthen L3.out b4); have x4 := A4.out.2.1; have y4 := B4.out.2.1; have R4 := Lib.hid (R3.out.below b4); have C5 := Lib.hid (sameS _ _ l0.length l1.length l0 l1 w4 HF.out HF1.out R4.out (Rd.of_own o4)); clear o4 b4 hg4) | (go_at_call 30; (with_reducible refine Calls.mono (C5.out) ?_); rintro e w5 ⟨rfl, b5⟩; have B5 := Lib.hid (B4.out.next b5); have A5 := Lib.hid (A4.out.next b5); have L5 := Lib.hid (bthen L4.out b5); have x5 := A5.out.2.1; have y5 := B5.out.2.1; clear b5))
  clear x2 y2 x3 y3 x4 y4 A2 B2 L2 A2d B2d L2d A3 B3 L3 A4 B4 L4 C3 C4 C5 R3 R4
  go_wp2_with fail
  refine (toMemoryC q0 c0 l0 w5 A5.out.2.2 HS.out).mono ?_
  rintro e w6 ⟨g6, hg6, rfl, o6, b6⟩
  obtain ⟨V, hV⟩ : ∃ V, V = w6.alloc (.cells #[.slice (some ⟨g6, 0, none⟩) l0.length l0.length] 29) := ⟨_, rfl⟩
  have L6 : Hid (Below w.heap.size w V) := Lib.hid (by rw [hV]; exact bbox (bthen L5.out b6) _)
  have A6 : Hid (Bx V w.heap.size q0 c0 l0) := Lib.hid (by rw [hV]; exact (A5.out.next b6).next (below1 _ _))
  have B6 : Hid (Bx V (w.heap.size + 1) q1 c1 l1) := Lib.hid (by rw [hV]; exact (B5.out.next b6).next (below1 _ _))
  have X6 : Hid (Bx V w6.heap.size (some ⟨g6, 0, none⟩) l0.length l0) := Lib.hid (by rw [hV]; exact Bx.new _ (Rd.of_own o6))
  have HV := Lib.hid hV
  have y6 := (B5.out.next b6).2.1
  have hw6 : w.heap.size + 1 < w6.heap.size := (B5.out.next b6).1
  clear b6 o6 x5 y5 L5 A5 B5 hg6 hV
  go_wp2_with fail
  rw [← HV.out]
  refine (toMemoryC q1 c1 l1 V B6.out.2.2 HS1.out).mono ?_
  rintro e w7 ⟨g7, hg7, rfl, o7, b7⟩
  obtain ⟨U, hU⟩ : ∃ U, U = w7.alloc (.cells #[.slice (some ⟨g7, 0, none⟩) l1.length l1.length] 29) := ⟨_, rfl⟩
  have L7 : Hid (Below w.heap.size w U) := Lib.hid (by rw [hU]; exact bbox (bthen L6.out b7) _)
  have A7 : Hid (Bx U w.heap.size q0 c0 l0) := Lib.hid (by rw [hU]; exact (A6.out.next b7).next (below1 _ _))
  have B7 : Hid (Bx U (w.heap.size + 1) q1 c1 l1) := Lib.hid (by rw [hU]; exact (B6.out.next b7).next (below1 _ _))
  have X7 : Hid (Bx U w6.heap.size (some ⟨g6, 0, none⟩) l0.length l0) := Lib.hid (by rw [hU]; exact (X6.out.next b7).next (below1 _ _))
  have Y7 : Hid (Bx U w7.heap.size (some ⟨g7, 0, none⟩) l1.length l1) := Lib.hid (by rw [hU]; exact Bx.new _ (Rd.of_own o7))
  have HU := Lib.hid hU
  have u7 := (X6.out.next b7).2.1
  have hw7 : w6.heap.size < w7.heap.size := (X6.out.next b7).1
  clear b7 o7 y6 L6 A6 B6 X6 hg7 hU
  go_wp2_with fail
  rw [← HU.out]
  refine (sameI g6 0 l0.length g7 0 l1.length l0 l1 U HS.out HF1.out.1 X7.out.2.2 Y7.out.2.2).mono ?_
  rintro e w8 ⟨rfl, b8⟩
  have L8 := Lib.hid (bthen L7.out b8); have A8 := Lib.hid (A7.out.next b8); have B8 := Lib.hid (B7.out.next b8); have X8 := Lib.hid (X7.out.next b8); have Y8 := Lib.hid (Y7.out.next b8)
  have x8 := A8.out.2.1; have u8 := X8.out.2.1; have v8 := Y8.out.2.1; have y8 := B8.out.2.1
  have Ld := Lib.hid (bthen L8.out (below_drew1 w8)); have Ad' := Lib.hid (A8.out.next (below_drew1 w8)); have Bd := Lib.hid (B8.out.next (below_drew1 w8)); have Xd := Lib.hid (X8.out.next (below_drew1 w8)); have Yd := Lib.hid (Y8.out.next (below_drew1 w8))
  have C9 := Lib.hid (toMemoryC q0 c0 l0 w8.drew Ad'.out.2.2 HS.out)
  clear b8 u7 hw6 hw7
  go_wp2_with fail
  go_region_held3 (fun w' => w'.cell? ⟨w.heap.size, 0, none⟩ = some (.slice q0 l0.length c0) ∧ w'.cell? ⟨w6.heap.size, 0, none⟩ = some (.slice (some ⟨g6, 0, none⟩) l0.length l0.length)) (first | (with_reducible exact ⟨x8, u8⟩) | (with_reducible exact keepC x8 u8) | (with_reducible exact ⟨x9, u9⟩) | (with_reducible exact ⟨xa, ua⟩) | go_keep) (first | (go_at_call 13; (with_reducible refine Calls.mono (C9.out) ?_); rintro e w9 ⟨g9, hg9, rfl, o9, b9⟩; have B9 := Lib.hid (Bd.out.next b9); have A9 := Lib.hid (Ad'.out.next b9); have X9 := Lib.hid (Xd.out.next b9); have Y9 := Lib.hid (Yd.out.next b9); have L9 := Lib.hid (bthen Ld.out b9); have x9 := A9.out.2.1; have u9 := X9.out.2.1; have Ca := Lib.hid (eqMemoryC _ _ l0.length l0.length l0 w9 HF.out.1 X9.out.2.2 (Rd.of_own o9)); clear o9 b9 hg9) | (go_at_call 15; (with_reducible refine Calls.mono (Ca.out) ?_); rintro e wa ⟨rfl, ba⟩; have Ba := Lib.hid (B9.out.next ba); have Aa := Lib.hid (A9.out.next ba); have Xa := Lib.hid (X9.out.next ba); have Ya := Lib.hid (Y9.out.next ba); have La := Lib.hid (bthen L9.out ba); have xa := Aa.out.2.1; have ua := Xa.out.2.1; clear ba))
  have yb := Ba.out.2.1; have vb := Ya.out.2.1
  have Le := Lib.hid (bthen La.out (below_drew1 wa)); have Be := Lib.hid (Ba.out.next (below_drew1 wa)); have Ye := Lib.hid (Ya.out.next (below_drew1 wa))
  have Cb := Lib.hid (toMemoryC q1 c1 l1 wa.drew Be.out.2.2 HS1.out)
  clear x8 u8 v8 y8 x9 u9 xa ua
  go_wp2_with fail
  go_region_held3 (fun w' => w'.cell? ⟨w.heap.size + 1, 0, none⟩ = some (.slice q1 l1.length c1) ∧ w'.cell? ⟨w7.heap.size, 0, none⟩ = some (.slice (some ⟨g7, 0, none⟩) l1.length l1.length)) (first | (with_reducible exact ⟨yb, vb⟩) | (with_reducible exact keepC yb vb) | (with_reducible exact ⟨yc, vc⟩) | (with_reducible exact ⟨yd, vd⟩) | go_keep) (first | (go_at_call 13; (with_reducible refine Calls.mono (Cb.out) ?_); rintro e wb ⟨gb, hgb, rfl, ob, bb⟩; have Bb := Lib.hid (Be.out.next bb); have Yb := Lib.hid (Ye.out.next bb); have Lb := Lib.hid (bthen Le.out bb); have yc := Bb.out.2.1; have vc := Yb.out.2.1; have Cc := Lib.hid (eqMemoryC _ _ l1.length l1.length l1 wb HF1.out.1 Yb.out.2.2 (Rd.of_own ob)); clear ob bb hgb) | (go_at_call 15; (with_reducible refine Calls.mono (Cc.out) ?_); rintro e wc ⟨rfl, bc⟩; have Bc := Lib.hid (Bb.out.next bc); have Yc := Lib.hid (Yb.out.next bc); have Lc := Lib.hid (bthen Lb.out bc); have yd := Bc.out.2.1; have vd := Yc.out.2.1; clear bc))
  go_wp2
  go_ret
  exact ⟨rfl, Lc.out⟩

/-! ### THE ROW's STEP -/
set_option maxRecDepth 100000 in
theorem lifted (os : Os) (started : os.Started) (H : Type) (enc : TypeId × Value → H) :
    ReturnsInHanded {} Try.checked os 10 .any (Rows.fnExactSameMemorySpec.pre6 enc Try.prog Try.f10 Rows.fnExactSameMemoryRow.domain false) (Rows.fnExactSameMemorySpec.post enc Try.prog Try.f10 false true false false) := by
  refine returnsInHanded_of_change (C := Try.checked) own started (by kernel_rfl) Try.func10
    (ChangeSpec.witness6 (enc := enc) (C := Try.checked) false ⟨#[], #[.agg #[.slice none 0 0], .agg #[.slice none 0 0]], []⟩ 8 (by kernel_rfl) (by kernel_rfl) (by kernel_rfl) (by kernel_rfl)) ?_
  intro W base args ds gs before hval0 hW hcnd _
  have hval : ∀ (j : Nat) t v, Try.f10.params[j]? = some t → args[j]? = some v → Value.okWide Try.prog W .any base t v := hval0
  have hW' := hW
  obtain ⟨p, q, hA0, hV, rfl, hfz, hnd⟩ := hW
  have hA : DataW.TrodAll enc Try.prog W 0 (fun _ => true) true Try.f10.params.toList args.toList ds p := hA0
  rw [Try.params10] at hA hval
  obtain ⟨v0, vs0, d0, ds0, p0, s0, hargs, rfl, rfl, h0, t0⟩ := trodAll_cons hA
  obtain ⟨v1, vs1, d1, ds1, p1, s1, rfl, rfl, rfl, h1, t1⟩ := trodAll_cons t0
  obtain ⟨rfl, rfl, rfl⟩ := trodAll_nil t1
  obtain rfl : args = #[v0, v1] := by cases args; simp_all
  obtain ⟨rfl, rfl⟩ := trodVars_none hV
  have k0 := h0
  have lt0 : ∀ x ∈ p0, x.block < W.heap.size := by obtain ⟨m, hm⟩ := k0; exact DataW.trod_lt m _ _ _ hm
  obtain ⟨q0, l0, c0, rfl, r0, f0⟩ := open_mem Try.underlying24 (by kernel_rfl) (by kernel_rfl) Try.underlying22 Try.underlying77 (by kernel_rfl) (by kernel_rfl) Try.underlying3 Try.underlying3 Try.underlying9 (hval 0 24 v0 rfl rfl) h0
  have k1 := h1
  have lt1 : ∀ x ∈ p1, x.block < W.heap.size := by obtain ⟨m, hm⟩ := k1; exact DataW.trod_lt m _ _ _ hm
  obtain ⟨q1, l1, c1, rfl, r1, f1⟩ := open_mem Try.underlying24 (by kernel_rfl) (by kernel_rfl) Try.underlying22 Try.underlying77 (by kernel_rfl) (by kernel_rfl) Try.underlying3 Try.underlying3 Try.underlying9 (hval 1 24 v1 rfl rfl) h1
  clear hA0 hval0
  refine (walk q0 c0 l0 q1 c1 l1 W r0 f0 r1 f1).mono fun e W' ⟨he, bel⟩ => ?_
  subst he
  exact ⟨_, rfl, _, _, _, [], _, [], hW', trodAll_mk1 (shut_bool Try.underlying4 _), (trodAll_cons_mk (Below.trod laidOut (by kernel_rfl) (of_decide_eq_true (by kernel_rfl)) k0 bel lt0) (trodAll_cons_mk (Below.trod laidOut (by kernel_rfl) (of_decide_eq_true (by kernel_rfl)) k1 bel lt1) trodAll_mk0)), rfl, bel.frame _, fun h => by cases h⟩

theorem over : Rows.fnExactSameMemoryRow.holds Try.pinned (OpenSpec.ofChange Rows.fnExactSameMemorySpec) :=
  OpenClaim.holds_of_wide 10 Try.f10 rfl rfl rfl rfl rfl rfl rfl ⟨rfl, rfl, rfl, rfl, rfl⟩ rfl rfl rfl rfl rfl (by kernel_rfl) Try.func10 (by kernel_rfl)
    (of_decide_eq_true (by kernel_rfl)) (by unfold Func.isWrapper; first | (rw [if_pos (by decide +kernel)]; kernel_rfl) | (rw [if_neg (by decide +kernel)]; exact ⟨rfl, rfl⟩))
    (fun os started H enc _ => lifted os started H enc)

/-- ████ THE STATEMENT ████ -/
theorem proved : Rows.FnExactSameMemorySaid := over
#print axioms proved
end Go.Proofs.Ytceoomihncchfaa.fnExactSameMemory
