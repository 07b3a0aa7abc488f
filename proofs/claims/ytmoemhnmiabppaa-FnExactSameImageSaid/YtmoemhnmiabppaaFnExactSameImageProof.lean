/-
  Proved: for every two images (each an int and a list of segments), laws.FnExactSameImage returns true (impl.SameImage answers as spec.SameImage, and leaves its arguments as they were), with no condition.
-/
import Derived.Test.YtmoemhnmiabppaaRows
import Derived.WalkKit
import Derived.ProofKit
import Derived.OpenShut
import Derived.ShutString
import Derived.Test.YtmoemhnmiabppaaWalkSm
import Derived.Deep.RegionHeld3
import Derived.ChangeOld
import Derived.Below
import Derived.Test.YtmoemhnmiabppaaOpenImg
namespace Go.Proofs.Ytmoemhnmiabppaa.fnExactSameImage
open Go.ChangeShapes Go.WideShapes Go.ChangeAt Go.RowKit
open Go.ChangeMaps (open_string shut_string)
set_option linter.unusedVariables false

theorem own : ownKnob Try.prog.godebug = none := by kernel_rfl
theorem laidOut : laidOutB Try.prog = true := by kernel_rfl

set_option maxHeartbeats 1000000 in
set_option maxRecDepth 100000 in
theorem walk (n0 : Int) (q0 : Option Addr) (c0 : Nat) (l0 : List Sg) (n1 : Int) (q1 : Option Addr) (c1 : Nat) (l1 : List Sg) (w : World) (r0 : RdS w q0 l0) (f0 : FitsS l0) (wn0 : (Lit.int .i64 n0).wf = true) (y0 : ∀ (k : Nat) x, l0[k]? = some x → (Lit.int .i64 x.f).wf = true ∧ (Lit.int .i64 x.v).wf = true ∧ (Lit.int .i64 x.m).wf = true) (r1 : RdS w q1 l1) (f1 : FitsS l1) (wn1 : (Lit.int .i64 n1).wf = true) (y1 : ∀ (k : Nat) x, l1[k]? = some x → (Lit.int .i64 x.f).wf = true ∧ (Lit.int .i64 x.v).wf = true ∧ (Lit.int .i64 x.m).wf = true) :
    Calls Try.prog 6 #[.agg #[.int .i64 n0, .slice q0 l0.length c0], .agg #[.int .i64 n1, .slice q1 l1.length c1]] w fun e w' => e = .returned (.bool true) ∧ Below w.heap.size w w' := by
  obtain ⟨W, hW⟩ : ∃ W, W = (w.alloc (.cells #[.int .i64 n0, .slice q0 l0.length c0] 27)).alloc (.cells #[.int .i64 n1, .slice q1 l1.length c1] 27) := ⟨_, rfl⟩
  have L0 : Hid (Below w.heap.size w W) := Lib.hid (by rw [hW]; go_grown)
  have A0 : Hid (BI W w.heap.size n0 q0 c0 l0) := Lib.hid (by rw [hW]; exact (BI.new _ r0).next (belowA _ _))
  have B0 : Hid (BI W (w.heap.size + 1) n1 q1 c1 l1) := Lib.hid (by rw [hW]; have := BI.new (w := w.alloc (.cells #[.int .i64 n0, .slice q0 l0.length c0] 27)) (n := n1) (c := c1) 27 (r1.below (belowA w _)); simpa using this)
  have HW := Lib.hid hW; have HF := Lib.hid f0; have HY := Lib.hid y0; have HF1 := Lib.hid f1; have HY1 := Lib.hid y1; have W0 := Lib.hid wn0; have W1' := Lib.hid wn1
  clear r0 f0 y0 r1 f1 y1 hW wn0 wn1
  go_enter Try.func6, Try.ntmps6
  go_wp2_with fail
  rw [← HW.out]
  refine (szImgC n0 q0 c0 l0 1048576 W A0.out.2 HF.out (by omega) (by omega)).mono ?_
  rintro e w1 ⟨r, rfl, HQ, b1⟩
  have L1 := Lib.hid (bthenS L0.out b1); have A1 := Lib.hid (A0.out.next b1); have B1 := Lib.hid (B0.out.next b1)
  obtain ⟨y0, y1, y2⟩ := B1.out.1
  clear b1 L0 A0 B0
  by_cases hneg : r < 0
  · go_wp2
    go_ret
    exact ⟨rfl, L1.out⟩
  have hd : decide (r < 0) = false := decide_eq_false hneg
  have HS := Lib.hid (sz_smallS HQ.out hneg)
  have HR : Hid (0 ≤ r ∧ r ≤ 1048576) := Lib.hid ⟨by omega, HQ.out.2.1⟩
  clear hneg
  go_wp2_with fail
  refine (szImgC n1 q1 c1 l1 r w1 B1.out.2 HF1.out HR.out.1 HR.out.2).mono ?_
  rintro e w2 ⟨r2, rfl, HQ2, b2⟩
  have L2 := Lib.hid (bthenS L1.out b2); have A2 := Lib.hid (A1.out.next b2); have B2 := Lib.hid (B1.out.next b2)
  clear b2 L1 A1 B1 y0 y1 y2
  by_cases hneg : r2 < 0
  · go_wp2
    go_ret
    exact ⟨rfl, L2.out⟩
  have hd2 : decide (r2 < 0) = false := decide_eq_false hneg
  have HS1 := Lib.hid (sz_smallS HQ2.out hneg)
  have HL : l0.length ≤ 9223372036854775807 := by have := HS.out.1; omega
  have HL1 : l1.length ≤ 9223372036854775807 := by have := HS1.out.1; omega
  clear hneg
  obtain ⟨k, c, hc⟩ := chk_all n0 l0
  obtain ⟨j, d, hd3⟩ := chk_all n1 l1
  have HC := Lib.hid hc; have HD := Lib.hid hd3
  obtain ⟨bb, hbb⟩ : ∃ b : Bool, b = true ↔ c = 0 ∧ d = 0 ∧ n0 = n1 ∧ l0 = l1 := ⟨@decide (c = 0 ∧ d = 0 ∧ n0 = n1 ∧ l0 = l1) (Classical.propDecidable _), @decide_eq_true_iff _ (Classical.propDecidable _)⟩
  have HB := Lib.hid hbb
  clear hc hd3 hbb
  have K2 : (w2.cell? ⟨w.heap.size, 0, none⟩ = some (.int .i64 n0) ∧ w2.cell? ⟨w.heap.size, 1, none⟩ = some (.slice q0 l0.length c0)) ∧ w2.cell? ⟨w.heap.size + 1, 0, none⟩ = some (.int .i64 n1) ∧ w2.cell? ⟨w.heap.size + 1, 1, none⟩ = some (.slice q1 l1.length c1) := ⟨A2.out.1.2, B2.out.1.2⟩
  have C3 := Lib.hid (toImgC n0 q0 c0 l0 w2.drew (A2.out.next (belowD w2)).2 HS.out)
  go_upto_region 8 with fail
  go_region_held3 (fun w' => (w'.cell? ⟨w.heap.size, 0, none⟩ = some (.int .i64 n0) ∧ w'.cell? ⟨w.heap.size, 1, none⟩ = some (.slice q0 l0.length c0)) ∧ w'.cell? ⟨w.heap.size + 1, 0, none⟩ = some (.int .i64 n1) ∧ w'.cell? ⟨w.heap.size + 1, 1, none⟩ = some (.slice q1 l1.length c1)) (first | (with_reducible exact K2) | (with_reducible exact keep4S K2) | (with_reducible exact K3) | (with_reducible exact keep4S K3) | (with_reducible exact K4) | (with_reducible exact keep4S K4) | (with_reducible exact K5) | (with_reducible exact keep4S K5) | go_keep) (first | (go_at_call 11; (with_reducible refine Calls.mono (C3.out) ?_); rintro e w3 ⟨g3, hg3, rfl, o3, b3⟩; have b3' : Below w2.heap.size w2 w3 := (belowD w2).trans b3; have L3 := Lib.hid (bthenS L2.out b3'); have A3 := Lib.hid (A2.out.next b3'); have B3 := Lib.hid (B2.out.next b3'); have K3 : (w3.cell? ⟨w.heap.size, 0, none⟩ = some (.int .i64 n0) ∧ w3.cell? ⟨w.heap.size, 1, none⟩ = some (.slice q0 l0.length c0)) ∧ w3.cell? ⟨w.heap.size + 1, 0, none⟩ = some (.int .i64 n1) ∧ w3.cell? ⟨w.heap.size + 1, 1, none⟩ = some (.slice q1 l1.length c1) := ⟨A3.out.1.2, B3.out.1.2⟩; have R3 := Lib.hid (RdS.of_own o3); have C4 := Lib.hid (toImgC n1 q1 c1 l1 w3 B3.out.2 HS1.out); clear hg3 o3 b3 b3') | (go_at_call 11; (with_reducible refine Calls.mono (C4.out) ?_); rintro e w4 ⟨g4, hg4, rfl, o4, b4⟩; have L4 := Lib.hid (bthenS L3.out b4); have A4 := Lib.hid (A3.out.next b4); have B4 := Lib.hid (B3.out.next b4); have K4 : (w4.cell? ⟨w.heap.size, 0, none⟩ = some (.int .i64 n0) ∧ w4.cell? ⟨w.heap.size, 1, none⟩ = some (.slice q0 l0.length c0)) ∧ w4.cell? ⟨w.heap.size + 1, 0, none⟩ = some (.int .i64 n1) ∧ w4.cell? ⟨w.heap.size + 1, 1, none⟩ = some (.slice q1 l1.length c1) := ⟨A4.out.1.2, B4.out.1.2⟩; have C5 := Lib.hid (sameS n0 n1 (some ⟨g3, 0, none⟩) (some ⟨g4, 0, none⟩) l0.length l1.length l0 l1 w4 W0.out W1'.out (R3.out.below b4) (RdS.of_own o4) HS.out HS1.out HY.out HY1.out k j c d HC.out HD.out bb HB.out); clear hg4 o4 b4) | (go_at_call 16; (with_reducible refine Calls.mono (C5.out) ?_); rintro e w5 ⟨rfl, b5⟩; have L5 := Lib.hid (bthenS L4.out b5); have A5 := Lib.hid (A4.out.next b5); have B5 := Lib.hid (B4.out.next b5); have K5 : (w5.cell? ⟨w.heap.size, 0, none⟩ = some (.int .i64 n0) ∧ w5.cell? ⟨w.heap.size, 1, none⟩ = some (.slice q0 l0.length c0)) ∧ w5.cell? ⟨w.heap.size + 1, 0, none⟩ = some (.int .i64 n1) ∧ w5.cell? ⟨w.heap.size + 1, 1, none⟩ = some (.slice q1 l1.length c1) := ⟨A5.out.1.2, B5.out.1.2⟩; clear b5))
  clear K2 K3 K4 K5 A2 B2 L2 A3 B3 L3 A4 B4 L4 C3 C4 C5 R3
  obtain ⟨x0, x1, x2⟩ := A5.out.1
  go_wp2_with fail
  refine (toImgC n0 q0 c0 l0 w5 A5.out.2 HS.out).mono ?_
  rintro e w6 ⟨g6, hg6, rfl, o6, b6⟩
  obtain ⟨V, hV⟩ : ∃ V, V = w6.alloc (.cells #[.int .i64 n0, .slice (some ⟨g6, 0, none⟩) l0.length l0.length] 32) := ⟨_, rfl⟩
  have L6 : Hid (Below w.heap.size w V) := Lib.hid (by rw [hV]; exact (bthenS L5.out b6).alloc (bthenS L5.out b6).size _)
  have A6 : Hid (BI V w.heap.size n0 q0 c0 l0) := Lib.hid (by rw [hV]; exact (A5.out.next b6).next (belowA _ _))
  have B6 : Hid (BI V (w.heap.size + 1) n1 q1 c1 l1) := Lib.hid (by rw [hV]; exact (B5.out.next b6).next (belowA _ _))
  have X6 : Hid (BI V w6.heap.size n0 (some ⟨g6, 0, none⟩) l0.length l0) := Lib.hid (by rw [hV]; exact BI.new _ (RdS.of_own o6))
  have HV := Lib.hid hV
  clear b6 o6 hg6 x0 x1 x2 L5 A5 B5 hV
  obtain ⟨x0, x1, x2⟩ := B6.out.1
  go_upto_region 10 with fail
  rw [← HV.out]
  go_wp2_with fail
  refine (toImgC n1 q1 c1 l1 V B6.out.2 HS1.out).mono ?_
  rintro e w7 ⟨g7, hg7, rfl, o7, b7⟩
  obtain ⟨U, hU⟩ : ∃ U, U = w7.alloc (.cells #[.int .i64 n1, .slice (some ⟨g7, 0, none⟩) l1.length l1.length] 32) := ⟨_, rfl⟩
  have L7 : Hid (Below w.heap.size w U) := Lib.hid (by rw [hU]; exact (bthenS L6.out b7).alloc (bthenS L6.out b7).size _)
  have A7 : Hid (BI U w.heap.size n0 q0 c0 l0) := Lib.hid (by rw [hU]; exact (A6.out.next b7).next (belowA _ _))
  have B7 : Hid (BI U (w.heap.size + 1) n1 q1 c1 l1) := Lib.hid (by rw [hU]; exact (B6.out.next b7).next (belowA _ _))
  have X7 : Hid (BI U w6.heap.size n0 (some ⟨g6, 0, none⟩) l0.length l0) := Lib.hid (by rw [hU]; exact (X6.out.next b7).next (belowA _ _))
  have Y7 : Hid (BI U w7.heap.size n1 (some ⟨g7, 0, none⟩) l1.length l1) := Lib.hid (by rw [hU]; exact BI.new _ (RdS.of_own o7))
  have HU := Lib.hid hU
  clear b7 o7 hg7 x0 x1 x2 L6 A6 B6 X6 hU HV
  obtain ⟨s0, s1, s2⟩ := X7.out.1
  obtain ⟨t0, t1, t2⟩ := Y7.out.1
  go_upto_region 11 with fail
  rw [← HU.out]
  go_wp2_with fail
  refine (sameI n0 n1 (some ⟨g6, 0, none⟩) (some ⟨g7, 0, none⟩) l0.length l1.length l0 l1 U (Nat.le_refl _) (Nat.le_refl _) X7.out.2 Y7.out.2 HS.out HS1.out k j c d HC.out HD.out bb HB.out).mono ?_
  rintro e w8 ⟨rfl, b8⟩
  have L8 := Lib.hid (bthenS L7.out b8); have A8 := Lib.hid (A7.out.next b8); have B8 := Lib.hid (B7.out.next b8); have X8 := Lib.hid (X7.out.next b8); have Y8 := Lib.hid (Y7.out.next b8)
  clear s0 s1 s2 t0 t1 t2 b8 L7 A7 B7 X7 Y7 HU
  have K8 : (w8.cell? ⟨w6.heap.size, 0, none⟩ = some (.int .i64 n0) ∧ w8.cell? ⟨w6.heap.size, 1, none⟩ = some (.slice (some ⟨g6, 0, none⟩) l0.length l0.length)) ∧ w8.cell? ⟨w.heap.size, 0, none⟩ = some (.int .i64 n0) ∧ w8.cell? ⟨w.heap.size, 1, none⟩ = some (.slice q0 l0.length c0) := ⟨X8.out.1.2, A8.out.1.2⟩
  have C9 := Lib.hid (toImgC n0 q0 c0 l0 w8.drew (A8.out.next (belowD w8)).2 HS.out)
  go_upto_region 14 with fail
  go_region_held3 (fun w' => (w'.cell? ⟨w6.heap.size, 0, none⟩ = some (.int .i64 n0) ∧ w'.cell? ⟨w6.heap.size, 1, none⟩ = some (.slice (some ⟨g6, 0, none⟩) l0.length l0.length)) ∧ w'.cell? ⟨w.heap.size, 0, none⟩ = some (.int .i64 n0) ∧ w'.cell? ⟨w.heap.size, 1, none⟩ = some (.slice q0 l0.length c0)) (first | (with_reducible exact K8) | (with_reducible exact keep4S K8) | (with_reducible exact K9) | (with_reducible exact keep4S K9) | (with_reducible exact Ka) | (with_reducible exact keep4S Ka) | go_keep) (first | (go_at_call 11; (with_reducible refine Calls.mono (C9.out) ?_); rintro e w9 ⟨g9, hg9, rfl, o9, b9⟩; have b9' : Below w8.heap.size w8 w9 := (belowD w8).trans b9; have L9 := Lib.hid (bthenS L8.out b9'); have A9 := Lib.hid (A8.out.next b9'); have B9 := Lib.hid (B8.out.next b9'); have X9 := Lib.hid (X8.out.next b9'); have Y9 := Lib.hid (Y8.out.next b9'); have K9 : (w9.cell? ⟨w6.heap.size, 0, none⟩ = some (.int .i64 n0) ∧ w9.cell? ⟨w6.heap.size, 1, none⟩ = some (.slice (some ⟨g6, 0, none⟩) l0.length l0.length)) ∧ w9.cell? ⟨w.heap.size, 0, none⟩ = some (.int .i64 n0) ∧ w9.cell? ⟨w.heap.size, 1, none⟩ = some (.slice q0 l0.length c0) := ⟨X9.out.1.2, A9.out.1.2⟩; have Ca := Lib.hid (eqImgC n0 (some ⟨g6, 0, none⟩) (some ⟨g9, 0, none⟩) l0.length l0.length l0 w9 HL X9.out.2 (RdS.of_own o9)); clear hg9 o9 b9 b9') | (go_at_call 13; (with_reducible refine Calls.mono (Ca.out) ?_); rintro e wa ⟨rfl, ba⟩; have La := Lib.hid (bthenS L9.out ba); have Ba := Lib.hid (B9.out.next ba); have Ya := Lib.hid (Y9.out.next ba); have Ka : (wa.cell? ⟨w6.heap.size, 0, none⟩ = some (.int .i64 n0) ∧ wa.cell? ⟨w6.heap.size, 1, none⟩ = some (.slice (some ⟨g6, 0, none⟩) l0.length l0.length)) ∧ wa.cell? ⟨w.heap.size, 0, none⟩ = some (.int .i64 n0) ∧ wa.cell? ⟨w.heap.size, 1, none⟩ = some (.slice q0 l0.length c0) := ⟨(X9.out.next ba).1.2, (A9.out.next ba).1.2⟩; clear ba))
  clear K8 K9 Ka C9 Ca L8 A8 B8 X8 Y8 L9 A9 B9 X9 Y9
  have Kb : (wa.cell? ⟨w7.heap.size, 0, none⟩ = some (.int .i64 n1) ∧ wa.cell? ⟨w7.heap.size, 1, none⟩ = some (.slice (some ⟨g7, 0, none⟩) l1.length l1.length)) ∧ wa.cell? ⟨w.heap.size + 1, 0, none⟩ = some (.int .i64 n1) ∧ wa.cell? ⟨w.heap.size + 1, 1, none⟩ = some (.slice q1 l1.length c1) := ⟨Ya.out.1.2, Ba.out.1.2⟩
  have Cb := Lib.hid (toImgC n1 q1 c1 l1 wa.drew (Ba.out.next (belowD wa)).2 HS1.out)
  go_upto_region 16 with fail
  go_region_held3 (fun w' => (w'.cell? ⟨w7.heap.size, 0, none⟩ = some (.int .i64 n1) ∧ w'.cell? ⟨w7.heap.size, 1, none⟩ = some (.slice (some ⟨g7, 0, none⟩) l1.length l1.length)) ∧ w'.cell? ⟨w.heap.size + 1, 0, none⟩ = some (.int .i64 n1) ∧ w'.cell? ⟨w.heap.size + 1, 1, none⟩ = some (.slice q1 l1.length c1)) (first | (with_reducible exact Kb) | (with_reducible exact keep4S Kb) | (with_reducible exact Kc) | (with_reducible exact keep4S Kc) | (with_reducible exact Kd) | (with_reducible exact keep4S Kd) | go_keep) (first | (go_at_call 11; (with_reducible refine Calls.mono (Cb.out) ?_); rintro e wc ⟨gc, hgc, rfl, oc, bc⟩; have bc' : Below wa.heap.size wa wc := (belowD wa).trans bc; have Lc := Lib.hid (bthenS La.out bc'); have Bc := Lib.hid (Ba.out.next bc'); have Yc := Lib.hid (Ya.out.next bc'); have Kc : (wc.cell? ⟨w7.heap.size, 0, none⟩ = some (.int .i64 n1) ∧ wc.cell? ⟨w7.heap.size, 1, none⟩ = some (.slice (some ⟨g7, 0, none⟩) l1.length l1.length)) ∧ wc.cell? ⟨w.heap.size + 1, 0, none⟩ = some (.int .i64 n1) ∧ wc.cell? ⟨w.heap.size + 1, 1, none⟩ = some (.slice q1 l1.length c1) := ⟨Yc.out.1.2, Bc.out.1.2⟩; have Cd := Lib.hid (eqImgC n1 (some ⟨g7, 0, none⟩) (some ⟨gc, 0, none⟩) l1.length l1.length l1 wc HL1 Yc.out.2 (RdS.of_own oc)); clear hgc oc bc bc') | (go_at_call 13; (with_reducible refine Calls.mono (Cd.out) ?_); rintro e wd ⟨rfl, bd⟩; have Ld := Lib.hid (bthenS Lc.out bd); have Kd : (wd.cell? ⟨w7.heap.size, 0, none⟩ = some (.int .i64 n1) ∧ wd.cell? ⟨w7.heap.size, 1, none⟩ = some (.slice (some ⟨g7, 0, none⟩) l1.length l1.length)) ∧ wd.cell? ⟨w.heap.size + 1, 0, none⟩ = some (.int .i64 n1) ∧ wd.cell? ⟨w.heap.size + 1, 1, none⟩ = some (.slice q1 l1.length c1) := ⟨(Yc.out.next bd).1.2, (Bc.out.next bd).1.2⟩; clear bd))
  go_wp2
  go_ret
  exact ⟨rfl, Ld.out⟩

/-! ### THE ROW's STEP -/
set_option maxRecDepth 100000 in
theorem lifted (os : Os) (started : os.Started) (H : Type) (enc : TypeId × Value → H) :
    ReturnsInHanded {} Try.checked os 6 .any (Rows.fnExactSameImageSpec.pre6 enc Try.prog Try.f6 Rows.fnExactSameImageRow.domain false) (Rows.fnExactSameImageSpec.post enc Try.prog Try.f6 false true false false) := by
  refine returnsInHanded_of_change (C := Try.checked) own started (by kernel_rfl) Try.func6
    (ChangeSpec.witness6 (enc := enc) (C := Try.checked) false ⟨#[], #[.agg #[.int .i64 0, .slice none 0 0], .agg #[.int .i64 0, .slice none 0 0]], []⟩ 8 (by kernel_rfl) (by kernel_rfl) (by kernel_rfl) (by kernel_rfl)) ?_
  intro W base args ds gs before hval0 hW hcnd _
  have hval : ∀ (j : Nat) t v, Try.f6.params[j]? = some t → args[j]? = some v → Value.okWide Try.prog W .any base t v := hval0
  have hW' := hW
  obtain ⟨p, q, hA0, hV, rfl, hfz, hnd⟩ := hW
  have hA : DataW.TrodAll enc Try.prog W 0 (fun _ => true) true Try.f6.params.toList args.toList ds p := hA0
  rw [Try.params6] at hA hval
  obtain ⟨v0, vs0, d0, ds0, p0, s0, hargs, rfl, rfl, h0, t0⟩ := trodAll_cons hA
  obtain ⟨v1, vs1, d1, ds1, p1, s1, rfl, rfl, rfl, h1, t1⟩ := trodAll_cons t0
  obtain ⟨rfl, rfl, rfl⟩ := trodAll_nil t1
  obtain rfl : args = #[v0, v1] := by cases args; simp_all
  obtain ⟨rfl, rfl⟩ := trodVars_none hV
  have k0 := h0
  have lt0 : ∀ x ∈ p0, x.block < W.heap.size := by obtain ⟨m, hm⟩ := k0; exact DataW.trod_lt m _ _ _ hm
  obtain ⟨n0, q0, l0, c0, rfl, r0, f0, wn0, y0⟩ := open_img Try.underlying27 (by kernel_rfl) (by kernel_rfl) Try.underlying3 Try.underlying25 Try.underlying69 (by kernel_rfl) (by kernel_rfl) Try.underlying3 Try.underlying3 Try.underlying3 Try.underlying9 (hval 0 27 v0 rfl rfl) h0
  have k1 := h1
  have lt1 : ∀ x ∈ p1, x.block < W.heap.size := by obtain ⟨m, hm⟩ := k1; exact DataW.trod_lt m _ _ _ hm
  obtain ⟨n1, q1, l1, c1, rfl, r1, f1, wn1, y1⟩ := open_img Try.underlying27 (by kernel_rfl) (by kernel_rfl) Try.underlying3 Try.underlying25 Try.underlying69 (by kernel_rfl) (by kernel_rfl) Try.underlying3 Try.underlying3 Try.underlying3 Try.underlying9 (hval 1 27 v1 rfl rfl) h1
  clear hA0 hval0
  refine (walk n0 q0 c0 l0 n1 q1 c1 l1 W r0 f0 wn0 y0 r1 f1 wn1 y1).mono fun e W' ⟨he, bel⟩ => ?_
  subst he
  exact ⟨_, rfl, _, _, _, [], _, [], hW', trodAll_mk1 (shut_bool Try.underlying4 _), (trodAll_cons_mk (Below.trod laidOut (by kernel_rfl) (of_decide_eq_true (by kernel_rfl)) k0 bel lt0) (trodAll_cons_mk (Below.trod laidOut (by kernel_rfl) (of_decide_eq_true (by kernel_rfl)) k1 bel lt1) trodAll_mk0)), rfl, bel.frame _, fun h => by cases h⟩

theorem over : Rows.fnExactSameImageRow.holds Try.pinned (OpenSpec.ofChange Rows.fnExactSameImageSpec) :=
  OpenClaim.holds_of_wide 6 Try.f6 rfl rfl rfl rfl rfl rfl rfl ⟨rfl, rfl, rfl, rfl, rfl⟩ rfl rfl rfl rfl rfl (by kernel_rfl) Try.func6 (by kernel_rfl)
    (of_decide_eq_true (by kernel_rfl)) (by unfold Func.isWrapper; first | (rw [if_pos (by decide +kernel)]; kernel_rfl) | (rw [if_neg (by decide +kernel)]; exact ⟨rfl, rfl⟩))
    (fun os started H enc _ => lifted os started H enc)

/-- ████ THE STATEMENT ████ -/
theorem proved : Rows.FnExactSameImageSaid := over
#print axioms proved
end Go.Proofs.Ytmoemhnmiabppaa.fnExactSameImage
