/-
  Proved: for every image (an int and a list of segments), laws.FnExactMapImage returns true (impl.MapImage answers as spec.MapImage, every page and every field and the code, its answer owns its memory, and it leaves its argument as it was); condition: the library's own variable of errors.As holds what Go's text lays there, which the card ties to that text.
-/
import Derived.Test.YtcchcinnjahghaaDoorCards
import Derived.Test.YtcchcinnjahghaaDoorTie
import Derived.LaidMore
import Derived.Stop.Joined
import Derived.OpenVars
import Derived.WalkKit
import Derived.ProofKit
import Derived.OpenShut
import Derived.ShutString
import Derived.Test.YtcchcinnjahghaaDoorWalkMi
import Derived.Test.YtcchcinnjahghaaDoorWalkMkSg
import Derived.Deep.RegionHeld3
import Derived.ChangeOld
import Derived.Below
import Derived.Test.YtcchcinnjahghaaDoorOpenImg
namespace Go.Proofs.YtcchcinnjahghaaDoor.fnExactMapImage
open Go.ChangeShapes Go.WideShapes Go.ChangeAt Go.RowKit
open Go.ChangeMaps (open_string shut_string)
set_option linter.unusedVariables false

theorem own : ownKnob Tryd.prog.godebug = none := by kernel_rfl
theorem laidOut : laidOutB Tryd.prog = true := by kernel_rfl

theorem imgLen {l : List Sg} (ho : OkTo l l.length) : (imgPgs l).length ≤ 40 := by
  obtain ⟨_, _, s3⟩ := segs_ok ho (Nat.le_refl _)
  have hfr := okTo_free ho (Nat.le_refl _)
  rw [List.take_length] at s3 hfr
  unfold imgPgs
  rw [List.length_append, List.length_append]
  have : headPgs.length = 2 := rfl
  have : tailPgs.length = 3 := rfl
  omega
/-- what a call of MapImage answers: pages and numbers that hang on the image alone, in a list of its own -/
def LdIs (w w' : World) (LL : List Pg) (E H T S c : Int) (e : Ending) : Prop := ∃ p cp ra rb rc, e = .returned (.tuple #[.agg #[.slice p LL.length cp, .int .i64 E, .int .i64 H, .int .i64 T, .int .i64 S, .slice ra 0 0, .slice rb 0 0, .slice rc 0 0, .int .i64 0], .int .i64 c]) ∧ Owns w' w.heap.size p cp LL
theorem ldIs_of {w w' : World} {n : Int} {l : List Sg} {c : Int} {e : Ending} (h : MiOut w w' n l c e) : LdIs w w' (if c = 0 then imgPgs l else []) (if c = 0 then 16384 + n else 0) (if c = 0 then hpOf l else 0) (if c = 0 then taOf l else 0) (if c = 0 then szOf l else 0) c e := by
  rcases h with ⟨h0, rfl⟩ | ⟨rfl, g, cp, ra, rb, rc, rfl, ho⟩
  · simp only [if_neg h0]
    exact ⟨none, 0, none, none, none, rfl, owns_nil _ _⟩
  · simp only [if_pos]
    exact ⟨_, cp, ra, rb, rc, rfl, ho⟩
theorem ld_facts {n : Int} {l : List Sg} {k : Nat} {c : Int} (hc : Chk n l k c) : ∃ LL E H T S, (∀ w w' e, MiOut w w' n l c e → LdIs w w' LL E H T S c e) ∧ LL.length ≤ 40 := by
  refine ⟨_, _, _, _, _, fun w w' e h => ldIs_of h, ?_⟩
  split
  · rename_i h0
    exact imgLen (chk_ok hc h0).2.1
  · simp
set_option maxHeartbeats 1000000 in
set_option maxRecDepth 100000 in
theorem walk (n0 : Int) (q0 : Option Addr) (c0 : Nat) (l0 : List Sg) (w : World) (r0 : RdS w q0 l0) (f0 : FitsS l0) (wn0 : (Lit.int .i64 n0).wf = true) (y0 : ∀ (k : Nat) x, l0[k]? = some x → (Lit.int .i64 x.f).wf = true ∧ (Lit.int .i64 x.v).wf = true ∧ (Lit.int .i64 x.m).wf = true) (hL : laidMetH Tryd.prog Rows.fnExactMapImageRow.laid w) :
    Calls Tryd.prog 4 #[.agg #[.int .i64 n0, .slice q0 l0.length c0]] w fun e w' => e = .returned (.bool true) ∧ Below w.heap.size w w' := by
  obtain ⟨W, hW⟩ : ∃ W, W = w.alloc (.cells #[.int .i64 n0, .slice q0 l0.length c0] 32) := ⟨_, rfl⟩
  have L0 : Hid (Below w.heap.size w W) := Lib.hid (by rw [hW]; go_grown)
  have A0 : Hid (BI W w.heap.size n0 q0 c0 l0) := Lib.hid (by rw [hW]; exact BI.new _ r0)
  have HG : Hid (EtOk W) := Lib.hid ((et_of_laid rfl hL).next L0.out)
  have HW := Lib.hid hW; have HF := Lib.hid f0; have HY := Lib.hid y0
  clear r0 f0 y0 hW hL
  go_enter Tryd.func4, Tryd.ntmps4
  go_wp2_with fail
  rw [← HW.out]
  refine (szImgC n0 q0 c0 l0 1048576 W A0.out.2 HF.out (by omega) (by omega)).mono ?_
  rintro e w1 ⟨r, rfl, HQ, b1⟩
  have M1 := Lib.hid b1; have A1 := Lib.hid (A0.out.next b1)
  obtain ⟨x0, x1, x2⟩ := A1.out.1
  clear b1
  by_cases hneg : r < 0
  · go_wp2
    go_ret
    exact ⟨rfl, bthenS L0.out M1.out⟩
  have hd : decide (r < 0) = false := decide_eq_false hneg
  have HS := Lib.hid (sz_smallS HQ.out hneg)
  have HL : l0.length ≤ 9223372036854775807 := by have := HS.out.1; omega
  obtain ⟨k, c, hc⟩ := chk_all n0 l0
  have HC := Lib.hid hc
  obtain ⟨LL, E, H, T, S, hll, hle⟩ := ld_facts hc
  have HLL := Lib.hid hll; have HLE := Lib.hid hle
  clear hneg hc hll hle
  go_wp2_with fail
  refine (toImgC n0 q0 c0 l0 w1 A1.out.2 HS.out).mono ?_
  rintro e w2 ⟨g2, hg2, rfl, o2, b2⟩
  have M2 := Lib.hid (bthenS M1.out b2); have A2 := Lib.hid (A1.out.next b2)
  have R2 := Lib.hid (RdS.of_own o2)
  have P2 : Hid (∀ b o, (some ⟨g2, 0, none⟩ : Option Addr) = some ⟨b, o, none⟩ → l0 ≠ [] → b < w2.heap.size) := Lib.hid (fun b o e _ => by cases e; exact (o2.lt g2 rfl).2)
  clear x0 x1 x2 b2 o2 hg2 M1 A1
  go_wp2_with fail
  refine (miS n0 (some ⟨g2, 0, none⟩) l0.length l0 w2 R2.out P2.out HS.out HY.out k c HC.out).mono ?_
  rintro e w3 ⟨ho, b3⟩
  obtain ⟨p3, c3, ra, rb, rc, rfl, own3⟩ := HLL.out _ _ _ ho
  obtain ⟨V3, hV3⟩ : ∃ V, V = w3.alloc (.cells #[.slice p3 LL.length c3, .int .i64 E, .int .i64 H, .int .i64 T, .int .i64 S, .slice ra 0 0, .slice rb 0 0, .slice rc 0 0, .int .i64 0] 41) := ⟨_, rfl⟩
  have s3 : V3.heap.size = w3.heap.size + 1 := by rw [hV3]; simp
  have bV3 : Below w3.heap.size w3 V3 := by rw [hV3]; exact belowA _ _
  have Z3 : Hid (W.heap.size ≤ w2.heap.size ∧ w2.heap.size ≤ w3.heap.size ∧ V3.heap.size = w3.heap.size + 1) := Lib.hid ⟨M2.out.size, b3.size, s3⟩
  have M3 := Lib.hid (bthenS (bthenS M2.out b3) bV3); have A3 := Lib.hid ((A2.out.next b3).next bV3)
  have T3 : Hid (CellsAt V3 w3.heap.size [.slice p3 LL.length c3, .int .i64 E, .int .i64 H, .int .i64 T, .int .i64 S, .slice ra 0 0, .slice rb 0 0, .slice rc 0 0, .int .i64 0]) := Lib.hid (by rw [hV3]; exact CellsAt.of_block (heap_alloc_new w3 (.cells #[.slice p3 LL.length c3, .int .i64 E, .int .i64 H, .int .i64 T, .int .i64 S, .slice ra 0 0, .slice rb 0 0, .slice rc 0 0, .int .i64 0] 41)))
  have O3 := Lib.hid (own_below own3 bV3)
  have F3 : Hid (∀ j, (Value.slice p3 LL.length c3).ownBlock = some j → w2.heap.size ≤ j ∧ j < w3.heap.size) := Lib.hid (fun j hj => own3.lt j hj)
  obtain ⟨x0, x1, x2⟩ := (A2.out.next b3).1
  have HV3 := Lib.hid hV3
  clear own3 b3 hV3 s3 bV3 M2 A2 R2 P2 ho
  go_wp2_with fail
  rw [← HV3.out]
  refine (toImgC n0 q0 c0 l0 V3 A3.out.2 HS.out).mono ?_
  rintro e w4 ⟨g4, hg4, rfl, o4, b4⟩
  obtain ⟨V4, hV4⟩ : ∃ V, V = w4.alloc (.cells #[.int .i64 n0, .slice (some ⟨g4, 0, none⟩) l0.length l0.length] 24) := ⟨_, rfl⟩
  have s4 : V4.heap.size = w4.heap.size + 1 := by rw [hV4]; simp
  have bV4 : Below w4.heap.size w4 V4 := by rw [hV4]; exact belowA _ _
  have Z4 : Hid (V3.heap.size ≤ g4 ∧ g4 < w4.heap.size ∧ V4.heap.size = w4.heap.size + 1) := Lib.hid ⟨(o4.lt g4 rfl).1, (o4.lt g4 rfl).2, s4⟩
  have M4 := Lib.hid (bthenS (bthenS M3.out b4) bV4); have A4 := Lib.hid ((A3.out.next b4).next bV4)
  have T4 := Lib.hid ((T3.out.next b4).next bV4)
  have O4 := Lib.hid (own_below (own_below O3.out b4) bV4)
  have X4 : Hid (ImAt V4 w4.heap.size n0 (some ⟨g4, 0, none⟩) l0.length l0.length) := Lib.hid (by rw [hV4]; exact ImAt.new _ _ _ _ _ _)
  have Q4 := Lib.hid (own_below o4 bV4)
  have HV4 := Lib.hid hV4
  clear o4 hg4 hV4 s4 x0 x1 x2 b4 bV4 M3 A3 T3 O3
  obtain ⟨s0, s1, s2⟩ := X4.out
  go_upto_region 7 with fail
  rw [← HV4.out]
  go_wp2_with fail
  refine (miI n0 (some ⟨g4, 0, none⟩) l0.length l0 V4 (HG.out.next (M4.out)) (Nat.le_refl _) (RdS.of_own Q4.out) HS.out k c HC.out).mono ?_
  rintro e w5 ⟨ho, b5⟩
  obtain ⟨p5, c5, sa, sb, sc, rfl, own5⟩ := HLL.out _ _ _ ho
  obtain ⟨V5, hV5⟩ : ∃ V, V = w5.alloc (.cells #[.slice p5 LL.length c5, .int .i64 E, .int .i64 H, .int .i64 T, .int .i64 S, .slice sa 0 0, .slice sb 0 0, .slice sc 0 0, .int .i64 0] 41) := ⟨_, rfl⟩
  have s5 : V5.heap.size = w5.heap.size + 1 := by rw [hV5]; simp
  have bV5 : Below w5.heap.size w5 V5 := by rw [hV5]; exact belowA _ _
  have Z5 : Hid (V4.heap.size ≤ w5.heap.size ∧ V5.heap.size = w5.heap.size + 1) := Lib.hid ⟨b5.size, s5⟩
  have M5 := Lib.hid (bthenS (bthenS M4.out b5) bV5); have A5 := Lib.hid ((A4.out.next b5).next bV5)
  have T5 := Lib.hid ((T4.out.next b5).next bV5); have O5 := Lib.hid (own_below (own_below O4.out b5) bV5)
  have X5 := Lib.hid ((X4.out.next b5).next bV5); have Q5 := Lib.hid (own_below (own_below Q4.out b5) bV5)
  have U5 : Hid (CellsAt V5 w5.heap.size [.slice p5 LL.length c5, .int .i64 E, .int .i64 H, .int .i64 T, .int .i64 S, .slice sa 0 0, .slice sb 0 0, .slice sc 0 0, .int .i64 0]) := Lib.hid (by rw [hV5]; exact CellsAt.of_block (heap_alloc_new w5 (.cells #[.slice p5 LL.length c5, .int .i64 E, .int .i64 H, .int .i64 T, .int .i64 S, .slice sa 0 0, .slice sb 0 0, .slice sc 0 0, .int .i64 0] 41)))
  have P5 := Lib.hid (own_below own5 bV5)
  have F5 : Hid (∀ j, (Value.slice p5 LL.length c5).ownBlock = some j → V4.heap.size ≤ j ∧ j < w5.heap.size) := Lib.hid (fun j hj => own5.lt j hj)
  have HV5 := Lib.hid hV5
  clear own5 b5 hV5 s5 bV5 M4 A4 T4 O4 X4 Q4 s0 s1 s2 ho
  go_upto_region 8 with fail
  rw [← HV5.out]
  have aR := T5.out
  have a0 := aR.2.1 0 _ rfl
  have a1 := aR.2.1 1 _ rfl
  have a2 := aR.2.1 2 _ rfl
  have a3 := aR.2.1 3 _ rfl
  have a4 := aR.2.1 4 _ rfl
  have a5 := aR.2.1 5 _ rfl
  have a6 := aR.2.1 6 _ rfl
  have a7 := aR.2.1 7 _ rfl
  have a8 := aR.2.1 8 _ rfl
  clear aR
  have dR := U5.out
  have d0 := dR.2.1 0 _ rfl
  have d1 := dR.2.1 1 _ rfl
  have d2 := dR.2.1 2 _ rfl
  have d3 := dR.2.1 3 _ rfl
  have d4 := dR.2.1 4 _ rfl
  have d5 := dR.2.1 5 _ rfl
  have d6 := dR.2.1 6 _ rfl
  have d7 := dR.2.1 7 _ rfl
  have d8 := dR.2.1 8 _ rfl
  clear dR
  go_wp2_with fail
  refine (eqLdC p5 p3 sa sb sc ra rb rc c5 c3 LL E H T S V5 (by have := HLE.out; omega) (Rd.of_own P5.out) (Rd.of_own O5.out)).mono ?_
  rintro e w6 ⟨rfl, b6⟩
  have M6 := Lib.hid (bthenS M5.out b6); have A6 := Lib.hid (A5.out.next b6); have T6 := Lib.hid (T5.out.next b6); have O6 := Lib.hid (own_below O5.out b6)
  have X6 := Lib.hid (X5.out.next b6); have Q6 := Lib.hid (own_below Q5.out b6); have U6 := Lib.hid (U5.out.next b6); have P6 := Lib.hid (own_below P5.out b6)
  clear b6 M5 A5 T5 O5 X5 Q5 U5 P5 a0 a1 a2 a3 a4 a5 a6 a7 a8 d0 d1 d2 d3 d4 d5 d6 d7 d8
  have K5 : (w6.cell? ⟨w4.heap.size, 0, none⟩ = some (.int .i64 n0) ∧ w6.cell? ⟨w4.heap.size, 1, none⟩ = some (.slice (some ⟨g4, 0, none⟩) l0.length l0.length)) ∧ w6.cell? ⟨w.heap.size, 0, none⟩ = some (.int .i64 n0) ∧ w6.cell? ⟨w.heap.size, 1, none⟩ = some (.slice q0 l0.length c0) := ⟨X6.out.2, A6.out.1.2⟩
  have C6 := Lib.hid (toImgC n0 q0 c0 l0 w6.drew (A6.out.next (belowD w6)).2 HS.out)
  go_upto_region 10 with fail
  go_region_held3 (fun w' => (w'.cell? ⟨w4.heap.size, 0, none⟩ = some (.int .i64 n0) ∧ w'.cell? ⟨w4.heap.size, 1, none⟩ = some (.slice (some ⟨g4, 0, none⟩) l0.length l0.length)) ∧ w'.cell? ⟨w.heap.size, 0, none⟩ = some (.int .i64 n0) ∧ w'.cell? ⟨w.heap.size, 1, none⟩ = some (.slice q0 l0.length c0)) (first | (with_reducible exact K5) | (with_reducible exact keep4S K5) | (with_reducible exact K7) | (with_reducible exact keep4S K7) | (with_reducible exact K8) | (with_reducible exact keep4S K8) | go_keep) (first | (go_at_call 12; (with_reducible refine Calls.mono (C6.out) ?_); rintro e w7 ⟨g7, hg7, rfl, o7, b7⟩; have b7' : Below w6.heap.size w6 w7 := (belowD w6).trans b7; have N7 := Lib.hid b7'; have K7 : (w7.cell? ⟨w4.heap.size, 0, none⟩ = some (.int .i64 n0) ∧ w7.cell? ⟨w4.heap.size, 1, none⟩ = some (.slice (some ⟨g4, 0, none⟩) l0.length l0.length)) ∧ w7.cell? ⟨w.heap.size, 0, none⟩ = some (.int .i64 n0) ∧ w7.cell? ⟨w.heap.size, 1, none⟩ = some (.slice q0 l0.length c0) := ⟨(X6.out.next b7').2, (A6.out.next b7').1.2⟩; have C7 := Lib.hid (eqImgC n0 (some ⟨g4, 0, none⟩) (some ⟨g7, 0, none⟩) l0.length l0.length l0 w7 HL (RdS.of_own (own_below Q6.out b7')) (RdS.of_own o7)); clear hg7 o7 b7 b7') | (go_at_call 7; (with_reducible refine Calls.mono (C7.out) ?_); rintro e w8 ⟨rfl, b8⟩; have N8 := Lib.hid (bthenS N7.out b8); have K8 : (w8.cell? ⟨w4.heap.size, 0, none⟩ = some (.int .i64 n0) ∧ w8.cell? ⟨w4.heap.size, 1, none⟩ = some (.slice (some ⟨g4, 0, none⟩) l0.length l0.length)) ∧ w8.cell? ⟨w.heap.size, 0, none⟩ = some (.int .i64 n0) ∧ w8.cell? ⟨w.heap.size, 1, none⟩ = some (.slice q0 l0.length c0) := ⟨(X6.out.next (bthenS N7.out b8)).2, (A6.out.next (bthenS N7.out b8)).1.2⟩; clear b8))
  have M8 := Lib.hid (bthenS M6.out N8.out); have A8 := Lib.hid (A6.out.next N8.out); have T8 := Lib.hid (T6.out.next N8.out); have O8 := Lib.hid (own_below O6.out N8.out)
  have X8 := Lib.hid (X6.out.next N8.out); have Q8 := Lib.hid (own_below Q6.out N8.out); have U8 := Lib.hid (U6.out.next N8.out); have P8 := Lib.hid (own_below P6.out N8.out)
  clear M6 A6 T6 O6 X6 Q6 U6 P6 N7 N8 K5 K7 K8 C6 C7
  obtain ⟨y0, y1, y2⟩ := X8.out
  have CM := Lib.hid (markAnyS n0 (some ⟨g4, 0, none⟩) l0.length V3.heap.size l0 w8 (by have := HS.out.1; omega) Q8.out)
  obtain ⟨K, hK⟩ : ∃ K : Nat, K = 1 + 4 * l0.length := ⟨_, rfl⟩
  rw [← hK] at CM
  have hKd : decide ((K : Int) < 0) = false := decide_eq_false (by omega)
  clear hK
  trace_state
  go_wp2_with fail
  refine (CM.out).mono ?_
  rintro e w9 ⟨rfl, _, g9⟩
  have z3 := Z3.out; have z4 := Z4.out; have z5 := Z5.out
  have hrow : (Value.slice (some ⟨g4, 0, none⟩ : Option Addr) l0.length l0.length).ownBlock = some g4 := rfl
  rw [hrow] at g9
  have M9 := Lib.hid (M8.out.grown g9 M8.out.size (fun j hj => by cases hj; omega))
  have A9 := Lib.hid (A0.out.next M9.out)
  have T9 := Lib.hid (T8.out.far g9 (fun e => by cases e; omega))
  have U9 := Lib.hid (U8.out.far g9 (fun e => by cases e; omega))
  have O9 := Lib.hid (own_far O8.out g9 (by
    by_cases h : (Value.slice p3 LL.length c3).ownBlock = none
    · exact .inl h
    · refine .inr (fun e => ?_)
      have h1 := F3.out g4 e
      omega))
  have P9 := Lib.hid (own_far P8.out g9 (by
    by_cases h : (Value.slice p5 LL.length c5).ownBlock = none
    · exact .inl h
    · refine .inr (fun e => ?_)
      have h1 := F5.out g4 e
      omega))
  clear g9 CM y0 y1 y2 M8 A8 T8 U8 O8 P8 X8 Q8 z3 z4 z5 hrow
  have aR := T9.out
  have a0 := aR.2.1 0 _ rfl
  have a1 := aR.2.1 1 _ rfl
  have a2 := aR.2.1 2 _ rfl
  have a3 := aR.2.1 3 _ rfl
  have a4 := aR.2.1 4 _ rfl
  have a5 := aR.2.1 5 _ rfl
  have a6 := aR.2.1 6 _ rfl
  have a7 := aR.2.1 7 _ rfl
  have a8 := aR.2.1 8 _ rfl
  clear aR
  have dR := U9.out
  have d0 := dR.2.1 0 _ rfl
  have d1 := dR.2.1 1 _ rfl
  have d2 := dR.2.1 2 _ rfl
  have d3 := dR.2.1 3 _ rfl
  have d4 := dR.2.1 4 _ rfl
  have d5 := dR.2.1 5 _ rfl
  have d6 := dR.2.1 6 _ rfl
  have d7 := dR.2.1 7 _ rfl
  have d8 := dR.2.1 8 _ rfl
  clear dR
  go_wp2_with fail
  refine (eqLdC p5 p3 sa sb sc ra rb rc c5 c3 LL E H T S w9 (by have := HLE.out; omega) (Rd.of_own P9.out) (Rd.of_own O9.out)).mono ?_
  rintro e wa ⟨rfl, ba⟩
  have Ma := Lib.hid (bthenS M9.out ba); have Ta := Lib.hid (T9.out.next ba); have Oa := Lib.hid (own_below O9.out ba); have Ua := Lib.hid (U9.out.next ba); have Pa := Lib.hid (own_below P9.out ba)
  clear ba M9 A9 T9 O9 U9 P9 a0 a1 a2 a3 a4 a5 a6 a7 a8 d0 d1 d2 d3 d4 d5 d6 d7 d8
  have CM := Lib.hid (markLdC p5 sa sb sc c5 V4.heap.size LL E H T S wa (by have := HLE.out; omega) Pa.out)
  have CH := Lib.hid (fun W hr => heldLdC p5 sa sb sc c5 LL E H T S W (by have := HLE.out; omega) hr)
  obtain ⟨K2, hK2⟩ : ∃ K : Nat, K = 1 + 3 * LL.length := ⟨_, rfl⟩
  rw [← hK2] at CM CH
  have hK2d : decide ((K2 : Int) < 0) = false := decide_eq_false (by omega)
  clear hK2
  have dR := Ua.out
  have d0 := dR.2.1 0 _ rfl
  have d1 := dR.2.1 1 _ rfl
  have d2 := dR.2.1 2 _ rfl
  have d3 := dR.2.1 3 _ rfl
  have d4 := dR.2.1 4 _ rfl
  have d5 := dR.2.1 5 _ rfl
  have d6 := dR.2.1 6 _ rfl
  have d7 := dR.2.1 7 _ rfl
  have d8 := dR.2.1 8 _ rfl
  clear dR
  go_wp2_with fail
  refine (CM.out).mono ?_
  rintro e wb ⟨rfl, ob, gb⟩
  have z3 := Z3.out; have z4 := Z4.out; have z5 := Z5.out
  have Mb := Lib.hid (Ma.out.grown gb Ma.out.size (fun j hj => by have := F5.out j hj; omega))
  have Tb := Lib.hid (Ta.out.far gb (fun e => by have := F5.out _ e.symm; omega))
  have Ub := Lib.hid (Ua.out.far gb (fun e => by have := F5.out _ e.symm; omega))
  have Ob := Lib.hid (own_far Oa.out gb (by
    by_cases h : (Value.slice p3 LL.length c3).ownBlock = none
    · exact .inl h
    · refine .inr (fun e => ?_)
      obtain ⟨j, hj⟩ := Option.ne_none_iff_exists'.1 h
      have h1 := F3.out j hj
      have h2 := F5.out j (e.symm.trans hj)
      omega))
  have Rb := Lib.hid (show Rd wb p5 (mkd LL 1) from Rd.of_own ob)
  clear ob gb CM Ma Ta Ua Oa Pa z3 z4 z5 d0 d1 d2 d3 d4 d5 d6 d7 d8
  have dR := Ub.out
  have d0 := dR.2.1 0 _ rfl
  have d1 := dR.2.1 1 _ rfl
  have d2 := dR.2.1 2 _ rfl
  have d3 := dR.2.1 3 _ rfl
  have d4 := dR.2.1 4 _ rfl
  have d5 := dR.2.1 5 _ rfl
  have d6 := dR.2.1 6 _ rfl
  have d7 := dR.2.1 7 _ rfl
  have d8 := dR.2.1 8 _ rfl
  clear dR
  go_wp2_with fail
  refine (CH.out _ Rb.out).mono ?_
  rintro e wc ⟨rfl, bc⟩
  have Mc := Lib.hid (bthenS Mb.out bc); have Tc := Lib.hid (Tb.out.next bc); have Uc := Lib.hid (Ub.out.next bc); have Oc := Lib.hid (own_below Ob.out bc); have Rc := Lib.hid (Rb.out.below bc)
  have Ac := Lib.hid (A0.out.next Mc.out)
  clear bc Mb Tb Ub Ob Rb d0 d1 d2 d3 d4 d5 d6 d7 d8
  obtain ⟨x0, x1, x2⟩ := Ac.out.1
  go_wp2_with fail
  refine (toImgC n0 q0 c0 l0 wc Ac.out.2 HS.out).mono ?_
  rintro e wd ⟨gd, hgd, rfl, od, bd⟩
  have Md := Lib.hid (bthenS Mc.out bd); have Td := Lib.hid (Tc.out.next bd); have Ud := Lib.hid (Uc.out.next bd); have Od := Lib.hid (own_below Oc.out bd); have Rd' := Lib.hid (Rc.out.below bd)
  have Sd := Lib.hid (RdS.of_own od)
  clear od hgd bd x0 x1 x2 Mc Tc Uc Oc Rc Ac
  go_wp2_with fail
  refine (miI n0 (some ⟨gd, 0, none⟩) l0.length l0 wd (HG.out.next (Md.out)) (Nat.le_refl _) Sd.out HS.out k c HC.out).mono ?_
  rintro e we ⟨ho, be⟩
  obtain ⟨p9, c9, ta, tb, tc, rfl, owne⟩ := HLL.out _ _ _ ho
  obtain ⟨Ve, hVe⟩ : ∃ V, V = we.alloc (.cells #[.slice p9 LL.length c9, .int .i64 E, .int .i64 H, .int .i64 T, .int .i64 S, .slice ta 0 0, .slice tb 0 0, .slice tc 0 0, .int .i64 0] 41) := ⟨_, rfl⟩
  have bVe : Below we.heap.size we Ve := by rw [hVe]; exact belowA _ _
  have Me := Lib.hid (bthenS (bthenS Md.out be) bVe)
  have Te := Lib.hid ((Td.out.next be).next bVe); have Oe := Lib.hid (own_below (own_below Od.out be) bVe); have Ue := Lib.hid ((Ud.out.next be).next bVe); have Re := Lib.hid ((Rd'.out.below be).below bVe)
  have Xe : Hid (CellsAt Ve we.heap.size [.slice p9 LL.length c9, .int .i64 E, .int .i64 H, .int .i64 T, .int .i64 S, .slice ta 0 0, .slice tb 0 0, .slice tc 0 0, .int .i64 0]) := Lib.hid (by rw [hVe]; exact CellsAt.of_block (heap_alloc_new we (.cells #[.slice p9 LL.length c9, .int .i64 E, .int .i64 H, .int .i64 T, .int .i64 S, .slice ta 0 0, .slice tb 0 0, .slice tc 0 0, .int .i64 0] 41)))
  have Pe := Lib.hid (own_below owne bVe)
  have HVe := Lib.hid hVe
  clear owne be hVe bVe Md Td Ud Od Rd' Sd ho
  go_upto_region 25 with fail
  rw [← HVe.out]
  have aR := Te.out
  have a0 := aR.2.1 0 _ rfl
  have a1 := aR.2.1 1 _ rfl
  have a2 := aR.2.1 2 _ rfl
  have a3 := aR.2.1 3 _ rfl
  have a4 := aR.2.1 4 _ rfl
  have a5 := aR.2.1 5 _ rfl
  have a6 := aR.2.1 6 _ rfl
  have a7 := aR.2.1 7 _ rfl
  have a8 := aR.2.1 8 _ rfl
  clear aR
  have dR := Xe.out
  have d0 := dR.2.1 0 _ rfl
  have d1 := dR.2.1 1 _ rfl
  have d2 := dR.2.1 2 _ rfl
  have d3 := dR.2.1 3 _ rfl
  have d4 := dR.2.1 4 _ rfl
  have d5 := dR.2.1 5 _ rfl
  have d6 := dR.2.1 6 _ rfl
  have d7 := dR.2.1 7 _ rfl
  have d8 := dR.2.1 8 _ rfl
  clear dR
  go_wp2_with fail
  refine (eqLdC p9 p3 ta tb tc ra rb rc c9 c3 LL E H T S Ve (by have := HLE.out; omega) (Rd.of_own Pe.out) (Rd.of_own Oe.out)).mono ?_
  rintro e wf ⟨rfl, bf⟩
  have Mf := Lib.hid (bthenS Me.out bf); have Uf := Lib.hid (Ue.out.next bf); have Rf := Lib.hid (Re.out.below bf)
  clear bf Me Te Oe Ue Re Pe Xe a0 a1 a2 a3 a4 a5 a6 a7 a8 d0 d1 d2 d3 d4 d5 d6 d7 d8
  have dR := Uf.out
  have d0 := dR.2.1 0 _ rfl
  have d1 := dR.2.1 1 _ rfl
  have d2 := dR.2.1 2 _ rfl
  have d3 := dR.2.1 3 _ rfl
  have d4 := dR.2.1 4 _ rfl
  have d5 := dR.2.1 5 _ rfl
  have d6 := dR.2.1 6 _ rfl
  have d7 := dR.2.1 7 _ rfl
  have d8 := dR.2.1 8 _ rfl
  clear dR
  go_wp2_with fail
  refine (CH.out _ Rf.out).mono ?_
  rintro e wg ⟨rfl, bg⟩
  have Mg := Lib.hid (bthenS Mf.out bg)
  clear bg Mf Uf Rf d0 d1 d2 d3 d4 d5 d6 d7 d8
  go_wp2
  go_ret
  exact ⟨rfl, bthenS L0.out Mg.out⟩

theorem door_met (os : Os) (args : Array Value) : laidMetH Tryd.prog Rows.fnExactMapImageRow.laid ((World.doorLaid Tryd.prog 400 os).forCall (fun _ _ => 0) ⟨#[], args, []⟩).memory :=
  laidMetH_of_parts3 (fuel := 8) (laidMet_of_run' 8 (by kernel_rfl) (by kernel_rfl)) (by kernel_rfl) (by kernel_rfl)
/-! ### THE ROW's STEP -/
set_option maxRecDepth 100000 in
theorem lifted (os : Os) (started : os.Started) (H : Type) (enc : TypeId × Value → H) :
    ReturnsInHanded {} Tryd.checked os 4 .any (fun w args => (Rows.fnExactMapImageSpec.pre enc Tryd.prog Tryd.f4 [] false w args ∧ laidMetH Tryd.prog Rows.fnExactMapImageRow.laid w) ∧ sizedMet enc Tryd.prog Tryd.f4 (OpenSpec.ofChange Rows.fnExactMapImageSpec) false w args)
      (Rows.fnExactMapImageSpec.post enc Tryd.prog Tryd.f4 false true false false) := by
  refine returnsInHanded_of_change_and (C := Tryd.checked) (X := fun w _ => laidMetH Tryd.prog Rows.fnExactMapImageRow.laid w) (fun _ _ _ hh h => h.of_heap hh) own started (by kernel_rfl) Tryd.func4
    (ChangeSpec.witness_shaped (enc := enc) (C := Tryd.checked) (os := os) (X := fun w _ => laidMetH Tryd.prog Rows.fnExactMapImageRow.laid w) false (World.doorLaid Tryd.prog 400 os) #[.agg #[.int .i64 0, .slice none 0 0]] 8 rfl (World.shaped_of_RefB (by kernel_rfl) (by kernel_rfl)) (by kernel_rfl) (by kernel_rfl) (by kernel_rfl) (door_met os _)) ?_
  intro W base args ds gs before hval0 hW _ _ hL _
  have hval : ∀ (j : Nat) t v, Tryd.f4.params[j]? = some t → args[j]? = some v → Value.okWide Tryd.prog W .any base t v := hval0
  have hW' := hW
  obtain ⟨p, q, hA0, hV, rfl, hfz, hnd⟩ := hW
  have hA : DataW.TrodAll enc Tryd.prog W 0 (fun _ => true) true Tryd.f4.params.toList args.toList ds p := hA0
  rw [Tryd.params4] at hA hval
  obtain ⟨v0, vs0, d0, ds0, p0, s0, hargs, rfl, rfl, h0, t0⟩ := trodAll_cons hA
  obtain ⟨rfl, rfl, rfl⟩ := trodAll_nil t0
  obtain rfl : args = #[v0] := by cases args; simp_all
  obtain ⟨rfl, rfl⟩ := trodVars_none hV
  have k0 := h0
  have lt0 : ∀ x ∈ p0, x.block < W.heap.size := by obtain ⟨m, hm⟩ := k0; exact DataW.trod_lt m _ _ _ hm
  obtain ⟨n0, q0, l0, c0, rfl, r0, f0, wn0, y0⟩ := open_img Tryd.underlying32 (by kernel_rfl) (by kernel_rfl) Tryd.underlying3 Tryd.underlying30 Tryd.underlying88 (by kernel_rfl) (by kernel_rfl) Tryd.underlying3 Tryd.underlying3 Tryd.underlying3 Tryd.underlying9 (hval 0 32 v0 rfl rfl) h0
  clear hA0 hval0
  refine (walk n0 q0 c0 l0 W r0 f0 wn0 y0 hL).mono fun e W' ⟨he, hg⟩ => ?_
  subst he
  exact ⟨_, rfl, _, _, _, [], _, _, hW', trodAll_mk1 (shut_bool Tryd.underlying4 _), (trodAll_cons_mk (Below.trod laidOut (by kernel_rfl) (of_decide_eq_true (by kernel_rfl)) k0 hg lt0) trodAll_mk0), Below.trodVars laidOut hg (by kernel_rfl) hV, hg.frame _, fun h => by cases h⟩

theorem over : Rows.fnExactMapImageRow.holds Tryd.pinned (OpenSpec.ofChange Rows.fnExactMapImageSpec) :=
  OpenClaim.holds_of_wide 4 Tryd.f4 rfl rfl rfl rfl rfl rfl rfl ⟨rfl, rfl, rfl, rfl, rfl⟩ rfl rfl rfl rfl rfl (by kernel_rfl) Tryd.func4 (by kernel_rfl)
    (of_decide_eq_true (by kernel_rfl)) (by unfold Func.isWrapper; first | (rw [if_pos (by decide +kernel)]; kernel_rfl) | (rw [if_neg (by decide +kernel)]; exact ⟨rfl, rfl⟩))
    (fun os started H enc _ => lifted os started H enc)

theorem plain (f : FuncId) (fn : Func) (hf : Tryd.pinned.checked.prog.funcNamed "loop.example/g00664/laws.FnExactMapImage" = some f) (hfn : Tryd.pinned.checked.prog.funcs[f]? = some fn) :
    true = Tryd.pinned.checked.prog.looks [] ∧ ∀ (j : Nat) t, fn.params[j]? = some t → Tryd.pinned.checked.prog.wantsStandIn t = false := by
  obtain rfl : f = 4 := Option.some.inj ((show Tryd.prog.funcNamed "loop.example/g00664/laws.FnExactMapImage" = some 4 by kernel_rfl).symm.trans hf) |>.symm
  obtain rfl : fn = Tryd.f4 := (Option.some.inj (Tryd.func4.symm.trans hfn)).symm
  refine ⟨by kernel_rfl, fun j t ht => ?_⟩
  rw [Tryd.params4] at ht
  have hm := Array.mem_of_getElem? ht
  simp only [List.mem_toArray, List.mem_cons, List.not_mem_nil, or_false] at hm
  rcases hm with rfl
  · exact (show Tryd.prog.wantsStandIn 32 = false by kernel_rfl)
/-- THE CARD -/
theorem card : Rows.FnExactMapImageCardSaid :=
  Claim7.holds_tied_plain_at .later [] _ _ _ _ over (fun _ h => by cases h) (by kernel_rfl) (fun _ h => by cases h) fnExactMapImage_row_tie rfl ⟨rfl, rfl⟩ (by kernel_rfl) rfl plain (by kernel_rfl)
#print axioms card
end Go.Proofs.YtcchcinnjahghaaDoor.fnExactMapImage
