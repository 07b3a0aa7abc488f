/-
  Proved: for every memory (a list of pages) and all other arguments, laws.FnExactAddPage returns true (impl.AddPage answers as spec.AddPage, leaves its argument as it was, and its answer owns its memory), with no condition.
-/
import Derived.Test.YtdfmchknpiodkabRows
import Derived.WalkKit
import Derived.ProofKit
import Derived.OpenShut
import Derived.ShutString
import Derived.Test.YtdfmchknpiodkabWalkAddL
import Derived.Test.YtdfmchknpiodkabLawWrite
import Derived.ChangeOld
import Derived.Below
import Derived.Test.YtdfmchknpiodkabOpenMem
namespace Go.Proofs.Ytdfmchknpiodkab.fnExactAddPage
open Go.ChangeShapes Go.WideShapes Go.ChangeAt Go.RowKit
open Go.ChangeMaps (open_string shut_string)
set_option linter.unusedVariables false

theorem own : ownKnob Try.prog.godebug = none := by kernel_rfl
theorem laidOut : laidOutB Try.prog = true := by kernel_rfl

set_option maxHeartbeats 1000000 in
set_option maxRecDepth 100000 in
theorem walk (q0 : Option Addr) (c0 : Nat) (l0 : List Pg) (a1 : Int) (a2 : Int) (w : World) (r0 : Rd w q0 l0) (f0 : Fits l0) (w1 : (Lit.int .i64 a1).wf = true) (w2 : (Lit.int .i64 a2).wf = true) :
    Calls Try.prog 3 #[.agg #[.slice q0 l0.length c0], .int .i64 a1, .int .i64 a2] w fun e w' => e = .returned (.bool true) ∧ Below w.heap.size w w' := by
  obtain ⟨ha1, ha2⟩ := bounds_i64 w1
  clear w1 w2
  obtain ⟨W, hW⟩ : ∃ W, W = w.alloc (.cells #[.slice q0 l0.length c0] 24) := ⟨_, rfl⟩
  have L0 : Hid (Below w.heap.size w W) := Lib.hid (by rw [hW]; exact below1 w _)
  have A0 : Hid (Bx W w.heap.size q0 c0 l0) := Lib.hid (by rw [hW]; exact Bx.new _ r0)
  have Q0 := Lib.hid (rd_blk r0)
  have hm := mixed
  have hWs : w.heap.size < W.heap.size := A0.out.1
  have HW := Lib.hid hW; have HF := Lib.hid f0
  clear r0 f0 hW
  go_enter Try.func3, Try.ntmps3
  go_wp2_with fail
  rw [← HW.out]
  refine (szMemoryC q0 c0 l0 1048576 W A0.out.2.2 HF.out (by omega) (by omega)).mono ?_
  rintro e w1 ⟨r, rfl, HQ, b1⟩
  have L1 := Lib.hid (bthen L0.out b1); have A1 := Lib.hid (A0.out.next b1)
  have x1 := A1.out.2.1
  have s1 := b1.size
  clear b1 L0 A0
  by_cases hneg : r < 0
  · go_wp2
    go_ret
    exact ⟨rfl, L1.out⟩
  have hd : decide (r < 0) = false := decide_eq_false hneg
  have HS := Lib.hid (sz_small HQ.out hneg)
  clear hneg
  go_wp2_with fail
  refine (toMemoryC q0 c0 l0 w1 A1.out.2.2 HS.out).mono ?_
  rintro e w2 ⟨g2, hg2, rfl, o2, b2⟩
  have L2 := Lib.hid (bthen L1.out b2); have A2 := Lib.hid (A1.out.next b2); have O2 := Lib.hid o2
  have x2 := A2.out.2.1
  have s2 := b2.size
  clear b2 o2 x1 L1 A1 hg2
  go_wp2_with fail
  refine (addS g2 0 l0.length l0 a1 a2 w2 HS.out (Rd.of_own O2.out) ha1 ha2).mono ?_
  rintro e w3 ⟨l3, p3, cap3, k3, rfl, HO3, OW3, b3⟩
  have s3 := b3.size
  obtain ⟨V3, hV3⟩ : ∃ V, V = w3.alloc (.cells #[.slice p3 l3.length cap3] 28) := ⟨_, rfl⟩
  have sv3 : V3.heap.size = w3.heap.size + 1 := by rw [hV3]; simp
  have L3 : Hid (Below w.heap.size w V3) := Lib.hid (by rw [hV3]; exact bbox (bthen L2.out b3) _)
  have A3 : Hid (Bx V3 w.heap.size q0 c0 l0) := Lib.hid (by rw [hV3]; exact (A2.out.next b3).next (below1 _ _))
  have Y3 : Hid (Bx V3 w3.heap.size p3 cap3 l3) := Lib.hid (by rw [hV3]; exact newBx _ OW3.out)
  have P3 := Lib.hid (owns_blk OW3.out)
  have SM := Lib.hid (AddOut.small HO3.out HS.out)
  have x3 := (A2.out.next b3).2.1
  have h03 : w.heap.size < w3.heap.size := (A2.out.next b3).1
  have HV3 := Lib.hid hV3; have SV3 := Lib.hid sv3
  clear b3 x2 L2 A2 O2 hV3 OW3 sv3
  go_wp2_with fail
  rw [← HV3.out]
  refine (toMemoryC q0 c0 l0 V3 A3.out.2.2 HS.out).mono ?_
  rintro e w4 ⟨g4, hg4, rfl, o4, b4⟩
  have s4 := b4.size
  obtain ⟨V4, hV4⟩ : ∃ V, V = w4.alloc (.cells #[.slice (some ⟨g4, 0, none⟩) l0.length l0.length] 28) := ⟨_, rfl⟩
  have sv4 : V4.heap.size = w4.heap.size + 1 := by rw [hV4]; simp
  have o4' : Owns w4 V3.heap.size (some ⟨g4, 0, none⟩) l0.length l0 := o4
  have L4 : Hid (Below w.heap.size w V4) := Lib.hid (by rw [hV4]; exact bbox (bthen L3.out b4) _)
  have A4 : Hid (Bx V4 w.heap.size q0 c0 l0) := Lib.hid (by rw [hV4]; exact (A3.out.next b4).next (below1 _ _))
  have Y4 : Hid (Bx V4 w3.heap.size p3 cap3 l3) := Lib.hid (by rw [hV4]; exact (Y3.out.next b4).next (below1 _ _))
  have X4 : Hid (Bx V4 w4.heap.size (some ⟨g4, 0, none⟩) l0.length l0) := Lib.hid (by rw [hV4]; exact newBx _ o4')
  have M4 : Hid (Owns V4 V3.heap.size (some ⟨g4, 0, none⟩) l0.length l0) := Lib.hid (by rw [hV4]; exact o4'.below (below1 _ _))
  have hg4b : g4 < w4.heap.size := (o4.lt g4 rfl).2
  have x4 := (A3.out.next b4).2.1
  have HV4 := Lib.hid hV4; have SV4 := Lib.hid sv4
  clear b4 o4 o4' x3 L3 A3 Y3 hV4 sv4
  go_wp2_with fail
  rw [← HV4.out]
  refine (addI _ _ l0 a1 a2 V4 (Ad.own g4) HS.out X4.out.2.2).mono ?_
  rintro e w5 ⟨l5, p5, cap5, k5, rfl, HO5, OW5, b5⟩
  obtain ⟨e5, e5'⟩ := AddOut.one HO3.out HO5.out
  subst e5 e5'
  have s5 := b5.size
  obtain ⟨V5, hV5⟩ : ∃ V, V = w5.alloc (.cells #[.slice p5 l3.length cap5] 28) := ⟨_, rfl⟩
  have sv5 : V5.heap.size = w5.heap.size + 1 := by rw [hV5]; simp
  have L5 : Hid (Below w.heap.size w V5) := Lib.hid (by rw [hV5]; exact bbox (bthen L4.out b5) _)
  have A5 : Hid (Bx V5 w.heap.size q0 c0 l0) := Lib.hid (by rw [hV5]; exact (A4.out.next b5).next (below1 _ _))
  have Y5 : Hid (Bx V5 w3.heap.size p3 cap3 l3) := Lib.hid (by rw [hV5]; exact (Y4.out.next b5).next (below1 _ _))
  have X5 : Hid (Bx V5 w4.heap.size (some ⟨g4, 0, none⟩) l0.length l0) := Lib.hid (by rw [hV5]; exact (X4.out.next b5).next (below1 _ _))
  have M5 : Hid (Owns V5 V3.heap.size (some ⟨g4, 0, none⟩) l0.length l0) := Lib.hid (by rw [hV5]; exact (M4.out.below b5).below (below1 _ _))
  have G5 : Hid (Bx V5 w5.heap.size p5 cap5 l3) := Lib.hid (by rw [hV5]; exact newBx _ OW5.out)
  have N5 : Hid (Owns V5 V4.heap.size p5 cap5 l3) := Lib.hid (by rw [hV5]; exact OW5.out.below (below1 _ _))
  have P5 := Lib.hid (owns_blk OW5.out)
  have R5 : Hid (∀ k, (Value.slice p5 l3.length cap5).ownBlock = some k → V4.heap.size ≤ k ∧ k < w5.heap.size) := Lib.hid (fun k e => own_row OW5.out e)
  have y5 := (Y4.out.next b5).2.1
  have h35 : w3.heap.size < w5.heap.size := (Y4.out.next b5).1
  have HV5 := Lib.hid hV5; have SV5 := Lib.hid sv5
  clear b5 x4 L4 A4 Y4 X4 M4 hV5 OW5 HO5 sv5
  have SMF := Lib.hid SM.out.fits
  go_wp2_with fail
  rw [← HV5.out]
  refine (eqMemoryC _ _ _ _ l3 V5 SMF.out.1 G5.out.2.2 Y5.out.2.2).mono ?_
  rintro e w6 ⟨rfl, b6⟩
  have L6 := Lib.hid (bthen L5.out b6); have A6 := Lib.hid (A5.out.next b6); have Y6 := Lib.hid (Y5.out.next b6); have X6 := Lib.hid (X5.out.next b6); have M6 := Lib.hid (M5.out.below b6); have G6 := Lib.hid (G5.out.next b6); have N6 := Lib.hid (N5.out.below b6)
  have s6 := b6.size
  clear b6 y5 L5 A5 Y5 X5 M5 G5 N5
  have L7 := Lib.hid (bthen L6.out (below_drew1 w6)); have A7 := Lib.hid (A6.out.next (below_drew1 w6)); have Y7 := Lib.hid (Y6.out.next (below_drew1 w6)); have X7 := Lib.hid (X6.out.next (below_drew1 w6)); have M7 := Lib.hid (M6.out.below (below_drew1 w6)); have G7 := Lib.hid (G6.out.next (below_drew1 w6)); have N7 := Lib.hid (N6.out.below (below_drew1 w6))
  have C7 := Lib.hid (toMemoryC q0 c0 l0 w6.drew A7.out.2.2 HS.out)
  have x6 := A6.out.2.1; have u6 := X6.out.2.1
  go_wp2_with fail
  go_region_held3 (fun w' => w'.cell? ⟨w.heap.size, 0, none⟩ = some (.slice q0 l0.length c0) ∧ w'.cell? ⟨w4.heap.size, 0, none⟩ = some (.slice (some ⟨g4, 0, none⟩) l0.length l0.length)) (first | (with_reducible exact ⟨x6, u6⟩) | (with_reducible exact keepC x6 u6) | (with_reducible exact ⟨x7, u7⟩) | (with_reducible exact ⟨x8, u8⟩) | go_keep) (first | (go_at_call 6; (with_reducible refine Calls.mono (C7.out) ?_); rintro e w7 ⟨g7, hg7, rfl, o7, b7⟩; have L8 := Lib.hid (bthen L7.out b7); have A8 := Lib.hid (A7.out.next b7); have Y8 := Lib.hid (Y7.out.next b7); have X8 := Lib.hid (X7.out.next b7); have M8 := Lib.hid (M7.out.below b7); have G8 := Lib.hid (G7.out.next b7); have N8 := Lib.hid (N7.out.below b7); have x7 := A8.out.2.1; have u7 := X8.out.2.1; have C8 := Lib.hid (eqMemoryC _ _ l0.length l0.length l0 w7 HF.out.1 X8.out.2.2 (Rd.of_own o7)); clear o7 b7 hg7) | (go_at_call 8; (with_reducible refine Calls.mono (C8.out) ?_); rintro e w8 ⟨rfl, b8⟩; have L9 := Lib.hid (bthen L8.out b8); have A9 := Lib.hid (A8.out.next b8); have Y9 := Lib.hid (Y8.out.next b8); have X9 := Lib.hid (X8.out.next b8); have M9 := Lib.hid (M8.out.below b8); have G9 := Lib.hid (G8.out.next b8); have N9 := Lib.hid (N8.out.below b8); have x8 := A9.out.2.1; have u8 := X9.out.2.1; clear b8))
  clear x6 u6 x7 u7 x8 L6 A6 Y6 X6 M6 G6 N6 L7 A7 Y7 X7 M7 G7 N7 L8 A8 Y8 X8 M8 G8 N8 C7 C8
  go_wp2_with fail
  refine (markAny _ l0.length V3.heap.size l0 w8 HS.out.1 M9.out).mono ?_
  rintro e w9 ⟨rfl, om, gm⟩
  have f1 := SV3.out; have f2 := SV4.out; have f3 := SV5.out
  have hrow : (Value.slice (some ⟨g4, 0, none⟩) l0.length l0.length).ownBlock = some g4 := rfl
  rw [hrow] at gm
  have La := Lib.hid (bgrown L9.out gm (fun k e => by cases e; omega))
  have Aa := Lib.hid (A9.out.grown gm (by simp; omega) (fun b o e hl => by have := Q0.out b o e hl; simp; omega))
  have Ya := Lib.hid (Y9.out.grown gm (by simp; omega) (fun b o e hl => by have := P3.out b o e hl; simp; omega))
  have Ga := Lib.hid (G9.out.grown gm (by simp; omega) (fun b o e hl => by have := P5.out b o e hl; simp; omega))
  have Na := Lib.hid (N9.out.grown gm (by
    by_cases hz : (Value.slice p5 l3.length cap5).ownBlock = none
    · exact .inl hz
    · refine .inr (fun e => ?_)
      have := R5.out g4 e
      omega))
  have ya := Ya.out.2.1; have ga := Ga.out.2.1
  obtain ⟨K, hK⟩ : ∃ K : Nat, K = 1 + 3 * l0.length := ⟨_, rfl⟩
  rw [← hK]
  have hKd : decide ((K : Int) < 0) = false := decide_eq_false (by omega)
  clear om gm u8 L9 A9 Y9 X9 M9 G9 N9 hK hrow f1 f2 f3
  go_wp2_with fail
  refine (eqMemoryC _ _ _ _ l3 w9 SMF.out.1 Ga.out.2.2 Ya.out.2.2).mono ?_
  rintro e wb ⟨rfl, bb⟩
  have Lb := Lib.hid (bthen La.out bb); have Ab := Lib.hid (Aa.out.next bb); have Yb := Lib.hid (Ya.out.next bb); have Gb := Lib.hid (Ga.out.next bb); have Nb := Lib.hid (Na.out.below bb)
  have gb := Gb.out.2.1
  clear bb ya ga La Aa Ya Ga Na
  go_wp2_with fail
  refine (markAny p5 cap5 V4.heap.size l3 wb SM.out.1 Nb.out).mono ?_
  rintro e wc ⟨rfl, om, gm⟩
  have f1 := SV3.out; have f2 := SV4.out; have f3 := SV5.out
  have hrw := R5.out
  have Lc := Lib.hid (bgrown Lb.out gm (fun k e => by have := hrw k e; omega))
  have Ac := Lib.hid (Ab.out.grown gm (fun e => by have := hrw _ e.symm; omega) (fun b o e hl e2 => by have := Q0.out b o e hl; have := hrw _ e2.symm; omega))
  have Yc := Lib.hid (Yb.out.grown gm (fun e => by have := hrw _ e.symm; omega) (fun b o e hl e2 => by have := P3.out b o e hl; have := hrw _ e2.symm; omega))
  have hgc : Hid (wc.cell? ⟨w5.heap.size, 0, none⟩ = some (.slice p5 l3.length cap5) ∧ w5.heap.size < wc.heap.size) := Lib.hid ⟨(World.cell?_of_block (a := ⟨w5.heap.size, 0, none⟩) (gm.block w5.heap.size Gb.out.1 (fun e => by have := hrw _ e.symm; omega))).trans Gb.out.2.1, by have := gm.size; have := Gb.out.1; omega⟩
  have gc := hgc.out.1
  have Mc := Lib.hid (owns_rd om)
  obtain ⟨J, hJ⟩ : ∃ J : Nat, J = 1 + 3 * l3.length := ⟨_, rfl⟩
  have HJ := Lib.hid hJ
  have CH (wz : World) (h : Rd wz p5 (mkd l3 1)) : Calls Try.prog 10 #[.agg #[.slice p5 l3.length cap5], .int .i64 1] wz fun e w' => e = .returned (.int .i64 (J : Int)) ∧ Below wz.heap.size wz w' := by
    rw [hJ]; exact heldMemoryC p5 cap5 l3 wz SM.out.1 h
  rw [← hJ]
  have HCH := Lib.hid CH
  have hJd : decide ((J : Int) < 0) = false := decide_eq_false (by omega)
  clear om gm gb Lb Ab Yb Gb Nb hJ hrw CH f1 f2 f3
  go_wp2_with fail
  refine (HCH.out wc Mc.out).mono ?_
  rintro e wd ⟨rfl, bd⟩
  have Ld := Lib.hid (bthen Lc.out bd); have Ad' := Lib.hid (Ac.out.next bd); have Yd := Lib.hid (Yc.out.next bd); have Md := Lib.hid (Mc.out.below bd)
  have gd : Hid (wd.cell? ⟨w5.heap.size, 0, none⟩ = some (.slice p5 l3.length cap5) ∧ w5.heap.size < wd.heap.size) := Lib.hid ⟨(bd.cell (p := ⟨w5.heap.size, 0, none⟩) hgc.out.2).trans hgc.out.1, by have := bd.size; have := hgc.out.2; omega⟩
  have xd := Ad'.out.2.1
  clear bd gc Lc Ac Yc Mc
  go_wp2_with fail
  refine (toMemoryC q0 c0 l0 wd Ad'.out.2.2 HS.out).mono ?_
  rintro e we ⟨ge, hge, rfl, oe, be⟩
  have Le := Lib.hid (bthen Ld.out be); have Ye := Lib.hid (Yd.out.next be); have Me := Lib.hid (Md.out.below be); have Oe := Lib.hid (Rd.of_own oe)
  have g3 : Hid (we.cell? ⟨w5.heap.size, 0, none⟩ = some (.slice p5 l3.length cap5) ∧ w5.heap.size < we.heap.size) := Lib.hid ⟨(be.cell (p := ⟨w5.heap.size, 0, none⟩) gd.out.2).trans gd.out.1, by have := be.size; have := gd.out.2; omega⟩
  clear be oe hge xd Ld Ad' Yd Md
  go_wp2_with fail
  refine (addI _ l0.length l0 a1 a2 we (Ad.own ge) HS.out Oe.out).mono ?_
  rintro e wf ⟨l6, p6, cap6, k6, rfl, HO6, OW6, bf⟩
  obtain ⟨e6, e6'⟩ := AddOut.one HO3.out HO6.out
  subst e6 e6'
  obtain ⟨V6, hV6⟩ : ∃ V, V = wf.alloc (.cells #[.slice p6 l3.length cap6] 28) := ⟨_, rfl⟩
  have L6 : Hid (Below w.heap.size w V6) := Lib.hid (by rw [hV6]; exact bbox (bthen Le.out bf) _)
  have Y6 : Hid (Bx V6 w3.heap.size p3 cap3 l3) := Lib.hid (by rw [hV6]; exact (Ye.out.next bf).next (below1 _ _))
  have H6 : Hid (Bx V6 wf.heap.size p6 cap6 l3) := Lib.hid (by rw [hV6]; exact newBx _ OW6.out)
  have M6 : Hid (Rd V6 p5 (mkd l3 1)) := Lib.hid (by rw [hV6]; exact (Me.out.below bf).below (below1 _ _))
  have g6 : Hid (V6.cell? ⟨w5.heap.size, 0, none⟩ = some (.slice p5 l3.length cap5) ∧ w5.heap.size < V6.heap.size) := Lib.hid (by
    have hs := bf.size
    have hl := g3.out.2
    rw [hV6]
    exact ⟨(World.cell?_alloc_lt _ _ _ (by simp; omega)).trans ((bf.cell (p := ⟨w5.heap.size, 0, none⟩) hl).trans g3.out.1), by simp; omega⟩)
  have y6 := (Ye.out.next bf).2.1
  have h36 : w3.heap.size < wf.heap.size := (Ye.out.next bf).1
  have HV6 := Lib.hid hV6
  clear bf hV6 OW6 HO6 Le Ye Me
  go_wp2_with fail
  rw [← HV6.out]
  refine (eqMemoryC _ _ _ _ l3 V6 SMF.out.1 H6.out.2.2 Y6.out.2.2).mono ?_
  rintro e wg ⟨rfl, bg⟩
  have Lg := Lib.hid (bthen L6.out bg); have Mg := Lib.hid (M6.out.below bg)
  have zg : wg.cell? ⟨w5.heap.size, 0, none⟩ = some (.slice p5 l3.length cap5) := (bg.cell (p := ⟨w5.heap.size, 0, none⟩) g6.out.2).trans g6.out.1
  clear bg y6 L6 Y6 H6 M6
  go_wp2_with fail
  refine (HCH.out wg Mg.out).mono ?_
  rintro e wh ⟨rfl, bh⟩
  have Lh := Lib.hid (bthen Lg.out bh)
  clear bh zg
  go_wp2
  go_ret
  exact ⟨rfl, Lh.out⟩

/-! ### THE ROW's STEP -/
set_option maxRecDepth 100000 in
theorem lifted (os : Os) (started : os.Started) (H : Type) (enc : TypeId × Value → H) :
    ReturnsInHanded {} Try.checked os 3 .any (Rows.fnExactAddPageSpec.pre6 enc Try.prog Try.f3 Rows.fnExactAddPageRow.domain false) (Rows.fnExactAddPageSpec.post enc Try.prog Try.f3 false true false false) := by
  refine returnsInHanded_of_change (C := Try.checked) own started (by kernel_rfl) Try.func3
    (ChangeSpec.witness6 (enc := enc) (C := Try.checked) false ⟨#[], #[.agg #[.slice none 0 0], .int .i64 0, .int .i64 0], []⟩ 8 (by kernel_rfl) (by kernel_rfl) (by kernel_rfl) (by kernel_rfl)) ?_
  intro W base args ds gs before hval0 hW hcnd _
  have hval : ∀ (j : Nat) t v, Try.f3.params[j]? = some t → args[j]? = some v → Value.okWide Try.prog W .any base t v := hval0
  have hW' := hW
  obtain ⟨p, q, hA0, hV, rfl, hfz, hnd⟩ := hW
  have hA : DataW.TrodAll enc Try.prog W 0 (fun _ => true) true Try.f3.params.toList args.toList ds p := hA0
  rw [Try.params3] at hA hval
  obtain ⟨v0, vs0, d0, ds0, p0, s0, hargs, rfl, rfl, h0, t0⟩ := trodAll_cons hA
  obtain ⟨v1, vs1, d1, ds1, p1, s1, rfl, rfl, rfl, h1, t1⟩ := trodAll_cons t0
  obtain ⟨v2, vs2, d2, ds2, p2, s2, rfl, rfl, rfl, h2, t2⟩ := trodAll_cons t1
  obtain ⟨rfl, rfl, rfl⟩ := trodAll_nil t2
  obtain rfl : args = #[v0, v1, v2] := by cases args; simp_all
  obtain ⟨rfl, rfl⟩ := trodVars_none hV
  have k0 := h0
  have lt0 : ∀ x ∈ p0, x.block < W.heap.size := by obtain ⟨m, hm⟩ := k0; exact DataW.trod_lt m _ _ _ hm
  obtain ⟨q0, l0, c0, rfl, r0, f0⟩ := open_mem Try.underlying24 (by kernel_rfl) (by kernel_rfl) Try.underlying22 Try.underlying59 (by kernel_rfl) (by kernel_rfl) Try.underlying3 Try.underlying3 Try.underlying9 (hval 0 24 v0 rfl rfl) h0
  obtain ⟨a1, rfl, rfl, rfl, w1⟩ := open_int Try.underlying3 (hval 1 3 v1 rfl rfl) h1
  obtain ⟨a2, rfl, rfl, rfl, w2⟩ := open_int Try.underlying3 (hval 2 3 v2 rfl rfl) h2
  clear hA0 hval0
  refine (walk q0 c0 l0 a1 a2 W r0 f0 w1 w2).mono fun e W' ⟨he, bel⟩ => ?_
  subst he
  exact ⟨_, rfl, _, _, _, [], _, [], hW', trodAll_mk1 (shut_bool Try.underlying4 _), (trodAll_cons_mk (Below.trod laidOut (by kernel_rfl) (of_decide_eq_true (by kernel_rfl)) k0 bel lt0) (trodAll_cons_mk (shut_int Try.underlying3 w1) (trodAll_cons_mk (shut_int Try.underlying3 w2) trodAll_mk0))), rfl, bel.frame _, fun h => by cases h⟩

theorem over : Rows.fnExactAddPageRow.holds Try.pinned (OpenSpec.ofChange Rows.fnExactAddPageSpec) :=
  OpenClaim.holds_of_wide 3 Try.f3 rfl rfl rfl rfl rfl rfl rfl ⟨rfl, rfl, rfl, rfl, rfl⟩ rfl rfl rfl rfl rfl (by kernel_rfl) Try.func3 (by kernel_rfl)
    (of_decide_eq_true (by kernel_rfl)) (by unfold Func.isWrapper; first | (rw [if_pos (by decide +kernel)]; kernel_rfl) | (rw [if_neg (by decide +kernel)]; exact ⟨rfl, rfl⟩))
    (fun os started H enc _ => lifted os started H enc)

/-- ████ THE STATEMENT ████ -/
theorem proved : Rows.FnExactAddPageSaid := over
#print axioms proved
end Go.Proofs.Ytdfmchknpiodkab.fnExactAddPage
