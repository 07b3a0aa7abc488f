/-
  Proved: for every box (a processor, pages, numbers and texts), laws.FnExactBoxOK returns true (impl.BoxOK answers as spec.BoxOK, and leaves its argument as it was), with no condition.
-/
import Derived.Test.YtcnmklgcifdmoaaRows
import Derived.WalkKit
import Derived.ProofKit
import Derived.OpenShut
import Derived.ShutString
import Derived.Test.YtcnmklgcifdmoaaWalkBoxO2
import Derived.Deep.RegionHeld3
import Derived.ChangeOld
import Derived.Below
import Derived.Test.YtcnmklgcifdmoaaOpenBox
namespace Go.Proofs.Ytcnmklgcifdmoaa.fnExactBoxOK
open Go.ChangeShapes Go.WideShapes Go.ChangeAt Go.RowKit
open Go.ChangeMaps (open_string shut_string)
set_option linter.unusedVariables false

theorem own : ownKnob Try.prog.godebug = none := by kernel_rfl
theorem laidOut : laidOutB Try.prog = true := by kernel_rfl

theorem loadLB {W : World} {b : Nat} {V : Array Value} (h : W.heap[b]? = some (.cells V 52 (0, 0))) (hV : V.size = 30) : (Instr.loadAt 52 (.pointer (some ⟨b, 0, none⟩))).run Try.prog W = .ok (.agg V) W := by
  simp only [Instr.loadAt, Instr.sureAddr, Sem.run_bind, Sem.run_pure, Result.andThen_ok]
  exact run_loadVar_row W b 52 52 V (0, 0) _ h Try.underlying52 rfl (by rw [hV]; kernel_rfl)
theorem loadIB {W : World} {b : Nat} {V : Array Value} (h : W.heap[b]? = some (.cells V 38 (0, 0))) (hV : V.size = 30) : (Instr.loadAt 38 (.pointer (some ⟨b, 0, none⟩))).run Try.prog W = .ok (.agg V) W := by
  simp only [Instr.loadAt, Instr.sureAddr, Sem.run_bind, Sem.run_pure, Result.andThen_ok]
  exact run_loadVar_row W b 38 38 V (0, 0) _ h Try.underlying38 rfl (by rw [hV]; kernel_rfl)
attribute [-go_sem] Instr.loadAt in
set_option maxRecDepth 100000 in
set_option maxHeartbeats 4000000 in
theorem both (b0 : Bo) (q0 : Option Addr) (c0 : Nat) (l0 : List Pg) (w : World) (bw0 : BoW b0) (r0 : Rd w q0 l0) (f0 : Fits l0) :
    Calls Try.prog 4 #[.agg (boV b0 (.slice q0 l0.length c0))] w fun e w' => e = .returned (.bool true) ∧ Below w.heap.size w w' := by
  obtain ⟨v, hv, hI, hS⟩ := cpuI b0.c bw0.c
  obtain ⟨V, hV⟩ : ∃ V, V = boV b0 (.slice q0 l0.length c0) := ⟨_, rfl⟩
  have HV := Lib.hid hV
  have sz : V.size = 30 := by rw [hV]; rfl
  obtain ⟨W, hW⟩ : ∃ W, W = w.alloc (.cells V 52) := ⟨_, rfl⟩
  have L0 : Hid (Below w.heap.size w W) := Lib.hid (by rw [hW]; exact below1 w _)
  have A0 : Hid (W.heap[w.heap.size]? = some (.cells V 52 (0, 0))) := Lib.hid (by rw [hW]; exact heap_alloc_new w _)
  have RR := Lib.hid (r0.below L0.out)
  have HW := Lib.hid hW; have HF := Lib.hid f0; have HB := Lib.hid bw0; have HI := Lib.hid hI; have HS := Lib.hid hS; have Hv := Lib.hid hv; have SZ := Lib.hid sz
  have I30 := Lib.hid (show (Try.prog.info? 52).map (·.size) = some 30 by kernel_rfl)
  have J30 := Lib.hid (show (Try.prog.info? 38).map (·.size) = some 30 by kernel_rfl)
  clear hI hS hv sz r0 f0 bw0 hW
  rw [← hV]
  clear hV
  go_enter Try.func4, Try.ntmps4
  go_wp2_with (refine wpList_load_row rfl 52 (.tmp 1) rfl w.heap.size rfl 52 V (0, 0) _ (HW.out ▸ A0.out) Try.underlying52 rfl (by rw [SZ.out]; exact I30.out) ?_)
  rw [← HW.out, HV.out]
  refine (szBoxC b0 q0 c0 l0 1048576 W RR.out HF.out HB.out.inp HB.out.out_ (by omega) (by omega)).mono ?_
  rintro e w1 ⟨r, rfl, HQ, b1⟩
  have L1 := Lib.hid (bthen L0.out b1); have A1 := Lib.hid ((b1.block _ (lt_of_blk' A0.out)).trans A0.out); have R1 := Lib.hid (RR.out.below b1)
  clear b1 L0 A0 RR
  by_cases hneg : r < 0
  · go_wp2
    go_ret
    exact ⟨rfl, L1.out⟩
  have hd : decide (r < 0) = false := decide_eq_false hneg
  have HSm := Lib.hid (HQ.out.2.2 (by omega))
  clear hneg
  go_wp2_with (refine wpList_load_row rfl 52 (.tmp 1) rfl w.heap.size rfl 52 V (0, 0) _ A1.out Try.underlying52 rfl (by rw [SZ.out]; exact I30.out) ?_)
  rw [HV.out]
  refine (toBoxC b0 q0 c0 l0 w1 R1.out HSm.out.1).mono ?_
  rintro e w2 ⟨g2, rfl, o2, b2⟩
  have L2 := Lib.hid (bthen L1.out b2); have A2 := Lib.hid ((b2.block _ (lt_of_blk' A1.out)).trans A1.out); have R2 := Lib.hid (R1.out.below b2); have O2 := Lib.hid (Rd.of_own o2)
  clear b2 o2 L1 A1 R1
  go_wp2_with fail
  refine (boxS b0 _ _ l0 v w2 Hv.out HS.out HF.out O2.out).mono ?_
  rintro e w3 ⟨⟨r3, rfl, HR3⟩, b3⟩
  have L3 := Lib.hid (bthen L2.out b3); have A3 := Lib.hid ((b3.block _ (lt_of_blk' A2.out)).trans A2.out); have R3 := Lib.hid (R2.out.below b3)
  clear b3 L2 A2 R2 O2
  go_wp2_with (refine wpList_load_row rfl 52 (.tmp 1) rfl w.heap.size rfl 52 V (0, 0) _ A3.out Try.underlying52 rfl (by rw [SZ.out]; exact I30.out) ?_)
  rw [HV.out]
  refine (toBoxC b0 q0 c0 l0 w3 R3.out HSm.out.1).mono ?_
  rintro e w4 ⟨g4, rfl, o4, b4⟩
  obtain ⟨X, hX⟩ : ∃ X, X = boV b0 (.slice (some ⟨g4, 0, none⟩) l0.length l0.length) := ⟨_, rfl⟩
  have sx : X.size = 30 := by rw [hX]; rfl
  have SX := Lib.hid sx; have HX := Lib.hid hX
  have OX : Hid (X.all (·.oneCell') = true) := Lib.hid (by rw [hX]; exact boV_one b0 _ _ _)
  have L4 := Lib.hid (bthen L3.out b4); have A4 := Lib.hid ((b4.block _ (lt_of_blk' A3.out)).trans A3.out); have R4 := Lib.hid (R3.out.below b4); have O4 := Lib.hid (Rd.of_own o4)
  have hz4 := Lib.hid (Nat.lt_of_lt_of_le (lt_of_blk' A3.out) b4.size)
  rw [← hX]
  clear b4 o4 L3 A3 R3 hX sx
  go_upto_region 7 with (first | (refine wpList_store_row rfl 38 (.tmp 5) (.tmp 16) rfl w4.heap.size X rfl rfl 38 _ (heap_alloc_new w4 _) (by rw [SX.out]; exact J30.out) (by rw [SX.out]; rfl) OX.out ?_; generalize hU : (w4.alloc (.cells #[.int .i64 0, .int .i64 0, .int .i64 0, .int .i64 0, .int .i64 0, .int .i64 0, .int .i64 0, .int .i64 0, .int .i64 0, .int .i64 0, .int .i64 0, .int .i64 0, .int .i64 0, .int .i64 0, .int .i64 0, .int .i64 0, .int .i64 0, .int .i64 0, .slice none 0 0, .int .i64 0, .int .i64 0, .string ⟨#[]⟩, .int .i64 0, .string ⟨#[]⟩, .int .i64 0, .int .i64 0, .int .i64 0, .int .i64 0, .int .i64 0, .int .i64 0] 38)).setRow w4.heap.size X = U))
  have bU : Below w4.heap.size w4 U := by rw [← hU]; exact Go.below_setRow (below1 w4 _) (Nat.le_refl _) X
  have X5 : Hid (U.heap[w4.heap.size]? = some (.cells X 38 (0, 0))) := Lib.hid (by rw [← hU]; exact setRow_heap _ _ _ X _ _ (heap_alloc_new w4 _))
  have L5 := Lib.hid (bthen L4.out bU); have A5 := Lib.hid ((bU.block _ (lt_of_blk' A4.out)).trans A4.out); have R5 := Lib.hid (R4.out.below bU); have O5 := Lib.hid (O4.out.below bU)
  have CI := Lib.hid (HX.out ▸ boxI b0 (some ⟨g4, 0, none⟩) l0.length l0 v U Hv.out HI.out (Ad.own g4) HSm.out.1 O5.out)
  clear hU bU L4 A4 R4 O4
  go_wp2_with (refine wpList_load_row rfl 38 (.tmp 5) rfl w4.heap.size rfl 38 X (0, 0) _ X5.out Try.underlying38 rfl (by rw [SX.out]; exact J30.out) ?_)
  refine (CI.out).mono ?_
  rintro e w6 ⟨⟨r6, rfl, HR6⟩, b6⟩
  have er : r6 = r3 := by
    have h1 := HR6.out.trans HR3.out.symm
    cases r6 <;> cases r3 <;> simp_all
  subst er
  have b6' : Below U.heap.size U w6.drew := bthen b6 (below_drew1 w6)
  have L6 := Lib.hid (bthen L5.out b6'); have A6 := Lib.hid ((b6'.block _ (lt_of_blk' A5.out)).trans A5.out); have R6 := Lib.hid (R5.out.below b6'); have O6 := Lib.hid (O5.out.below b6'); have X6 := Lib.hid ((b6'.block _ (lt_of_blk' X5.out)).trans X5.out)
  clear b6 b6' L5 A5 R5 O5 X5 CI
  have hla := loadLB A6.out SZ.out
  have hlx := loadIB X6.out SX.out
  have C6 := Lib.hid (HV.out ▸ toBoxC b0 q0 c0 l0 w6.drew R6.out HSm.out.1)
  have hm := mixed
  go_wp2_with fail
  go_region_with (first | (go_at_call 18; refine (C6.out).mono ?_; rintro e w7 ⟨g7, rfl, o7, b7⟩; have O7 := Lib.hid (Rd.of_own o7); have L7 := Lib.hid (bthen L6.out b7); have Q7 := Lib.hid (O6.out.below b7); have hlx7 := loadIB ((b7.block _ (lt_of_blk' X6.out)).trans X6.out) SX.out; clear o7 b7) | (go_at_call 11; refine Calls.mono (HX.out ▸ eqBoxC b0 _ _ _ _ l0 _ HF.out.1 Q7.out O7.out) ?_; rintro e w8 ⟨rfl, b8⟩))
  all_goals go_wp2
  all_goals go_ret
  all_goals exact ⟨rfl, bthen L7.out b8⟩
set_option maxHeartbeats 1000000 in
set_option maxRecDepth 100000 in
theorem walk (b0 : Bo) (q0 : Option Addr) (c0 : Nat) (l0 : List Pg) (w : World) (bw0 : BoW b0) (r0 : Rd w q0 l0) (f0 : Fits l0) :
    Calls Try.prog 4 #[.agg (boV b0 (.slice q0 l0.length c0))] w fun e w' => e = .returned (.bool true) ∧ Below w.heap.size w w' := by
  exact both b0 q0 c0 l0 w bw0 r0 f0

/-! ### THE ROW's STEP -/
set_option maxRecDepth 100000 in
theorem lifted (os : Os) (started : os.Started) (H : Type) (enc : TypeId × Value → H) :
    ReturnsInHanded {} Try.checked os 4 .any (Rows.fnExactBoxOKSpec.pre6 enc Try.prog Try.f4 Rows.fnExactBoxOKRow.domain false) (Rows.fnExactBoxOKSpec.post enc Try.prog Try.f4 false true false false) := by
  refine returnsInHanded_of_change (C := Try.checked) own started (by kernel_rfl) Try.func4
    (ChangeSpec.witness6 (enc := enc) (C := Try.checked) false ⟨#[], #[.agg #[.int .i64 0, .int .i64 0, .int .i64 0, .int .i64 0, .int .i64 0, .int .i64 0, .int .i64 0, .int .i64 0, .int .i64 0, .int .i64 0, .int .i64 0, .int .i64 0, .int .i64 0, .int .i64 0, .int .i64 0, .int .i64 0, .int .i64 0, .int .i64 0, .slice none 0 0, .int .i64 0, .int .i64 0, .string ByteArray.empty, .int .i64 0, .string ByteArray.empty, .int .i64 0, .int .i64 0, .int .i64 0, .int .i64 0, .int .i64 0, .int .i64 0]], []⟩ 8 (by kernel_rfl) (by kernel_rfl) (by kernel_rfl) (by kernel_rfl)) ?_
  intro W base args ds gs before hval0 hW hcnd _
  have hval : ∀ (j : Nat) t v, Try.f4.params[j]? = some t → args[j]? = some v → Value.okWide Try.prog W .any base t v := hval0
  have hW' := hW
  obtain ⟨p, q, hA0, hV, rfl, hfz, hnd⟩ := hW
  have hA : DataW.TrodAll enc Try.prog W 0 (fun _ => true) true Try.f4.params.toList args.toList ds p := hA0
  rw [Try.params4] at hA hval
  obtain ⟨v0, vs0, d0, ds0, p0, s0, hargs, rfl, rfl, h0, t0⟩ := trodAll_cons hA
  obtain ⟨rfl, rfl, rfl⟩ := trodAll_nil t0
  obtain rfl : args = #[v0] := by cases args; simp_all
  obtain ⟨rfl, rfl⟩ := trodVars_none hV
  have k0 := h0
  have lt0 : ∀ x ∈ p0, x.block < W.heap.size := by obtain ⟨m, hm⟩ := k0; exact DataW.trod_lt m _ _ _ hm
  obtain ⟨b0, q0, l0, c0, rfl, bw0, r0, f0⟩ := open_box Try.underlying52 (by kernel_rfl) rfl (by kernel_rfl) Try.underlying50 Try.underlying31 (by kernel_rfl) (by kernel_rfl) Try.underlying3 rfl (by kernel_rfl) Try.underlying3 Try.underlying3 Try.underlying24 (by kernel_rfl) Try.underlying22 Try.underlying103 (by kernel_rfl) (by kernel_rfl) Try.underlying3 Try.underlying3 Try.underlying9 (by kernel_rfl) (hval 0 52 v0 rfl rfl) h0
  clear hA0 hval0
  refine (walk b0 q0 c0 l0 W bw0 r0 f0).mono fun e W' ⟨he, bel⟩ => ?_
  subst he
  exact ⟨_, rfl, _, _, _, [], _, [], hW', trodAll_mk1 (shut_bool Try.underlying4 _), (trodAll_cons_mk (Below.trod laidOut (by kernel_rfl) (of_decide_eq_true (by kernel_rfl)) k0 bel lt0) trodAll_mk0), rfl, bel.frame _, fun h => by cases h⟩

theorem over : Rows.fnExactBoxOKRow.holds Try.pinned (OpenSpec.ofChange Rows.fnExactBoxOKSpec) :=
  OpenClaim.holds_of_wide 4 Try.f4 rfl rfl rfl rfl rfl rfl rfl ⟨rfl, rfl, rfl, rfl, rfl⟩ rfl rfl rfl rfl rfl (by kernel_rfl) Try.func4 (by kernel_rfl)
    (of_decide_eq_true (by kernel_rfl)) (by unfold Func.isWrapper; first | (rw [if_pos (by decide +kernel)]; kernel_rfl) | (rw [if_neg (by decide +kernel)]; exact ⟨rfl, rfl⟩))
    (fun os started H enc _ => lifted os started H enc)

/-- ████ THE STATEMENT ████ -/
theorem proved : Rows.FnExactBoxOKSaid := over
#print axioms proved
end Go.Proofs.Ytcnmklgcifdmoaa.fnExactBoxOK
