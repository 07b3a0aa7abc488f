/-
  Proved: for every two slices of bytes, laws.FnShifts returns true (a shift is its single shifts, as the specification says; turned about as many times as it has bits a number is as it was; to the right and back, and to the left and back, it is as it was); condition: the sentinel of ranges holds what the program's text lays there, which the card ties to that text.
-/
import Derived.Test.YtifpcfhfglkbcaaDoorCards
import Derived.Test.YtifpcfhfglkbcaaDoorTie
import Derived.LaidMore
import Derived.Stop.Joined
import Derived.OpenVars
import Derived.WalkKit
import Derived.ProofKit
import Derived.OpenShut
import Derived.ShutString
import Derived.Test.YtifpcfhfglkbcaaDoorWalkFlSh
import Derived.Test.YtifpcfhfglkbcaaDoorWalkFlagsD
import Derived.Test.YtifpcfhfglkbcaaDoorLawSize
import Derived.ChangeOld
import Derived.Below
namespace Go.Proofs.YtifpcfhfglkbcaaDoor.fnShifts
open Go.ChangeShapes Go.WideShapes Go.ChangeAt Go.RowKit
open Go.ChangeMaps (open_string shut_string)
set_option linter.unusedVariables false

theorem own : ownKnob Tryd.prog.godebug = none := by kernel_rfl
theorem laidOut : laidOutB Tryd.prog = true := by kernel_rfl

/-- WHAT THE WALK IS TOLD OF A SLICE OF INTEGERS THAT CAME IN: it is nil; or it leads to a row of 'cap' cells, the numbers 'zs' (the first 'len' are its elements, the rest its spare room), each fitting its kind. -/
def IsRow (k : IntKind) (w : World) (a : Option Addr) (len cap : Nat) (zs : List Int) : Prop :=
  (a = none ∧ len = 0 ∧ cap = 0 ∧ zs = []) ∨
  ∃ x, a = some x ∧ len ≤ cap ∧ cap ≤ maxLen ∧ zs.length = cap ∧ (∀ i, i < zs.length → w.cell? (x.add i) = some (.int k (zs.getD i 0))) ∧ ∀ n ∈ zs, (Lit.int k n).wf = true

theorem rdb_of_row {w : World} {a : Option Addr} {len cap : Nat} {zs : List Int} (h : IsRow .u8 w a len cap zs) : Rdb w w.heap.size a len := by
  intro hl
  rcases h with ⟨_, h0, _, _⟩ | ⟨x, rfl, hlc, hm, hz, hc, hwf⟩
  · omega
  · obtain ⟨b, off, rfl, hcell⟩ := ints_at hc (by omega)
    refine ⟨b, off, rfl, ?_, fun j hj => ⟨_, hcell j (by omega), ?_⟩⟩
    · have h0 := hcell 0 (by omega)
      rcases Nat.lt_or_ge b w.heap.size with h | h
      · exact h
      · simp [World.cell?, Array.getElem?_eq_none h] at h0
    · have hj' : j < zs.length := by omega
      have := bounds_u8 (hwf zs[j] (List.getElem_mem hj'))
      simp [List.getElem?_eq_getElem hj']; omega
set_option maxRecDepth 100000 in
set_option maxHeartbeats 8000000 in
theorem walk (a0 : Option Addr) (len0 cap0 : Nat) (z0 : List Int) (a1 : Option Addr) (len1 cap1 : Nat) (z1 : List Int) (w : World) (w0 : IsRow .u8 w a0 len0 cap0 z0) (w1 : IsRow .u8 w a1 len1 cap1 z1) (hL : laidMetH Tryd.prog Rows.fnShiftsRow.laid w) :
    Calls Tryd.prog 9 #[.slice a0 len0 cap0, .slice a1 len1 cap1] w fun e w' => e = .returned (.bool true) ∧ Below w.heap.size w w' := by
  clear hL
  have hr0 := rdb_of_row w0
  have hr1 := rdb_of_row w1
  clear w0 w1
  by_cases hb0 : (1048576 : Int) < len0
  · go_enter Tryd.func9, Tryd.ntmps9
    go_wp2
    go_ret
    exact ⟨rfl, Below.refl _ _⟩
  by_cases hb1 : (1048576 : Int) < len1
  · go_enter Tryd.func9, Tryd.ntmps9
    go_wp2
    go_ret
    exact ⟨rfl, Below.refl _ _⟩
  have R1 := Lib.hid hr1
  go_enter Tryd.func9, Tryd.ntmps9
  go_wp2_with fail
  refine (numberOf len0 cap0 a0 _ (by omega) hr0).mono ?_
  rintro e wa ⟨a, ha, rfl, hBwa⟩
  clear hr0 hr1 ha
  have csz : Calls Tryd.prog 24 #[.slice a1 len1 cap1, .int .i64 0] wa (SizeOut wa) := lawSizeAt 0 len1 cap1 a1 wa ((R1.out.below hBwa).more hBwa.size) (by omega) (by omega)
  have CSZ := Lib.hid csz
  clear csz
  go_wp2_with fail
  refine (CSZ.out).mono ?_
  rintro e wb ⟨size, hok, rfl, hwb⟩
  have hBwb : Below w.heap.size w wb := hBwa.trans (hwb.mono hBwa.size)
  have HOK := Lib.hid hok
  have hs8 : size ≤ 8 := by rcases hok with h | h | h | h <;> omega
  have hs1 : 1 ≤ size := by rcases hok with h | h | h | h <;> omega
  clear hok hwb hBwa
  have CFD := Lib.hid (flagsDrawn len1 cap1 a1 wb (by omega) ((R1.out.below hBwb).more hBwb.size))
  go_wp2_with fail
  refine (CFD.out).mono ?_
  rintro e wc ⟨f, hf, rfl, hwc⟩
  have HF := Lib.hid hf
  have hBwc : Below w.heap.size w wc := hBwb.trans (hwc.mono hBwb.size)
  clear hf hwc hBwb CFD CSZ
  have cat : Calls Tryd.prog 26 #[.slice a1 len1 cap1, .int .i64 1, .int .i64 5] wc (IntIn 0 4 wc.heap.size wc) := lawAt 1 5 len1 cap1 a1 wc ((R1.out.below hBwc).more hBwc.size) (by omega) (by omega) (by omega) (by omega)
  have CAT := Lib.hid cat
  clear cat
  go_wp2_with fail
  refine (CAT.out).mono ?_
  rintro e wd ⟨r, r0, r1, rfl, hwd⟩
  have hBwd : Below w.heap.size w wd := hBwc.trans (hwd.mono hBwc.size)
  clear hwd hBwc CAT
  have cat : Calls Tryd.prog 26 #[.slice a1 len1 cap1, .int .i64 2, .int .i64 20] wd (IntIn 0 19 wd.heap.size wd) := lawAt 2 20 len1 cap1 a1 wd ((R1.out.below hBwd).more hBwd.size) (by omega) (by omega) (by omega) (by omega)
  have CAT := Lib.hid cat
  clear cat
  go_wp2_with fail
  refine (CAT.out).mono ?_
  rintro e we ⟨k', k0, k1, rfl, hwe⟩
  have B0 := Lib.hid (hBwd.trans (hwe.mono hBwd.size))
  clear hwe hBwd CAT R1
  obtain ⟨k, rfl⟩ := Int.eq_ofNat_of_zero_le k0
  obtain ⟨op, hop⟩ : ∃ op, op = 20 + r := ⟨_, rfl⟩
  have HOP := Lib.hid (show ShOp op by unfold ShOp; omega)
  rw [← hop]
  clear hop r0 r1
  obtain ⟨vk, Fk, x, p, q, q2, low, s, s2, t2, W1, H1, Y, Z, hF⟩ := sh_facts op a f k size HOP.out HOK.out (by omega) HF.out
  have C1 := Lib.hid hF.c1; have C2 := Lib.hid hF.c2; have C3 := Lib.hid hF.c3; have C4 := Lib.hid hF.c4; have C5 := Lib.hid hF.c5; have C6 := Lib.hid hF.c6; have C7 := Lib.hid hF.c7; have C8 := Lib.hid hF.c8; have C9 := Lib.hid hF.c9; have C10 := Lib.hid hF.c10; have C11 := Lib.hid hF.c11
  have E0 := Lib.hid hF.e0; have E1 := Lib.hid hF.e1; have E2 := Lib.hid hF.e2; have E3 := Lib.hid hF.e3; have Y0 := Lib.hid hF.y0; have Y1 := Lib.hid hF.y1
  clear hF HF HOP
  go_wp2_with fail
  refine (C1.out _).mono ?_
  rintro e w1 ⟨rfl, hb⟩
  have B1 := Lib.hid (B0.out.trans (hb.mono B0.out.size))
  clear hb
  go_wp2_with fail
  refine (C2.out _).mono ?_
  rintro e w2 ⟨rfl, rfl⟩
  go_wp2_with fail
  refine (C3.out _).mono ?_
  rintro e w2 ⟨rfl, rfl⟩
  go_wp2
  go_loopw [18, 19, 20] (fun v h i wr => ∃ j : Nat, j ≤ k ∧ i = .int .i64 j ∧ v = .int .i64 (W1 j) ∧ h = .int .i64 (H1 j) ∧ Below w.heap.size w wr) (fun _ _ i _ => k - (intOf i).toNat)
  case atStart => exact ⟨0, by omega, rfl, by rw [E0.out], by rw [E1.out], B1.out⟩
  case round =>
    obtain ⟨j, hj, rfl, rfl, rfl, hbr⟩ := hrel
    have BR := Lib.hid hbr
    clear hbr
    by_cases hlt : j < k
    · have CJ := Lib.hid (C4.out j)
      go_wp2_with fail
      refine (CJ.out _).mono ?_
      rintro e w2 ⟨rfl, hb⟩
      have B2 := Lib.hid (BR.out.trans (hb.mono BR.out.size))
      clear hb
      go_wp2
      go_roundw
      case rel => exact ⟨j + 1, by omega, by go_num, rfl, rfl, B2.out⟩
      case measure => simp [intOf]; omega
    · obtain rfl : j = k := by omega
      rw [E2.out, E3.out]
      go_wp2
      go_loopw [24, 25] (fun v i wr => ∃ j : Nat, j ≤ 8 * size ∧ i = .int .i64 j ∧ v = .int .i64 (Y j) ∧ Below w.heap.size w wr) (fun _ i _ => 8 * size - (intOf i).toNat)
      case atStart => exact ⟨0, by omega, rfl, by rw [Y0.out], BR.out⟩
      case round =>
        obtain ⟨i, hi, rfl, rfl, hbr⟩ := hrel
        have BQ := Lib.hid hbr
        clear hbr
        by_cases hlt2 : i < 8 * size
        · have CJ := Lib.hid (C5.out i)
          go_wp2_with fail
          refine (CJ.out _).mono ?_
          rintro e w2 ⟨rfl, hb⟩
          have B2 := Lib.hid (BQ.out.trans (hb.mono BQ.out.size))
          clear hb
          go_wp2
          go_roundw
          case rel => exact ⟨i + 1, by omega, by go_num, rfl, B2.out⟩
          case measure => simp [intOf]; omega
        · obtain rfl : i = 8 * size := by omega
          rw [Y1.out]
          go_wp2_with fail
          refine (C6.out _).mono ?_
          rintro e w2 ⟨rfl, hb⟩
          have B2 := Lib.hid (BQ.out.trans (hb.mono BQ.out.size))
          clear hb
          go_wp2_with fail
          refine (C7.out _).mono ?_
          rintro e w3 ⟨rfl, hb⟩
          have B3 := Lib.hid (B2.out.trans (hb.mono B2.out.size))
          clear hb
          go_wp2_with fail
          refine (C8.out _).mono ?_
          rintro e w4 ⟨rfl, rfl⟩
          go_wp2_with fail
          refine (C9.out _).mono ?_
          rintro e w5 ⟨rfl, hb⟩
          have B5 := Lib.hid (B3.out.trans (hb.mono B3.out.size))
          clear hb
          go_wp2_with fail
          refine (C10.out _).mono ?_
          rintro e w6 ⟨rfl, hb⟩
          have B6 := Lib.hid (B5.out.trans (hb.mono B5.out.size))
          clear hb
          go_wp2_with fail
          refine (C11.out _).mono ?_
          rintro e w7 ⟨rfl, hb⟩
          have B7 := Lib.hid (B6.out.trans (hb.mono B6.out.size))
          clear hb
          go_wp2
          go_ret
          exact ⟨rfl, B7.out⟩

theorem door_met (os : Os) (args : Array Value) : laidMetH Tryd.prog Rows.fnShiftsRow.laid ((World.doorLaid Tryd.prog 400 os).forCall (fun _ _ => 0) ⟨#[], args, []⟩).memory :=
  laidMetH_of_parts3 (fuel := 8) (laidMet_of_run' 8 (by kernel_rfl) (by kernel_rfl)) (by kernel_rfl) (by kernel_rfl)
/-! ### THE ROW's STEP: WRITTEN OUT: LEAVE IT -/
set_option maxRecDepth 100000 in
theorem lifted (os : Os) (started : os.Started) (H : Type) (enc : TypeId × Value → H) :
    ReturnsInHanded {} Tryd.checked os 9 .any (fun w args => (Rows.fnShiftsSpec.pre enc Tryd.prog Tryd.f9 [] false w args ∧ laidMetH Tryd.prog Rows.fnShiftsRow.laid w) ∧ sizedMet enc Tryd.prog Tryd.f9 (OpenSpec.ofChange Rows.fnShiftsSpec) false w args)
      (Rows.fnShiftsSpec.post enc Tryd.prog Tryd.f9 false true false false) := by
  refine returnsInHanded_of_change_and (C := Tryd.checked) (X := fun w _ => laidMetH Tryd.prog Rows.fnShiftsRow.laid w) (fun _ _ _ hh h => h.of_heap hh) own started (by kernel_rfl) Tryd.func9
    (ChangeSpec.witness_shaped (enc := enc) (C := Tryd.checked) (os := os) (X := fun w _ => laidMetH Tryd.prog Rows.fnShiftsRow.laid w) false (World.doorLaid Tryd.prog 400 os) #[.slice none 0 0, .slice none 0 0] 8 rfl (World.shaped_of_RefB (by kernel_rfl) (by kernel_rfl)) (by kernel_rfl) (by kernel_rfl) (by kernel_rfl) (door_met os _)) ?_
  intro W base args ds gs before hval0 hW _ _ hL _
  have hval : ∀ (j : Nat) t v, Tryd.f9.params[j]? = some t → args[j]? = some v → Value.okWide Tryd.prog W .any base t v := hval0
  have hW' := hW
  obtain ⟨p, q, hA0, hV, rfl, hfz, hnd⟩ := hW
  have hA : DataW.TrodAll enc Tryd.prog W 0 (fun _ => true) true Tryd.f9.params.toList args.toList ds p := hA0
  rw [Tryd.params9] at hA hval
  obtain ⟨v0, vs0, d0, ds0, p0, q0, hargs, rfl, rfl, h0, r0⟩ := trodAll_cons hA
  obtain ⟨v1, vs1, d1, ds1, p1, q1, rfl, rfl, rfl, h1, r1⟩ := trodAll_cons r0
  obtain ⟨rfl, rfl, rfl⟩ := trodAll_nil r1
  obtain rfl : args = #[v0, v1] := by cases args; simp_all
  obtain ⟨gx, tx, csx, fx, ex, qx, rfl, _⟩ := trodVars_one hV
  obtain ⟨a0, len0, cap0, rfl⟩ := okWide_slice Tryd.underlying32 (hval 0 32 v0 rfl rfl)
  have k0 := h0
  have lt0 : ∀ x ∈ p0, x.block < W.heap.size := by obtain ⟨m, hm⟩ := k0; exact DataW.trod_lt m _ _ _ hm
  obtain ⟨z0, w0⟩ : ∃ zs, IsRow .u8 W a0 len0 cap0 zs := by
    obtain ⟨fuel, hf⟩ := h0
    rcases open_ints Tryd.underlying32 Tryd.underlying5 (by kernel_rfl) hf with ⟨hcs, _⟩ | ⟨x, l, c, zs, hcs, _, hl, hm, hz, _, hcell, hwz⟩
    · simp [Value.cells] at hcs
      obtain ⟨rfl, rfl, rfl⟩ := hcs
      exact ⟨[], .inl ⟨rfl, rfl, rfl, rfl⟩⟩
    · simp [Value.cells] at hcs
      obtain ⟨rfl, rfl, rfl⟩ := hcs
      exact ⟨zs, .inr ⟨_, rfl, hl, hm, by simpa using hz, hcell, hwz⟩⟩
  obtain ⟨a1, len1, cap1, rfl⟩ := okWide_slice Tryd.underlying32 (hval 1 32 v1 rfl rfl)
  have k1 := h1
  have lt1 : ∀ x ∈ p1, x.block < W.heap.size := by obtain ⟨m, hm⟩ := k1; exact DataW.trod_lt m _ _ _ hm
  obtain ⟨z1, w1⟩ : ∃ zs, IsRow .u8 W a1 len1 cap1 zs := by
    obtain ⟨fuel, hf⟩ := h1
    rcases open_ints Tryd.underlying32 Tryd.underlying5 (by kernel_rfl) hf with ⟨hcs, _⟩ | ⟨x, l, c, zs, hcs, _, hl, hm, hz, _, hcell, hwz⟩
    · simp [Value.cells] at hcs
      obtain ⟨rfl, rfl, rfl⟩ := hcs
      exact ⟨[], .inl ⟨rfl, rfl, rfl, rfl⟩⟩
    · simp [Value.cells] at hcs
      obtain ⟨rfl, rfl, rfl⟩ := hcs
      exact ⟨zs, .inr ⟨_, rfl, hl, hm, by simpa using hz, hcell, hwz⟩⟩
  clear hA0 hval0
  refine (walk a0 len0 cap0 z0 a1 len1 cap1 z1 W w0 w1 hL).mono fun e W' ⟨he, hg⟩ => ?_
  subst he
  exact ⟨_, rfl, _, _, _, [], _, _, hW', trodAll_mk1 (shut_bool Tryd.underlying4 _), (trodAll_cons_mk (Below.trod laidOut (by kernel_rfl) (of_decide_eq_true (by kernel_rfl)) k0 hg lt0) (trodAll_cons_mk (Below.trod laidOut (by kernel_rfl) (of_decide_eq_true (by kernel_rfl)) k1 hg lt1) trodAll_mk0)), Below.trodVars laidOut hg (by kernel_rfl) hV, hg.frame _, fun h => by cases h⟩

theorem over : Rows.fnShiftsRow.holds Tryd.pinned (OpenSpec.ofChange Rows.fnShiftsSpec) :=
  OpenClaim.holds_of_wide 9 Tryd.f9 rfl rfl rfl rfl rfl rfl rfl ⟨rfl, rfl, rfl, rfl, rfl⟩ rfl rfl rfl rfl rfl (by kernel_rfl) Tryd.func9 (by kernel_rfl)
    (of_decide_eq_true (by kernel_rfl)) (by unfold Func.isWrapper; first | (rw [if_pos (by decide +kernel)]; kernel_rfl) | (rw [if_neg (by decide +kernel)]; exact ⟨rfl, rfl⟩))
    (fun os started H enc _ => lifted os started H enc)

theorem plain (f : FuncId) (fn : Func) (hf : Tryd.pinned.checked.prog.funcNamed "loop.example/g00664/laws.FnShifts" = some f) (hfn : Tryd.pinned.checked.prog.funcs[f]? = some fn) :
    false = Tryd.pinned.checked.prog.looks [] ∧ ∀ (j : Nat) t, fn.params[j]? = some t → Tryd.pinned.checked.prog.wantsStandIn t = false := by
  obtain rfl : f = 9 := Option.some.inj ((show Tryd.prog.funcNamed "loop.example/g00664/laws.FnShifts" = some 9 by kernel_rfl).symm.trans hf) |>.symm
  obtain rfl : fn = Tryd.f9 := (Option.some.inj (Tryd.func9.symm.trans hfn)).symm
  refine ⟨by kernel_rfl, fun j t ht => ?_⟩
  rw [Tryd.params9] at ht
  have hm := Array.mem_of_getElem? ht
  simp only [List.mem_toArray, List.mem_cons, List.not_mem_nil, or_false] at hm
  rcases hm with rfl | rfl
  · exact (show Tryd.prog.wantsStandIn 32 = false by kernel_rfl)
  · exact (show Tryd.prog.wantsStandIn 32 = false by kernel_rfl)
/-- THE CARD -/
theorem card : Rows.FnShiftsCardSaid :=
  Claim7.holds_tied_plain_at .later [] _ _ _ _ over (fun _ h => by cases h) (by kernel_rfl) (fun _ h => by cases h) fnShifts_row_tie rfl ⟨rfl, rfl⟩ (by kernel_rfl) rfl plain (by kernel_rfl)
#print axioms card
end Go.Proofs.YtifpcfhfglkbcaaDoor.fnShifts
