/-
  Proved: for every two slices of bytes, laws.FnBytes returns true (numbers are read back from their bytes, wherever these stand, with their sign and without it); condition: the two sentinel errors hold what the program's text lays there, which the card ties to that text.
-/
import Derived.Test.YtplgeelhkldkcaaDoorCards
import Derived.Test.YtplgeelhkldkcaaDoorTie
import Derived.LaidMore
import Derived.Stop.Joined
import Derived.OpenVars
import Derived.WalkKit
import Derived.ProofKit
import Derived.OpenShut
import Derived.ShutString
import Derived.Test.YtplgeelhkldkcaaDoorWalkBack
import Derived.ChangeOld
import Derived.Below
namespace Go.Proofs.YtplgeelhkldkcaaDoor.fnBytes
open Go.ChangeShapes Go.WideShapes Go.ChangeAt Go.RowKit
open Go.ChangeMaps (open_string shut_string)
set_option linter.unusedVariables false

theorem own : ownKnob Tryd.prog.godebug = none := by kernel_rfl
theorem laidOut : laidOutB Tryd.prog = true := by kernel_rfl

/-- WHAT THE WALK IS TOLD OF A SLICE OF INTEGERS THAT CAME IN: it is nil; or it leads to a row of 'cap' cells, the numbers 'zs' (the first 'len' are its elements, the rest its spare room), each fitting its kind. -/
def IsRow (k : IntKind) (w : World) (a : Option Addr) (len cap : Nat) (zs : List Int) : Prop :=
  (a = none ∧ len = 0 ∧ cap = 0 ∧ zs = []) ∨
  ∃ x, a = some x ∧ len ≤ cap ∧ cap ≤ maxLen ∧ zs.length = cap ∧ (∀ i, i < zs.length → w.cell? (x.add i) = some (.int k (zs.getD i 0))) ∧ ∀ n ∈ zs, (Lit.int k n).wf = true

theorem rdb_of_row {w : World} {a : Option Addr} {len cap : Nat} {zs : List Int} (h : IsRow .u8 w a len cap zs) : Rdb w w.heap.size a len := by
  intro hl
  rcases h with ⟨_, h0, _, _⟩ | ⟨x, rfl, hlc, hm, hz, hc, hwf⟩
  · omega
  · obtain ⟨b, off, rfl, hcell⟩ := ints_at hc (by omega)
    refine ⟨b, off, rfl, ?_, fun j hj => ⟨_, hcell j (by omega), ?_⟩⟩
    · have h0 := hcell 0 (by omega)
      rcases Nat.lt_or_ge b w.heap.size with h | h
      · exact h
      · simp [World.cell?, Array.getElem?_eq_none h] at h0
    · have hj' : j < zs.length := by omega
      have := bounds_u8 (hwf zs[j] (List.getElem_mem hj'))
      simp [List.getElem?_eq_getElem hj']; omega
set_option maxRecDepth 100000 in
set_option maxHeartbeats 4000000 in
theorem walk (a0 : Option Addr) (len0 cap0 : Nat) (z0 : List Int) (a1 : Option Addr) (len1 cap1 : Nat) (z1 : List Int) (w : World) (w0 : IsRow .u8 w a0 len0 cap0 z0) (w1 : IsRow .u8 w a1 len1 cap1 z1) (hL : laidMetH Tryd.prog Rows.fnBytesRow.laid w) :
    Calls Tryd.prog 3 #[.slice a0 len0 cap0, .slice a1 len1 cap1] w fun e w' => e = .returned (.bool true) ∧ Below w.heap.size w w' := by
  obtain ⟨aE, aR, hs⟩ := sent_of_laid (W := w) rfl hL
  have HS := Lib.hid hs
  clear hL hs
  have hr0 := rdb_of_row w0
  have hr1 := rdb_of_row w1
  clear w0 w1
  by_cases hb0 : (1048576 : Int) < len0
  · go_enter Tryd.func3, Tryd.ntmps3
    go_wp2
    go_ret
    exact ⟨rfl, Below.refl _ _⟩
  by_cases hb1 : (1048576 : Int) < len1
  · go_enter Tryd.func3, Tryd.ntmps3
    go_wp2
    go_ret
    exact ⟨rfl, Below.refl _ _⟩
  have R1 := Lib.hid hr1
  go_enter Tryd.func3, Tryd.ntmps3
  go_wp2_with fail
  refine (numberOf len0 cap0 a0 _ (by omega) hr0).mono ?_
  rintro e wa ⟨v, hv, rfl, hBwa⟩
  have HV := Lib.hid hv
  clear hv hr0 hr1
  have csz : Calls Tryd.prog 9 #[.slice a1 len1 cap1, .int .i64 0] wa (SizeOut wa) := lawSizeAt 0 len1 cap1 a1 wa ((R1.out.below hBwa).more hBwa.size) (by omega) (by omega)
  have CSZ := Lib.hid csz
  clear csz
  go_wp2_with fail
  refine (CSZ.out).mono ?_
  rintro e wb ⟨size, hok, rfl, hwb⟩
  have hBwb : Below w.heap.size w wb := hBwa.trans (hwb.mono hBwa.size)
  have HOK := Lib.hid hok
  have hs8 : size ≤ 8 := by rcases hok with h | h | h | h <;> omega
  have hs1 : 1 ≤ size := by rcases hok with h | h | h | h <;> omega
  clear hok hwb hBwa
  have cat : Calls Tryd.prog 11 #[.slice a1 len1 cap1, .int .i64 1, .int .i64 9] wb (IntIn 0 8 wb.heap.size wb) := lawAt 1 9 len1 cap1 a1 wb ((R1.out.below hBwb).more hBwb.size) (by omega) (by omega) (by omega) (by omega)
  have CAT := Lib.hid cat
  clear cat
  go_wp2_with fail
  refine (CAT.out).mono ?_
  rintro e wc ⟨r, r0, r1, rfl, hwc⟩
  have hBwc : Below w.heap.size w wc := hBwb.trans (hwc.mono hBwb.size)
  clear hwc hBwb
  obtain ⟨m, rfl⟩ := Int.eq_ofNat_of_zero_le r0
  go_wp2_with fail
  refine (someText m len1 cap1 a1 _ (by omega) ((R1.out.below hBwc).more hBwc.size) (by omega)).mono ?_
  rintro e wd ⟨hd, hdz, rfl, hwd⟩
  have hBwd : Below w.heap.size w wd := hBwc.trans (hwd.mono hBwc.size)
  have hd8 : hd.size ≤ 8 := by omega
  clear hwd hBwc hdz
  obtain ⟨X, hX⟩ := natU v
  have hX64 : X < 18446744073709551616 := by rw [wrapU] at hX; omega
  obtain ⟨T, hT⟩ : ∃ T : ByteArray, T = ⟨(leB X size).toArray⟩ := ⟨_, rfl⟩
  have hTs : T.size = size := leB_size hT
  obtain ⟨x, hx⟩ : ∃ x, x = wrap64 ((X % 2 ^ (8 * size) : Nat) : Int) := ⟨_, rfl⟩
  obtain ⟨y, hy⟩ : ∃ y, y = wrap64 (sgnU X size : Int) := ⟨_, rfl⟩
  have c1 : ∀ w, Calls Tryd.prog 12 #[.int .i64 v, .int .i64 (size : Int)] w fun e w' => e = .returned (.tuple #[.string T, .int .i64 0]) ∧ Below w.heap.size w w' := fun w => by rw [hT]; exact implPutYes v X size w hX HOK.out
  have z1 : (hd ++ T ++ ⟨#[120]⟩).size = hd.size + T.size + 1 := app_size3 hd T
  have z2 : (hd ++ T).size = hd.size + T.size := ByteArray.size_append
  have c2 : ∀ w, Sent w aE aR → Calls Tryd.prog 13 #[.string (hd ++ T ++ ⟨#[120]⟩), .int .i64 (hd.size : Int), .int .i64 (size : Int)] w fun e w' => e = .returned (.tuple #[.int .i64 x, .int .i64 0]) ∧ Below w.heap.size w w' := fun w hs =>
    implTakeIs _ _ _ _ _ w aE aR hs (by unfold maxLen; omega) (wf_small (by omega) (by omega)) (.inr (.inr (.inr ⟨by omega, HOK.out, by omega, by omega, by rw [hx]; simp [take_put hd T ⟨#[120]⟩ X size hT], rfl⟩)))
  have c3 : ∀ w, Sent w aE aR → Calls Tryd.prog 13 #[.string (hd ++ T), .int .i64 ((hd.size : Int) + 1), .int .i64 (size : Int)] w fun e w' => e = .returned (.tuple #[.int .i64 0, .int .i64 9]) ∧ Below w.heap.size w w' := fun w hs =>
    implTakeIs _ _ _ _ _ w aE aR hs (by unfold maxLen; omega) (wf_small (by omega) (by omega)) (.inr (.inr (.inl ⟨by omega, HOK.out, .inr (by omega), rfl, rfl⟩)))
  have hXm : X % 2 ^ (8 * size) < 18446744073709551616 := by have := Nat.mod_le X (2 ^ (8 * size)); omega
  have c4 : ∀ w, Calls Tryd.prog 14 #[.int .i64 x, .int .i64 (size : Int)] w fun e w' => e = .returned (.tuple #[.int .i64 y, .int .i64 0]) ∧ Below w.heap.size w w' := fun w => by
    have := implSign x (X % 2 ^ (8 * size)) size w (by rw [hx]; exact wrap64_wf _) (by rw [hx]; exact u_w64 hXm) HOK.out
    rw [sgn_mod, ← hy] at this; exact this
  have c5 : ∀ w, Calls Tryd.prog 14 #[.int .i64 v, .int .i64 (size : Int)] w fun e w' => e = .returned (.tuple #[.int .i64 y, .int .i64 0]) ∧ Below w.heap.size w w' := fun w => by rw [hy]; exact implSign v X size w HV.out hX HOK.out
  have c6 : ∀ w, Calls Tryd.prog 15 #[.int .i64 v, .int .i64 (size : Int)] w fun e w' => e = .returned (.tuple #[.int .i64 x, .int .i64 0]) ∧ Below w.heap.size w w' := fun w => by rw [hx]; exact implZero v X size w hX HOK.out
  have c7 : ∀ w, Calls Tryd.prog 16 #[.int .i64 v, .int .i64 (size : Int)] w fun e w' => e = .returned (.tuple #[.int .i64 x, .int .i64 0]) ∧ w = w' := fun w => by rw [hx]; exact specZeroYes v X size size w rfl hX HOK.out
  have c8 : ∀ w, Calls Tryd.prog 17 #[.int .i64 v, .int .i64 (size : Int)] w fun e w' => e = .returned (.tuple #[.int .i64 y, .int .i64 0]) ∧ w = w' := fun w => by rw [hy]; exact specSignYes v X size size w rfl hX HOK.out
  have C1 := Lib.hid c1; have C2 := Lib.hid c2; have C3 := Lib.hid c3; have C4 := Lib.hid c4; have C5 := Lib.hid c5; have C6 := Lib.hid c6; have C7 := Lib.hid c7; have C8 := Lib.hid c8
  have HX := Lib.hid hX; have HT := Lib.hid hT; have HTS := Lib.hid hTs; have HXX := Lib.hid hx
  have tl : ((T.size : Int) == (size : Int)) = true := beq_iff_eq.mpr (by omega)
  have t0 : 0 < T.size := by omega
  have t1 : T.size ≤ 8 := by omega
  have tb := first_byte HT.out hs1 t0
  have tq := low_byte hX
  have hfin : ((size : Int) < 8) ∨ ((8 : Int) ≤ (size : Int) ∧ (x == v) = true) := by
    by_cases h8 : size < 8
    · exact .inl (by omega)
    · exact .inr ⟨by omega, beq_iff_eq.mpr (whole_word HV.out hX hx (by omega))⟩
  have HF := Lib.hid hfin
  clear hfin
  clear c1 c2 c3 c4 c5 c6 c7 c8 hX hT hTs hx hy z1 z2 hXm
  go_wp2_with fail
  refine (C1.out _).mono ?_
  rintro e we ⟨rfl, hwe⟩
  have hBwe : Below w.heap.size w we := hBwd.trans (hwe.mono hBwd.size)
  clear hwe hBwd
  go_wp2_with fail
  refine (C2.out _ (HS.out.below hBwe)).mono ?_
  rintro e wf ⟨rfl, hwf⟩
  have hBwf : Below w.heap.size w wf := hBwe.trans (hwf.mono hBwe.size)
  clear hwf hBwe
  go_wp2_with fail
  refine (C4.out _).mono ?_
  rintro e wg ⟨rfl, hwg⟩
  have hBwg : Below w.heap.size w wg := hBwf.trans (hwg.mono hBwf.size)
  clear hwg hBwf
  go_wp2_with fail
  refine (C5.out _).mono ?_
  rintro e wh ⟨rfl, hwh⟩
  have hBwh : Below w.heap.size w wh := hBwg.trans (hwh.mono hBwg.size)
  clear hwh hBwg
  go_wp2_with fail
  refine (C6.out _).mono ?_
  rintro e wi ⟨rfl, hwi⟩
  have hBwi : Below w.heap.size w wi := hBwh.trans (hwi.mono hBwh.size)
  clear hwi hBwh
  go_wp2_with fail
  refine (C3.out _ (HS.out.below hBwi)).mono ?_
  rintro e wj ⟨rfl, hwj⟩
  have hBwj : Below w.heap.size w wj := hBwi.trans (hwj.mono hBwi.size)
  clear hwj hBwi
  go_wp2_with fail
  refine (C7.out _).mono ?_
  rintro e w' ⟨rfl, rfl⟩
  go_wp2_with fail
  refine (C8.out _).mono ?_
  rintro e w' ⟨rfl, rfl⟩
  rcases HF.out with h8 | ⟨h8, hxv⟩
  · go_wp2
    go_ret
    exact ⟨rfl, hBwj⟩
  · go_wp2
    go_ret
    exact ⟨rfl, hBwj⟩

theorem door_met (os : Os) (args : Array Value) : laidMetH Tryd.prog Rows.fnBytesRow.laid ((World.doorLaid Tryd.prog 400 os).forCall (fun _ _ => 0) ⟨#[], args, []⟩).memory :=
  laidMetH_of_parts3 (fuel := 8) (laidMet_of_run' 8 (by kernel_rfl) (by kernel_rfl)) (by kernel_rfl) (by kernel_rfl)
theorem two_vars {H : Type} {enc : TypeId × Value → H} {P : Program} {w : World} {sp : Nat → Bool} {n1 n2 : String} {gs : List (DataW H)} {ps : List MemPlace} (h : DataW.TrodVars enc P w sp [n1, n2] gs ps) : ∃ g1 g2, gs = [g1, g2] := by
  match gs, h with
  | [], h => exact h.elim
  | [a], ⟨_, _, _, _, _, _, _, _, _, _, h, _⟩ => exact h.elim
  | [a, b], _ => exact ⟨a, b, rfl⟩
  | a :: b :: c :: r, ⟨_, _, _, _, _, _, _, _, _, _, ⟨_, _, _, _, _, _, _, _, _, _, h, _⟩, _⟩ => exact h.elim
/-! ### THE ROW's STEP: WRITTEN OUT: LEAVE IT -/
set_option maxRecDepth 100000 in
theorem lifted (os : Os) (started : os.Started) (H : Type) (enc : TypeId × Value → H) :
    ReturnsInHanded {} Tryd.checked os 3 .any (fun w args => (Rows.fnBytesSpec.pre enc Tryd.prog Tryd.f3 [] false w args ∧ laidMetH Tryd.prog Rows.fnBytesRow.laid w) ∧ sizedMet enc Tryd.prog Tryd.f3 (OpenSpec.ofChange Rows.fnBytesSpec) false w args)
      (Rows.fnBytesSpec.post enc Tryd.prog Tryd.f3 false true false false) := by
  refine returnsInHanded_of_change_and (C := Tryd.checked) (X := fun w _ => laidMetH Tryd.prog Rows.fnBytesRow.laid w) (fun _ _ _ hh h => h.of_heap hh) own started (by kernel_rfl) Tryd.func3
    (ChangeSpec.witness_shaped (enc := enc) (C := Tryd.checked) (os := os) (X := fun w _ => laidMetH Tryd.prog Rows.fnBytesRow.laid w) false (World.doorLaid Tryd.prog 400 os) #[.slice none 0 0, .slice none 0 0] 8 rfl (World.shaped_of_RefB (by kernel_rfl) (by kernel_rfl)) (by kernel_rfl) (by kernel_rfl) (by kernel_rfl) (door_met os _)) ?_
  intro W base args ds gs before hval0 hW _ _ hL _
  have hval : ∀ (j : Nat) t v, Tryd.f3.params[j]? = some t → args[j]? = some v → Value.okWide Tryd.prog W .any base t v := hval0
  have hW' := hW
  obtain ⟨p, q, hA0, hV, rfl, hfz, hnd⟩ := hW
  have hA : DataW.TrodAll enc Tryd.prog W 0 (fun _ => true) true Tryd.f3.params.toList args.toList ds p := hA0
  rw [Tryd.params3] at hA hval
  obtain ⟨v0, vs0, d0, ds0, p0, q0, hargs, rfl, rfl, h0, r0⟩ := trodAll_cons hA
  obtain ⟨v1, vs1, d1, ds1, p1, q1, rfl, rfl, rfl, h1, r1⟩ := trodAll_cons r0
  obtain ⟨rfl, rfl, rfl⟩ := trodAll_nil r1
  obtain rfl : args = #[v0, v1] := by cases args; simp_all
  obtain ⟨g1, g2, rfl⟩ : ∃ g1 g2, gs = [g1, g2] := two_vars hV
  obtain ⟨a0, len0, cap0, rfl⟩ := okWide_slice Tryd.underlying22 (hval 0 22 v0 rfl rfl)
  have k0 := h0
  have lt0 : ∀ x ∈ p0, x.block < W.heap.size := by obtain ⟨m, hm⟩ := k0; exact DataW.trod_lt m _ _ _ hm
  obtain ⟨z0, w0⟩ : ∃ zs, IsRow .u8 W a0 len0 cap0 zs := by
    obtain ⟨fuel, hf⟩ := h0
    rcases open_ints Tryd.underlying22 Tryd.underlying5 (by kernel_rfl) hf with ⟨hcs, _⟩ | ⟨x, l, c, zs, hcs, _, hl, hm, hz, _, hcell, hwz⟩
    · simp [Value.cells] at hcs
      obtain ⟨rfl, rfl, rfl⟩ := hcs
      exact ⟨[], .inl ⟨rfl, rfl, rfl, rfl⟩⟩
    · simp [Value.cells] at hcs
      obtain ⟨rfl, rfl, rfl⟩ := hcs
      exact ⟨zs, .inr ⟨_, rfl, hl, hm, by simpa using hz, hcell, hwz⟩⟩
  obtain ⟨a1, len1, cap1, rfl⟩ := okWide_slice Tryd.underlying22 (hval 1 22 v1 rfl rfl)
  have k1 := h1
  have lt1 : ∀ x ∈ p1, x.block < W.heap.size := by obtain ⟨m, hm⟩ := k1; exact DataW.trod_lt m _ _ _ hm
  obtain ⟨z1, w1⟩ : ∃ zs, IsRow .u8 W a1 len1 cap1 zs := by
    obtain ⟨fuel, hf⟩ := h1
    rcases open_ints Tryd.underlying22 Tryd.underlying5 (by kernel_rfl) hf with ⟨hcs, _⟩ | ⟨x, l, c, zs, hcs, _, hl, hm, hz, _, hcell, hwz⟩
    · simp [Value.cells] at hcs
      obtain ⟨rfl, rfl, rfl⟩ := hcs
      exact ⟨[], .inl ⟨rfl, rfl, rfl, rfl⟩⟩
    · simp [Value.cells] at hcs
      obtain ⟨rfl, rfl, rfl⟩ := hcs
      exact ⟨zs, .inr ⟨_, rfl, hl, hm, by simpa using hz, hcell, hwz⟩⟩
  clear hA0 hval0
  refine (walk a0 len0 cap0 z0 a1 len1 cap1 z1 W w0 w1 hL).mono fun e W' ⟨he, hg⟩ => ?_
  subst he
  exact ⟨_, rfl, _, _, _, [], _, _, hW', trodAll_mk1 (shut_bool Tryd.underlying4 _), (trodAll_cons_mk (Below.trod laidOut (by kernel_rfl) (of_decide_eq_true (by kernel_rfl)) k0 hg lt0) (trodAll_cons_mk (Below.trod laidOut (by kernel_rfl) (of_decide_eq_true (by kernel_rfl)) k1 hg lt1) trodAll_mk0)), Below.trodVars laidOut hg (by kernel_rfl) hV, hg.frame _, fun h => by cases h⟩

theorem over : Rows.fnBytesRow.holds Tryd.pinned (OpenSpec.ofChange Rows.fnBytesSpec) :=
  OpenClaim.holds_of_wide 3 Tryd.f3 rfl rfl rfl rfl rfl rfl rfl ⟨rfl, rfl, rfl, rfl, rfl⟩ rfl rfl rfl rfl rfl (by kernel_rfl) Tryd.func3 (by kernel_rfl)
    (of_decide_eq_true (by kernel_rfl)) (by unfold Func.isWrapper; first | (rw [if_pos (by decide +kernel)]; kernel_rfl) | (rw [if_neg (by decide +kernel)]; exact ⟨rfl, rfl⟩))
    (fun os started H enc _ => lifted os started H enc)

theorem plain (f : FuncId) (fn : Func) (hf : Tryd.pinned.checked.prog.funcNamed "loop.example/g00664/laws.FnBytes" = some f) (hfn : Tryd.pinned.checked.prog.funcs[f]? = some fn) :
    true = Tryd.pinned.checked.prog.looks [] ∧ ∀ (j : Nat) t, fn.params[j]? = some t → Tryd.pinned.checked.prog.wantsStandIn t = false := by
  obtain rfl : f = 3 := Option.some.inj ((show Tryd.prog.funcNamed "loop.example/g00664/laws.FnBytes" = some 3 by kernel_rfl).symm.trans hf) |>.symm
  obtain rfl : fn = Tryd.f3 := (Option.some.inj (Tryd.func3.symm.trans hfn)).symm
  refine ⟨by kernel_rfl, fun j t ht => ?_⟩
  rw [Tryd.params3] at ht
  have hm := Array.mem_of_getElem? ht
  simp only [List.mem_toArray, List.mem_cons, List.not_mem_nil, or_false] at hm
  rcases hm with rfl | rfl
  · exact (show Tryd.prog.wantsStandIn 22 = false by kernel_rfl)
  · exact (show Tryd.prog.wantsStandIn 22 = false by kernel_rfl)
/-- THE CARD -/
theorem card : Rows.FnBytesCardSaid :=
  Claim7.holds_tied_plain_at .later [] _ _ _ _ over (fun _ h => by cases h) (by kernel_rfl) (fun _ h => by cases h) fnBytes_row_tie rfl ⟨rfl, rfl⟩ (by kernel_rfl) rfl plain (by kernel_rfl)
#print axioms card
end Go.Proofs.YtplgeelhkldkcaaDoor.fnBytes
