/-
  Proved: for every two slices of bytes, laws.FnWide returns true (quotient times divisor and the rest are the number that was divided, and the rest is below the divisor), with no condition.
-/
import Derived.Test.YtplgeelhkldkcaaRows
import Derived.WalkKit
import Derived.ProofKit
import Derived.OpenShut
import Derived.ShutString
import Derived.Test.YtplgeelhkldkcaaMathWide2
import Derived.Test.YtplgeelhkldkcaaLawAt
import Derived.ChangeOld
import Derived.Below
namespace Go.Proofs.Ytplgeelhkldkcaa.fnWide
open Go.ChangeShapes Go.WideShapes Go.ChangeAt Go.RowKit
open Go.ChangeMaps (open_string shut_string)
set_option linter.unusedVariables false

theorem own : ownKnob Try.prog.godebug = none := by kernel_rfl
theorem laidOut : laidOutB Try.prog = true := by kernel_rfl

/-- WHAT THE WALK IS TOLD OF A SLICE OF INTEGERS THAT CAME IN: it is nil; or it leads to a row of 'cap' cells, the numbers 'zs' (the first 'len' are its elements, the rest its spare room), each fitting its kind. -/
def IsRow (k : IntKind) (w : World) (a : Option Addr) (len cap : Nat) (zs : List Int) : Prop :=
  (a = none ∧ len = 0 ∧ cap = 0 ∧ zs = []) ∨
  ∃ x, a = some x ∧ len ≤ cap ∧ cap ≤ maxLen ∧ zs.length = cap ∧ (∀ i, i < zs.length → w.cell? (x.add i) = some (.int k (zs.getD i 0))) ∧ ∀ n ∈ zs, (Lit.int k n).wf = true

theorem rdb_of_row {w : World} {a : Option Addr} {len cap : Nat} {zs : List Int} (h : IsRow .u8 w a len cap zs) : Rdb w w.heap.size a len := by
  intro hl
  rcases h with ⟨_, h0, _, _⟩ | ⟨x, rfl, hlc, hm, hz, hc, hwf⟩
  · omega
  · obtain ⟨b, off, rfl, hcell⟩ := ints_at hc (by omega)
    refine ⟨b, off, rfl, ?_, fun j hj => ⟨_, hcell j (by omega), ?_⟩⟩
    · have h0 := hcell 0 (by omega)
      rcases Nat.lt_or_ge b w.heap.size with h | h
      · exact h
      · simp [World.cell?, Array.getElem?_eq_none h] at h0
    · have hj' : j < zs.length := by omega
      have := bounds_u8 (hwf zs[j] (List.getElem_mem hj'))
      simp [List.getElem?_eq_getElem hj']; omega
theorem walk (a0 : Option Addr) (len0 cap0 : Nat) (z0 : List Int) (a1 : Option Addr) (len1 cap1 : Nat) (z1 : List Int) (w : World) (w0 : IsRow .u8 w a0 len0 cap0 z0) (w1 : IsRow .u8 w a1 len1 cap1 z1) :
    Calls Try.prog 6 #[.slice a0 len0 cap0, .slice a1 len1 cap1] w fun e w' => e = .returned (.bool true) ∧ Below w.heap.size w w' := by
  have hr0 := rdb_of_row w0
  have hr1 := rdb_of_row w1
  clear w0 w1
  by_cases hb0 : (1048576 : Int) < len0
  · go_enter Try.func6, Try.ntmps6
    go_wp2
    go_ret
    exact ⟨rfl, Below.refl _ _⟩
  by_cases hb1 : (1048576 : Int) < len1
  · go_enter Try.func6, Try.ntmps6
    go_wp2
    go_ret
    exact ⟨rfl, Below.refl _ _⟩
  go_enter Try.func6, Try.ntmps6
  go_wp2_with fail
  refine (numberOf len0 cap0 a0 _ (by omega) hr0).mono ?_
  rintro e wa ⟨a, ha, rfl, hba⟩
  have za := hba.size
  have hra := (hr1.below hba).more za
  go_wp2_with fail
  refine (numberOf len1 cap1 a1 _ (by omega) hra).mono ?_
  rintro e wb ⟨b, hb, rfl, hbb⟩
  have zb := hbb.size
  have hrb := (hra.below hbb).more zb
  have HRB := Lib.hid hrb
  have HA := Lib.hid ha; have HB := Lib.hid hb
  clear ha hb hr0 hr1 hra hrb
  obtain ⟨H, hH⟩ : ∃ H, H = mulHi a b := ⟨_, rfl⟩
  obtain ⟨L, hL⟩ : ∃ L, L = mulLo a b := ⟨_, rfl⟩
  have c1 : ∀ w, Calls Try.prog 17 #[.int .i64 a, .int .i64 b] w fun e w' => e = .returned (.tuple #[.int .i64 H, .int .i64 L]) ∧ w = w' := fun w => by rw [hH, hL]; exact implMulWide a b w
  have c2 : ∀ w, Calls Try.prog 18 #[.int .i64 a, .int .i64 b] w fun e w' => e = .returned (.tuple #[.int .i64 H, .int .i64 L]) ∧ w = w' := fun w => by rw [hH, hL]; exact specMulWide a b w
  have c3 : ∀ w, Calls Try.prog 19 #[.int .i64 a, .int .i64 b] w fun e w' => e = .returned (.int .i64 L) ∧ w = w' := fun w => by have := lawTimes a b w; rw [times_eq] at this; rw [hL]; exact this
  have C1 := Lib.hid c1; have C2 := Lib.hid c2; have C3 := Lib.hid c3
  have HH := Lib.hid hH; have HL := Lib.hid hL
  clear c1 c2 c3 hH hL
  go_wp2_with fail
  refine (C1.out _).mono ?_
  rintro e w' ⟨rfl, rfl⟩
  go_wp2_with fail
  refine (C2.out _).mono ?_
  rintro e w' ⟨rfl, rfl⟩
  go_wp2_with fail
  refine (C3.out _).mono ?_
  rintro e w' ⟨rfl, rfl⟩
  by_cases hz : IntKind.u64.wrap b = 0
  · obtain rfl : b = 0 := by
      have := bounds_i64 HB.out
      rw [wrapU] at hz; omega
    have HZ := Lib.hid hz
    have c4 : ∀ w, Calls Try.prog 20 #[.int .i64 H, .int .i64 L, .int .i64 0] w fun e w' => e = .returned (.tuple #[.int .i64 0, .int .i64 0, .int .i64 16]) ∧ Below w.heap.size w w' := fun w => implDivideNo H L 0 w (by have := u64_lo H; omega)
    have C4 := Lib.hid c4
    clear c4 hz
    go_wp2_with fail
    refine (C4.out _).mono ?_
    rintro e wc ⟨rfl, hbc⟩
    have zc := hbc.size
    have hat : Calls Try.prog 11 #[.slice a1 len1 cap1, .int .i64 0, .int .i64 9] wc (IntIn 0 8 wc.heap.size wc) := lawAt 0 9 len1 cap1 a1 wc ((HRB.out.below hbc).more zc) (by omega) (by omega) (by omega) (by omega)
    have HAT := Lib.hid hat
    clear hat
    go_wp2_with fail
    refine (HAT.out).mono ?_
    rintro e wd ⟨h, h0, h8, rfl, hbd⟩
    have uh : IntKind.u64.wrap h = h := by rw [wrapU]; omega
    have UH := Lib.hid uh
    clear uh
    have zd := hbd.size
    have nlt : ¬ IntKind.u64.wrap h < IntKind.u64.wrap 0 := by have := u64_lo h; have := HZ.out; omega
    have c5 : ∀ w, Calls Try.prog 20 #[.int .i64 h, .int .i64 a, .int .i64 0] w fun e w' => e = .returned (.tuple #[.int .i64 0, .int .i64 0, .int .i64 16]) ∧ Below w.heap.size w w' := fun w => implDivideNo h a 0 w nlt
    have c6 : ∀ w, Calls Try.prog 21 #[.int .i64 h, .int .i64 0] w fun e w' => e = .returned (.bool false) ∧ w = w' := fun w => by have := implBelow h 0 w; rw [decide_eq_false nlt] at this; exact this
    have c7 : ∀ w, Calls Try.prog 22 #[.int .i64 h, .int .i64 0] w fun e w' => e = .returned (.bool false) ∧ w = w' := fun w => by have := specBelow h 0 w; rw [decide_eq_false nlt] at this; exact this
    have C5 := Lib.hid c5; have C6 := Lib.hid c6; have C7 := Lib.hid c7
    clear c5 c6 c7 nlt
    go_wp2_with fail
    refine (C5.out _).mono ?_
    rintro e we ⟨rfl, hbe⟩
    go_wp2_with fail
    refine (C6.out _).mono ?_
    rintro e w' ⟨rfl, rfl⟩
    go_wp2_with fail
    refine (C6.out _).mono ?_
    rintro e w' ⟨rfl, rfl⟩
    go_wp2_with fail
    refine (C7.out _).mono ?_
    rintro e w' ⟨rfl, rfl⟩
    go_wp2
    go_ret
    exact ⟨rfl, hba.trans ((hbb.mono (by omega)).trans ((hbc.mono (by omega)).trans ((hbd.mono (by omega)).trans (hbe.mono (by omega)))))⟩
  · have hbz : (b == 0) = false := by
      refine beq_eq_false_iff_ne.mpr fun h => hz ?_
      rw [h, wrapU]; rfl
    obtain ⟨d1, d2, d3⟩ := wide_back HA.out hz
    have c4 : ∀ w, Calls Try.prog 20 #[.int .i64 H, .int .i64 L, .int .i64 b] w fun e w' => e = .returned (.tuple #[.int .i64 a, .int .i64 0, .int .i64 0]) ∧ Below w.heap.size w w' := fun w => by
      have := implDivide H L b w (by rw [HH.out]; exact d1)
      rw [HH.out, HL.out, d2, d3] at this
      rw [HH.out, HL.out]; exact this
    have C4 := Lib.hid c4
    clear c4 d1 d2 d3 hz
    go_wp2_with fail
    refine (C4.out _).mono ?_
    rintro e wc ⟨rfl, hbc⟩
    have zc := hbc.size
    have hat : Calls Try.prog 11 #[.slice a1 len1 cap1, .int .i64 0, .int .i64 9] wc (IntIn 0 8 wc.heap.size wc) := lawAt 0 9 len1 cap1 a1 wc ((HRB.out.below hbc).more zc) (by omega) (by omega) (by omega) (by omega)
    have HAT := Lib.hid hat
    clear hat
    go_wp2_with fail
    refine (HAT.out).mono ?_
    rintro e wd ⟨h, h0, h8, rfl, hbd⟩
    have uh : IntKind.u64.wrap h = h := by rw [wrapU]; omega
    have UH := Lib.hid uh
    clear uh
    have zd := hbd.size
    by_cases hlt : h < IntKind.u64.wrap b
    · obtain ⟨v1, v2, v3, v4⟩ := wide_again HA.out h0 h8 hlt
      obtain ⟨k, hk⟩ : ∃ k, k = wrap64 (dq h (IntKind.u64.wrap a) (IntKind.u64.wrap b)) := ⟨_, rfl⟩
      obtain ⟨m, hm⟩ : ∃ m, m = wrap64 (dr h (IntKind.u64.wrap a) (IntKind.u64.wrap b)) := ⟨_, rfl⟩
      rw [← hk, ← hm] at v1
      rw [← hm] at v2
      rw [← hk] at v3 v4
      have c5 : ∀ w, Calls Try.prog 20 #[.int .i64 h, .int .i64 a, .int .i64 b] w fun e w' => e = .returned (.tuple #[.int .i64 k, .int .i64 m, .int .i64 0]) ∧ Below w.heap.size w w' := fun w => by
        have := implDivide h a b w (by rw [UH.out]; exact hlt)
        unfold dwQ dwR at this
        rw [UH.out, ← hk, ← hm] at this; exact this
      have tlt : decide (IntKind.u64.wrap h < IntKind.u64.wrap b) = true := by rw [UH.out]; exact decide_eq_true hlt
      have c6 : ∀ w, Calls Try.prog 21 #[.int .i64 h, .int .i64 b] w fun e w' => e = .returned (.bool true) ∧ w = w' := fun w => by have := implBelow h b w; rw [tlt] at this; exact this
      have c7 : ∀ w, Calls Try.prog 22 #[.int .i64 h, .int .i64 b] w fun e w' => e = .returned (.bool true) ∧ w = w' := fun w => by have := specBelow h b w; rw [tlt] at this; exact this
      obtain ⟨p, hp⟩ : ∃ p, p = mulHi k b := ⟨_, rfl⟩
      obtain ⟨s, hs⟩ : ∃ s, s = mulLo k b := ⟨_, rfl⟩
      rw [← hs] at v1 v3 v4
      rw [← hp] at v3 v4
      have c8 : ∀ w, Calls Try.prog 17 #[.int .i64 k, .int .i64 b] w fun e w' => e = .returned (.tuple #[.int .i64 p, .int .i64 s]) ∧ w = w' := fun w => by rw [hp, hs]; exact implMulWide k b w
      have c9 : ∀ w, Calls Try.prog 23 #[.int .i64 s, .int .i64 m] w fun e w' => e = .returned (.int .i64 a) ∧ w = w' := fun w => by have := lawPlus s m w; rw [v1] at this; exact this
      have c10 : ∀ w, Calls Try.prog 21 #[.int .i64 m, .int .i64 b] w fun e w' => e = .returned (.bool true) ∧ w = w' := fun w => by have := implBelow m b w; rw [decide_eq_true v2] at this; exact this
      have C5 := Lib.hid c5; have C6 := Lib.hid c6; have C7 := Lib.hid c7; have C8 := Lib.hid c8; have C9 := Lib.hid c9; have C10 := Lib.hid c10
      have V3 := Lib.hid v3; have V4 := Lib.hid v4
      clear c5 c6 c7 c8 c9 c10 v1 v2 v3 v4 hk hm hp hs tlt hlt
      go_wp2_with fail
      refine (C5.out _).mono ?_
      rintro e we ⟨rfl, hbe⟩
      go_wp2_with fail
      refine (C6.out _).mono ?_
      rintro e w' ⟨rfl, rfl⟩
      go_wp2_with fail
      refine (C6.out _).mono ?_
      rintro e w' ⟨rfl, rfl⟩
      go_wp2_with fail
      refine (C7.out _).mono ?_
      rintro e w' ⟨rfl, rfl⟩
      go_wp2_with fail
      refine (C8.out _).mono ?_
      rintro e w' ⟨rfl, rfl⟩
      go_wp2_with fail
      refine (C9.out _).mono ?_
      rintro e w' ⟨rfl, rfl⟩
      by_cases hc : IntKind.u64.wrap a < IntKind.u64.wrap s
      · have c11 : ∀ w, Calls Try.prog 21 #[.int .i64 a, .int .i64 s] w fun e w' => e = .returned (.bool true) ∧ w = w' := fun w => by have := implBelow a s w; rw [decide_eq_true hc] at this; exact this
        have c12 : ∀ w, Calls Try.prog 23 #[.int .i64 p, .int .i64 1] w fun e w' => e = .returned (.int .i64 h) ∧ w = w' := fun w => by have := lawPlus p 1 w; rw [V3.out hc] at this; exact this
        have C11 := Lib.hid c11; have C12 := Lib.hid c12
        clear c11 c12 hc
        go_wp2_with fail
        refine (C11.out _).mono ?_
        rintro e w' ⟨rfl, rfl⟩
        go_wp2_with fail
        refine (C12.out _).mono ?_
        rintro e w' ⟨rfl, rfl⟩
        go_wp2_with fail
        refine (C10.out _).mono ?_
        rintro e w' ⟨rfl, rfl⟩
        go_wp2
        go_ret
        exact ⟨rfl, hba.trans ((hbb.mono (by omega)).trans ((hbc.mono (by omega)).trans ((hbd.mono (by omega)).trans (hbe.mono (by omega)))))⟩
      · have c11 : ∀ w, Calls Try.prog 21 #[.int .i64 a, .int .i64 s] w fun e w' => e = .returned (.bool false) ∧ w = w' := fun w => by have := implBelow a s w; rw [decide_eq_false hc] at this; exact this
        obtain rfl : p = h := V4.out (by omega)
        have C11 := Lib.hid c11
        clear c11 hc
        go_wp2_with fail
        refine (C11.out _).mono ?_
        rintro e w' ⟨rfl, rfl⟩
        go_wp2_with fail
        refine (C10.out _).mono ?_
        rintro e w' ⟨rfl, rfl⟩
        go_wp2
        go_ret
        exact ⟨rfl, hba.trans ((hbb.mono (by omega)).trans ((hbc.mono (by omega)).trans ((hbd.mono (by omega)).trans (hbe.mono (by omega)))))⟩
    · have HNLT := Lib.hid hlt
      clear hlt
      have nlt : ¬ IntKind.u64.wrap h < IntKind.u64.wrap b := by rw [UH.out]; exact HNLT.out
      have c5 : ∀ w, Calls Try.prog 20 #[.int .i64 h, .int .i64 a, .int .i64 b] w fun e w' => e = .returned (.tuple #[.int .i64 0, .int .i64 0, .int .i64 16]) ∧ Below w.heap.size w w' := fun w => implDivideNo h a b w nlt
      have c6 : ∀ w, Calls Try.prog 21 #[.int .i64 h, .int .i64 b] w fun e w' => e = .returned (.bool false) ∧ w = w' := fun w => by have := implBelow h b w; rw [decide_eq_false nlt] at this; exact this
      have c7 : ∀ w, Calls Try.prog 22 #[.int .i64 h, .int .i64 b] w fun e w' => e = .returned (.bool false) ∧ w = w' := fun w => by have := specBelow h b w; rw [decide_eq_false nlt] at this; exact this
      have C5 := Lib.hid c5; have C6 := Lib.hid c6; have C7 := Lib.hid c7
      clear c5 c6 c7 nlt
      go_wp2_with fail
      refine (C5.out _).mono ?_
      rintro e we ⟨rfl, hbe⟩
      go_wp2_with fail
      refine (C6.out _).mono ?_
      rintro e w' ⟨rfl, rfl⟩
      go_wp2_with fail
      refine (C6.out _).mono ?_
      rintro e w' ⟨rfl, rfl⟩
      go_wp2_with fail
      refine (C7.out _).mono ?_
      rintro e w' ⟨rfl, rfl⟩
      go_wp2
      go_ret
      exact ⟨rfl, hba.trans ((hbb.mono (by omega)).trans ((hbc.mono (by omega)).trans ((hbd.mono (by omega)).trans (hbe.mono (by omega)))))⟩

/-! ### THE ROW's STEP: WRITTEN OUT: LEAVE IT -/
set_option maxRecDepth 100000 in
theorem lifted (os : Os) (started : os.Started) (H : Type) (enc : TypeId × Value → H) :
    ReturnsInHanded {} Try.checked os 6 .any (Rows.fnWideSpec.pre6 enc Try.prog Try.f6 Rows.fnWideRow.domain false) (Rows.fnWideSpec.post enc Try.prog Try.f6 false true false false) := by
  refine returnsInHanded_of_change (C := Try.checked) own started (by kernel_rfl) Try.func6
    (ChangeSpec.witness6 (enc := enc) (C := Try.checked) false ⟨#[], #[.slice none 0 0, .slice none 0 0], []⟩ 8 (by kernel_rfl) (by kernel_rfl) (by kernel_rfl) (by kernel_rfl)) ?_
  intro W base args ds gs before hval0 hW hcnd _
  have hval : ∀ (j : Nat) t v, Try.f6.params[j]? = some t → args[j]? = some v → Value.okWide Try.prog W .any base t v := hval0
  have hW' := hW
  obtain ⟨p, q, hA0, hV, rfl, hfz, hnd⟩ := hW
  have hA : DataW.TrodAll enc Try.prog W 0 (fun _ => true) true Try.f6.params.toList args.toList ds p := hA0
  rw [Try.params6] at hA hval
  obtain ⟨v0, vs0, d0, ds0, p0, q0, hargs, rfl, rfl, h0, r0⟩ := trodAll_cons hA
  obtain ⟨v1, vs1, d1, ds1, p1, q1, rfl, rfl, rfl, h1, r1⟩ := trodAll_cons r0
  obtain ⟨rfl, rfl, rfl⟩ := trodAll_nil r1
  obtain rfl : args = #[v0, v1] := by cases args; simp_all
  obtain ⟨rfl, rfl⟩ := trodVars_none hV
  obtain ⟨a0, len0, cap0, rfl⟩ := okWide_slice Try.underlying22 (hval 0 22 v0 rfl rfl)
  have k0 := h0
  have lt0 : ∀ x ∈ p0, x.block < W.heap.size := by obtain ⟨m, hm⟩ := k0; exact DataW.trod_lt m _ _ _ hm
  obtain ⟨z0, w0⟩ : ∃ zs, IsRow .u8 W a0 len0 cap0 zs := by
    obtain ⟨fuel, hf⟩ := h0
    rcases open_ints Try.underlying22 Try.underlying5 (by kernel_rfl) hf with ⟨hcs, _⟩ | ⟨x, l, c, zs, hcs, _, hl, hm, hz, _, hcell, hwz⟩
    · simp [Value.cells] at hcs
      obtain ⟨rfl, rfl, rfl⟩ := hcs
      exact ⟨[], .inl ⟨rfl, rfl, rfl, rfl⟩⟩
    · simp [Value.cells] at hcs
      obtain ⟨rfl, rfl, rfl⟩ := hcs
      exact ⟨zs, .inr ⟨_, rfl, hl, hm, by simpa using hz, hcell, hwz⟩⟩
  obtain ⟨a1, len1, cap1, rfl⟩ := okWide_slice Try.underlying22 (hval 1 22 v1 rfl rfl)
  have k1 := h1
  have lt1 : ∀ x ∈ p1, x.block < W.heap.size := by obtain ⟨m, hm⟩ := k1; exact DataW.trod_lt m _ _ _ hm
  obtain ⟨z1, w1⟩ : ∃ zs, IsRow .u8 W a1 len1 cap1 zs := by
    obtain ⟨fuel, hf⟩ := h1
    rcases open_ints Try.underlying22 Try.underlying5 (by kernel_rfl) hf with ⟨hcs, _⟩ | ⟨x, l, c, zs, hcs, _, hl, hm, hz, _, hcell, hwz⟩
    · simp [Value.cells] at hcs
      obtain ⟨rfl, rfl, rfl⟩ := hcs
      exact ⟨[], .inl ⟨rfl, rfl, rfl, rfl⟩⟩
    · simp [Value.cells] at hcs
      obtain ⟨rfl, rfl, rfl⟩ := hcs
      exact ⟨zs, .inr ⟨_, rfl, hl, hm, by simpa using hz, hcell, hwz⟩⟩
  clear hA0 hval0
  refine (walk a0 len0 cap0 z0 a1 len1 cap1 z1 W w0 w1).mono fun e W' ⟨he, bel⟩ => ?_
  subst he
  exact ⟨_, rfl, _, _, _, [], _, [], hW', trodAll_mk1 (shut_bool Try.underlying4 _), (trodAll_cons_mk (Below.trod laidOut (by kernel_rfl) (of_decide_eq_true (by kernel_rfl)) k0 bel lt0) (trodAll_cons_mk (Below.trod laidOut (by kernel_rfl) (of_decide_eq_true (by kernel_rfl)) k1 bel lt1) trodAll_mk0)), rfl, bel.frame _, fun h => by cases h⟩

theorem over : Rows.fnWideRow.holds Try.pinned (OpenSpec.ofChange Rows.fnWideSpec) :=
  OpenClaim.holds_of_wide 6 Try.f6 rfl rfl rfl rfl rfl rfl rfl ⟨rfl, rfl, rfl, rfl, rfl⟩ rfl rfl rfl rfl rfl (by kernel_rfl) Try.func6 (by kernel_rfl)
    (of_decide_eq_true (by kernel_rfl)) (by unfold Func.isWrapper; first | (rw [if_pos (by decide +kernel)]; kernel_rfl) | (rw [if_neg (by decide +kernel)]; exact ⟨rfl, rfl⟩))
    (fun os started H enc _ => lifted os started H enc)

/-- ████ THE STATEMENT ████ -/
theorem proved : Rows.FnWideSaid := over
#print axioms proved
end Go.Proofs.Ytplgeelhkldkcaa.fnWide
