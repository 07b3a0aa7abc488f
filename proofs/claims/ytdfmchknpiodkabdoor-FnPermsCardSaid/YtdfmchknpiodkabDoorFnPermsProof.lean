/-
  Proved: for every two slices of bytes, laws.FnPerms returns true (what each Perm of a page lets load, store and fetch, at the page's end and into the page behind it); condition: the two sentinel errors hold what the program's text lays there, which the card ties to that text.
-/
import Derived.Test.YtdfmchknpiodkabDoorCards
import Derived.Test.YtdfmchknpiodkabDoorTie
import Derived.LaidMore
import Derived.Stop.Joined
import Derived.OpenVars
import Derived.WalkKit
import Derived.ProofKit
import Derived.OpenShut
import Derived.ShutString
import Derived.Test.YtdfmchknpiodkabDoorWalkPerms
import Derived.Test.YtdfmchknpiodkabDoorWalkAtD
import Derived.ChangeOld
import Derived.Below
namespace Go.Proofs.YtdfmchknpiodkabDoor.fnPerms
open Go.ChangeShapes Go.WideShapes Go.ChangeAt Go.RowKit
open Go.ChangeMaps (open_string shut_string)
set_option linter.unusedVariables false

theorem own : ownKnob Tryd.prog.godebug = none := by kernel_rfl
theorem laidOut : laidOutB Tryd.prog = true := by kernel_rfl

/-- WHAT THE WALK IS TOLD OF A SLICE OF INTEGERS THAT CAME IN: it is nil; or it leads to a row of 'cap' cells, the numbers 'zs' (the first 'len' are its elements, the rest its spare room), each fitting its kind. -/
def IsRow (k : IntKind) (w : World) (a : Option Addr) (len cap : Nat) (zs : List Int) : Prop :=
  (a = none ∧ len = 0 ∧ cap = 0 ∧ zs = []) ∨
  ∃ x, a = some x ∧ len ≤ cap ∧ cap ≤ maxLen ∧ zs.length = cap ∧ (∀ i, i < zs.length → w.cell? (x.add i) = some (.int k (zs.getD i 0))) ∧ ∀ n ∈ zs, (Lit.int k n).wf = true

open AtD
theorem byt_of_row {w : World} {a : Option Addr} {len cap : Nat} {zs : List Int} (h : IsRow .u8 w a len cap zs) : Byt w a len (fun j => zs.getD j 0) := by
  intro hl
  rcases h with ⟨_, h0, _, _⟩ | ⟨x, rfl, hlc, hm, hz, hc, hwf⟩
  · omega
  · obtain ⟨b, off, rfl, hcell⟩ := ints_at hc (by omega)
    refine ⟨b, off, rfl, ?_, fun j hj => ⟨hcell j (by omega), ?_⟩⟩
    · have h0 := hcell 0 (by omega)
      rcases Nat.lt_or_ge b w.heap.size with h | h
      · exact h
      · simp [World.cell?, Array.getElem?_eq_none h] at h0
    · have hj' : j < zs.length := by omega
      have := bounds_u8 (hwf zs[j] (List.getElem_mem hj'))
      simp [List.getElem?_eq_getElem hj']; omega
set_option maxRecDepth 100000 in
set_option maxHeartbeats 4000000 in
theorem walk (a0 : Option Addr) (len0 cap0 : Nat) (z0 : List Int) (a1 : Option Addr) (len1 cap1 : Nat) (z1 : List Int) (w : World) (w0 : IsRow .u8 w a0 len0 cap0 z0) (w1 : IsRow .u8 w a1 len1 cap1 z1) (hL : laidMetH Tryd.prog Rows.fnPermsRow.laid w) :
    Calls Tryd.prog 4 #[.slice a0 len0 cap0, .slice a1 len1 cap1] w fun e w' => e = .returned (.bool true) ∧ Below w.heap.size w w' := by
  obtain ⟨aE, aR, hs⟩ := sent_of_laid (W := w) rfl hL
  have HS := Lib.hid hs
  clear hL hs
  have hr0 := byt_of_row w0
  have hr1 := byt_of_row w1
  clear w0 w1
  by_cases hb0 : (1048576 : Int) < len0
  · go_enter Tryd.func4, Tryd.ntmps4
    go_wp2
    go_ret
    exact ⟨rfl, Below.refl _ _⟩
  by_cases hb1 : (1048576 : Int) < len1
  · go_enter Tryd.func4, Tryd.ntmps4
    go_wp2
    go_ret
    exact ⟨rfl, Below.refl _ _⟩
  obtain ⟨kb, hkb, CB⟩ := atK 0 200 len1 cap1 a1 _ w hr1 (by omega) (by omega) (by omega) (by omega)
  obtain ⟨ko, hko, CO⟩ := atK 0 7 len0 cap0 a0 _ w hr0 (by omega) (by omega) (by omega) (by omega)
  have HCB := Lib.hid CB; have HCO := Lib.hid CO
  have HB : Hid (Bs (256 * (kb : Int))) := Lib.hid ⟨by omega, by omega, by omega⟩
  clear CB CO hr0 hr1
  go_enter Tryd.func4, Tryd.ntmps4
  go_wp2_with fail
  refine (HCB.out w (Below.refl _ _)).mono ?_
  rintro e wa ⟨rfl, q0, rfl⟩
  have LA : Hid (Below w.heap.size w (w.drewN q0)) := Lib.hid (below_q w q0)
  go_wp2
  go_loopw [6] (fun i wr => ∃ p : Int, 0 ≤ p ∧ p ≤ 8 ∧ i = .int .i64 p ∧ Hid (Below w.heap.size w wr)) (fun i _ => (8 - intOf i).toNat)
  case atStart => exact ⟨0, by omega, by omega, rfl, LA⟩
  case round =>
    obtain ⟨p, p0, p8, rfl, LB⟩ := hrel
    by_cases hp8 : p = 8
    · subst hp8
      go_wp2
      go_ret
      exact ⟨rfl, LB.out⟩
    · have hlt : p < 8 := by omega
      have HP : Hid (Pm p) := Lib.hid ⟨p0, by omega⟩
      clear p8 hp8
      go_wp2_with fail
      refine (pAdd1 (256 * (kb : Int)) _ HB.out).mono ?_
      rintro e w1 ⟨g1, c1, rfl, R1, hg1, b1⟩
      obtain ⟨V1, hV1⟩ : ∃ V, V = w1.alloc (.cells #[.slice (some ⟨g1, 0, none⟩) 1 c1] 25) := ⟨_, rfl⟩
      have S1 : Hid (St w V1 w1.heap.size 1 g1 c1 (one1 (256 * (kb : Int)) 0)) := Lib.hid (by rw [hV1]; exact St.box (bthen LB.out b1) R1.out)
      have HV1 := Lib.hid hV1
      clear hV1 b1 hg1
      go_wp2_with fail
      rw [← HV1.out]
      refine (pSet1 _ _ g1 c1 V1 HB.out HP.out S1.out.rd).mono ?_
      rintro e w2 ⟨g2, c2, rfl, R2, hg2, b2⟩
      have x2 := (S1.out.next b2).cell; have f2 := (S1.out.next b2).free; have r2 (v : Value) := cellSame x2 v
      obtain ⟨U2, hU2⟩ : ∃ U, U = w2.setCell ⟨w1.heap.size, 0, none⟩ (.slice (some ⟨g2, 0, none⟩) 1 c2) := ⟨_, rfl⟩
      have S2 : Hid (St w U2 w1.heap.size 1 g2 c2 _) := Lib.hid (by rw [hU2]; exact S1.out.store b2 R2.out hg2)
      have HU2 := Lib.hid hU2
      clear hU2 b2 hg2
      go_wp2_with fail
      rw [← HU2.out]
      clear x2 f2 r2
      refine (pAdd2 _ _ g2 c2 U2 HB.out HP.out S2.out.rd).mono ?_
      rintro e w3 ⟨g3, c3, rfl, R3, hg3, b3⟩
      have x3 := (S2.out.next b3).cell; have f3 := (S2.out.next b3).free; have r3 (v : Value) := cellSame x3 v
      obtain ⟨U3, hU3⟩ : ∃ U, U = w3.setCell ⟨w1.heap.size, 0, none⟩ (.slice (some ⟨g3, 0, none⟩) 2 c3) := ⟨_, rfl⟩
      have S3 : Hid (St w U3 w1.heap.size 2 g3 c3 _) := Lib.hid (by rw [hU3]; exact S2.out.store b3 R3.out hg3)
      have HU3 := Lib.hid hU3
      clear hU3 b3 hg3
      go_wp2_with fail
      rw [← HU3.out]
      clear x3 f3 r3
      refine (pAdd3 _ _ g3 c3 U3 HB.out HP.out S3.out.rd).mono ?_
      rintro e w4 ⟨g4, c4, rfl, R4, hg4, b4⟩
      have S4 := Lib.hid (S3.out.next b4)
      have x4 := S4.out.cell; have z4 := S4.out.lt
      obtain ⟨V4, hV4⟩ : ∃ V, V = w4.alloc (.cells #[.slice (some ⟨g4, 0, none⟩) 2 c4] 25) := ⟨_, rfl⟩
      have S5 : Hid (St w V4 w1.heap.size 2 g3 c3 _) := Lib.hid (by rw [hV4]; exact S4.out.next (below1 _ _))
      have HV4 := Lib.hid hV4
      clear b4 hg4 hV4
      go_wp2_with fail
      rw [← HV4.out]
      clear x4 z4
      refine (pOk _ _ g3 c3 V4 HB.out HP.out S5.out.rd).mono ?_
      rintro e w5 ⟨rfl, b5⟩
      have S6 := Lib.hid (S5.out.next b5)
      clear b5
      go_wp2_with fail
      refine (HCO.out w5 S6.out.1).mono ?_
      rintro e w6 ⟨rfl, q6, hq6⟩
      have S7 : Hid (St w w6 w1.heap.size 2 g3 c3 _) := Lib.hid (by rw [hq6]; exact S6.out.next (below_q w5 q6))
      have x7 := S7.out.cell
      clear hq6
      go_wp2_with fail
      refine (pLoad _ _ _ g3 c3 _ aE aR (HS.out.below S7.out.1) HB.out HP.out (by omega) (by omega) S7.out.rd).mono ?_
      rintro e w8 ⟨r8, d8, rfl, hd8, b8⟩
      have S8 := Lib.hid (S7.out.next b8)
      have x8 := S8.out.cell
      clear b8 x7
      have D8 := Lib.hid hd8
      clear hd8
      go_wp2_with fail
      refine (pStore _ _ _ g3 c3 _ aE aR (HS.out.below S8.out.1) HB.out HP.out (by omega) (by omega) S8.out.rd).mono ?_
      rintro e w9 ⟨x, g9, c9, d9, rfl, R9, X9, hd9, b9⟩
      obtain ⟨V9, hV9⟩ : ∃ V, V = w9.alloc (.cells #[.slice (some ⟨g9, 0, none⟩) 2 c9] 25) := ⟨_, rfl⟩
      have S9 : Hid (St w V9 w1.heap.size 2 g3 c3 _) := Lib.hid (by rw [hV9]; exact (S8.out.next b9).next (below1 _ _))
      have Y9 : Hid (St w V9 w9.heap.size 2 g9 c9 x) := Lib.hid (by rw [hV9]; exact St.box (S8.out.next b9).1 R9.out)
      have x9 := (S8.out.next b9).cell; have z9 := (S8.out.next b9).lt
      have HV9 := Lib.hid hV9
      clear b9 x8 hV9
      have D9 := Lib.hid hd9
      clear hd9
      go_wp2_with fail
      rw [← HV9.out]
      clear x9 z9
      refine (pFetch _ _ _ g3 c3 V9 HB.out HP.out (by omega) (by omega) S9.out.rd).mono ?_
      rintro e w10 ⟨t, d10, rfl, hd10, b10⟩
      have S10 := Lib.hid (S9.out.next b10); have Y10 := Lib.hid (Y9.out.next b10)
      have x10 := S10.out.cell
      clear b10
      have D10 := Lib.hid hd10
      clear hd10
      go_wp2_with fail
      have CE := pEnd (256 * (kb : Int)) _ g3 c3 w10 aE aR (HS.out.below S10.out.1) HB.out HP.out S10.out.rd
      rw [show 256 * (kb : Int) + 511 = 256 * (kb : Int) + 512 - 1 by omega] at CE
      refine Calls.mono CE ?_
      rintro e w11 ⟨r11, rfl, b11⟩
      have S11 := Lib.hid (S10.out.next b11); have Y11 := Lib.hid (Y10.out.next b11)
      have x11 := S11.out.cell
      clear b11 x10 CE
      go_wp2_with fail
      refine (pPerm _ _ _ g3 c3 w11 HB.out HP.out (by omega) (by omega) S11.out.rd).mono ?_
      rintro e w12 ⟨rfl, b12⟩
      have S12 := Lib.hid (S11.out.next b12); have Y12 := Lib.hid (Y11.out.next b12)
      have x12 := S12.out.cell; have y12 := Y12.out.cell
      clear b12 x11
      have hd8 := D8.out; have hd9 := D9.out; have hd10 := D10.out
      clear D8 D9 D10
      rcases (show p = 0 ∨ p = 1 ∨ p = 2 ∨ p = 3 ∨ p = 4 ∨ p = 5 ∨ p = 6 ∨ p = 7 by omega) with rfl | rfl | rfl | rfl | rfl | rfl | rfl | rfl
      all_goals
        rcases hd8 with ⟨h8, rfl⟩ | ⟨h8, rfl⟩ <;> first | (exact absurd h8 (by decide)) | skip
        rcases hd9 with ⟨h9, rfl, hsame⟩ | ⟨h9, rfl, hsame⟩ <;> first | (exact absurd h9 (by decide)) | skip
        rcases hd10 with ⟨h10, rfl, hsz⟩ | ⟨h10, rfl⟩ <;> first | (exact absurd h10 (by decide)) | skip
        go_wp2_with fail
        refine (pSame _ _ x g3 g9 c3 c9 w12 X9.out Y12.out.rd S12.out.rd).mono ?_
        rintro e w13 ⟨rfl, b13⟩
        have S13 := Lib.hid (S12.out.next b13)
        rw [hsame.out]
        clear b13 x12 y12
        first
          | (have hsz2 : (t.size : Int) = 15 := by omega
             go_wp2)
          | go_wp2
        go_roundw
        case rel => refine ⟨_, ?_, ?_, rfl, Lib.hid S13.out.1⟩ <;> omega
        case measure => simp [intOf]

theorem door_met (os : Os) (args : Array Value) : laidMetH Tryd.prog Rows.fnPermsRow.laid ((World.doorLaid Tryd.prog 400 os).forCall (fun _ _ => 0) ⟨#[], args, []⟩).memory :=
  laidMetH_of_parts3 (fuel := 8) (laidMet_of_run' 8 (by kernel_rfl) (by kernel_rfl)) (by kernel_rfl) (by kernel_rfl)
theorem n_vars {H : Type} {enc : TypeId × Value → H} {P : Program} {w : World} {sp : Nat → Bool} {n1 n2 : String} {gs : List (DataW H)} {ps : List MemPlace} (h : DataW.TrodVars enc P w sp [n1, n2] gs ps) : ∃ g1 g2, gs = [g1, g2] := by
  match gs, h with
  | [], h => exact h.elim
  | [a1], ⟨_, _, _, _, _, _, _, _, _, _, h, _⟩ => exact h.elim
  | [a1, a2], _ => exact ⟨a1, a2, rfl⟩
  | a1 :: a2 :: b :: r, ⟨_, _, _, _, _, _, _, _, _, _, ⟨_, _, _, _, _, _, _, _, _, _, h, _⟩, _⟩ => exact h.elim
/-! ### THE ROW's STEP: WRITTEN OUT: LEAVE IT -/
set_option maxRecDepth 100000 in
theorem lifted (os : Os) (started : os.Started) (H : Type) (enc : TypeId × Value → H) :
    ReturnsInHanded {} Tryd.checked os 4 .any (fun w args => (Rows.fnPermsSpec.pre enc Tryd.prog Tryd.f4 [] false w args ∧ laidMetH Tryd.prog Rows.fnPermsRow.laid w) ∧ sizedMet enc Tryd.prog Tryd.f4 (OpenSpec.ofChange Rows.fnPermsSpec) false w args)
      (Rows.fnPermsSpec.post enc Tryd.prog Tryd.f4 false true false false) := by
  refine returnsInHanded_of_change_and (C := Tryd.checked) (X := fun w _ => laidMetH Tryd.prog Rows.fnPermsRow.laid w) (fun _ _ _ hh h => h.of_heap hh) own started (by kernel_rfl) Tryd.func4
    (ChangeSpec.witness_shaped (enc := enc) (C := Tryd.checked) (os := os) (X := fun w _ => laidMetH Tryd.prog Rows.fnPermsRow.laid w) false (World.doorLaid Tryd.prog 400 os) #[.slice none 0 0, .slice none 0 0] 8 rfl (World.shaped_of_RefB (by kernel_rfl) (by kernel_rfl)) (by kernel_rfl) (by kernel_rfl) (by kernel_rfl) (door_met os _)) ?_
  intro W base args ds gs before hval0 hW _ _ hL _
  have hval : ∀ (j : Nat) t v, Tryd.f4.params[j]? = some t → args[j]? = some v → Value.okWide Tryd.prog W .any base t v := hval0
  have hW' := hW
  obtain ⟨p, q, hA0, hV, rfl, hfz, hnd⟩ := hW
  have hA : DataW.TrodAll enc Tryd.prog W 0 (fun _ => true) true Tryd.f4.params.toList args.toList ds p := hA0
  rw [Tryd.params4] at hA hval
  obtain ⟨v0, vs0, d0, ds0, p0, q0, hargs, rfl, rfl, h0, r0⟩ := trodAll_cons hA
  obtain ⟨v1, vs1, d1, ds1, p1, q1, rfl, rfl, rfl, h1, r1⟩ := trodAll_cons r0
  obtain ⟨rfl, rfl, rfl⟩ := trodAll_nil r1
  obtain rfl : args = #[v0, v1] := by cases args; simp_all
  obtain ⟨g1, g2, rfl⟩ : ∃ g1 g2, gs = [g1, g2] := n_vars hV
  obtain ⟨a0, len0, cap0, rfl⟩ := okWide_slice Tryd.underlying22 (hval 0 22 v0 rfl rfl)
  have k0 := h0
  have lt0 : ∀ x ∈ p0, x.block < W.heap.size := by obtain ⟨m, hm⟩ := k0; exact DataW.trod_lt m _ _ _ hm
  obtain ⟨z0, w0⟩ : ∃ zs, IsRow .u8 W a0 len0 cap0 zs := by
    obtain ⟨fuel, hf⟩ := h0
    rcases open_ints Tryd.underlying22 Tryd.underlying5 (by kernel_rfl) hf with ⟨hcs, _⟩ | ⟨x, l, c, zs, hcs, _, hl, hm, hz, _, hcell, hwz⟩
    · simp [Value.cells] at hcs
      obtain ⟨rfl, rfl, rfl⟩ := hcs
      exact ⟨[], .inl ⟨rfl, rfl, rfl, rfl⟩⟩
    · simp [Value.cells] at hcs
      obtain ⟨rfl, rfl, rfl⟩ := hcs
      exact ⟨zs, .inr ⟨_, rfl, hl, hm, by simpa using hz, hcell, hwz⟩⟩
  obtain ⟨a1, len1, cap1, rfl⟩ := okWide_slice Tryd.underlying22 (hval 1 22 v1 rfl rfl)
  have k1 := h1
  have lt1 : ∀ x ∈ p1, x.block < W.heap.size := by obtain ⟨m, hm⟩ := k1; exact DataW.trod_lt m _ _ _ hm
  obtain ⟨z1, w1⟩ : ∃ zs, IsRow .u8 W a1 len1 cap1 zs := by
    obtain ⟨fuel, hf⟩ := h1
    rcases open_ints Tryd.underlying22 Tryd.underlying5 (by kernel_rfl) hf with ⟨hcs, _⟩ | ⟨x, l, c, zs, hcs, _, hl, hm, hz, _, hcell, hwz⟩
    · simp [Value.cells] at hcs
      obtain ⟨rfl, rfl, rfl⟩ := hcs
      exact ⟨[], .inl ⟨rfl, rfl, rfl, rfl⟩⟩
    · simp [Value.cells] at hcs
      obtain ⟨rfl, rfl, rfl⟩ := hcs
      exact ⟨zs, .inr ⟨_, rfl, hl, hm, by simpa using hz, hcell, hwz⟩⟩
  clear hA0 hval0
  refine (walk a0 len0 cap0 z0 a1 len1 cap1 z1 W w0 w1 hL).mono fun e W' ⟨he, hg⟩ => ?_
  subst he
  exact ⟨_, rfl, _, _, _, [], _, _, hW', trodAll_mk1 (shut_bool Tryd.underlying4 _), (trodAll_cons_mk (Below.trod laidOut (by kernel_rfl) (of_decide_eq_true (by kernel_rfl)) k0 hg lt0) (trodAll_cons_mk (Below.trod laidOut (by kernel_rfl) (of_decide_eq_true (by kernel_rfl)) k1 hg lt1) trodAll_mk0)), Below.trodVars laidOut hg (by kernel_rfl) hV, hg.frame _, fun h => by cases h⟩

theorem over : Rows.fnPermsRow.holds Tryd.pinned (OpenSpec.ofChange Rows.fnPermsSpec) :=
  OpenClaim.holds_of_wide 4 Tryd.f4 rfl rfl rfl rfl rfl rfl rfl ⟨rfl, rfl, rfl, rfl, rfl⟩ rfl rfl rfl rfl rfl (by kernel_rfl) Tryd.func4 (by kernel_rfl)
    (of_decide_eq_true (by kernel_rfl)) (by unfold Func.isWrapper; first | (rw [if_pos (by decide +kernel)]; kernel_rfl) | (rw [if_neg (by decide +kernel)]; exact ⟨rfl, rfl⟩))
    (fun os started H enc _ => lifted os started H enc)

theorem plain (f : FuncId) (fn : Func) (hf : Tryd.pinned.checked.prog.funcNamed "loop.example/g00664/laws.FnPerms" = some f) (hfn : Tryd.pinned.checked.prog.funcs[f]? = some fn) :
    true = Tryd.pinned.checked.prog.looks [] ∧ ∀ (j : Nat) t, fn.params[j]? = some t → Tryd.pinned.checked.prog.wantsStandIn t = false := by
  obtain rfl : f = 4 := Option.some.inj ((show Tryd.prog.funcNamed "loop.example/g00664/laws.FnPerms" = some 4 by kernel_rfl).symm.trans hf) |>.symm
  obtain rfl : fn = Tryd.f4 := (Option.some.inj (Tryd.func4.symm.trans hfn)).symm
  refine ⟨by kernel_rfl, fun j t ht => ?_⟩
  rw [Tryd.params4] at ht
  have hm := Array.mem_of_getElem? ht
  simp only [List.mem_toArray, List.mem_cons, List.not_mem_nil, or_false] at hm
  rcases hm with rfl | rfl
  · exact (show Tryd.prog.wantsStandIn 22 = false by kernel_rfl)
  · exact (show Tryd.prog.wantsStandIn 22 = false by kernel_rfl)
/-- THE CARD -/
theorem card : Rows.FnPermsCardSaid :=
  Claim7.holds_tied_plain_at .later [] _ _ _ _ over (fun _ h => by cases h) (by kernel_rfl) (fun _ h => by cases h) fnPerms_row_tie rfl ⟨rfl, rfl⟩ (by kernel_rfl) rfl plain (by kernel_rfl)
#print axioms card
end Go.Proofs.YtdfmchknpiodkabDoor.fnPerms
