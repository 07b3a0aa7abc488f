/-
  Proved: for every text, laws.FnExactDecodeAll returns true (impl.DecodeAll answers as spec.DecodeAll: every instruction, place and code; its list owns its memory); condition: the tables of shapes and groups and the two sentinels hold what the program's text lays there, which the card ties to that text.
-/
import Derived.Test.YtinjpobepcenfaaDoorCards
import Derived.Test.YtinjpobepcenfaaDoorTie
import Derived.LaidMore
import Derived.Stop.Joined
import Derived.OpenVars
import Derived.WalkKit
import Derived.ProofKit
import Derived.OpenShut
import Derived.ShutString
import Derived.Test.YtinjpobepcenfaaDoorWalkAll
namespace Go.Proofs.YtinjpobepcenfaaDoor.fnExactDecodeAll
open Go.ChangeShapes Go.WideShapes Go.ChangeAt Go.RowKit
open Go.ChangeMaps (open_string shut_string)
set_option linter.unusedVariables false      -- a walk need not use every 'w<i>' (that an integer argument fits its kind)

theorem laidOut : laidOutB Tryd.prog = true := by kernel_rfl
theorem own : ownKnob Tryd.prog.godebug = none := by kernel_rfl

theorem form_own {w : World} {B e s n : Nat} {v : Value} {xs : List Value} (h : w.ownsRow B e s v n xs) : ∃ p c, v = .slice p n c := by
  rcases h.2 with ⟨h1, h2⟩ | ⟨g, cap, cur, e1, _⟩
  · exact ⟨none, 0, by rw [h1, h2]⟩
  · exact ⟨_, _, e1⟩
theorem rdI_grown {w w' : World} {p : Option Addr} {l : List Ins} {row : Option Nat} (h : RdI w p l) (hg : w.grownBy w' row) (hne : ∀ b, p = some ⟨b, 0, none⟩ → l ≠ [] → some b ≠ row) : RdI w' p l := by
  intro k x hk
  obtain ⟨b, rfl, h0, h1⟩ := h k x hk
  have hs := hg.size
  have hl : l ≠ [] := fun e => by rw [e] at hk; simp at hk
  exact ⟨b, rfl, by omega, fun j v hv => (World.cell?_of_block (a := ⟨b, k * 19 + j, none⟩) (hg.block b h0 (hne b rfl hl))).trans (h1 j v hv)⟩
set_option maxHeartbeats 1000000 in
theorem markNil (p : Option Addr) (cap : Nat) (w : World) :
    Calls Tryd.prog 17 #[.slice p 0 cap, .int .i64 1] w fun e w' => e = .returned (.int .i64 1) ∧ w = w' := by
  go_enter Tryd.func17, Tryd.ntmps17
  go_wp2_with fail
  refine wp_loop_rounds 1 ?_
  rw [rounds_succ]
  go_wp2
  go_ret
  exact ⟨rfl, rfl⟩
theorem markAny (p : Option Addr) (cap B : Nat) (l : List Ins) (w : World) (hn : l.length ≤ 65536) (ho : w.ownsRow B 29 19 (.slice p l.length cap) l.length (IV l)) :
    Calls Tryd.prog 17 #[.slice p l.length cap, .int .i64 1] w fun e w' => e = .returned (.int .i64 ((1 + 19 * l.length : Nat) : Int)) ∧ RdI w' p (mkI l.length 1) ∧ w.grownBy w' (Value.slice p l.length cap).ownBlock := by
  by_cases h0 : l.length = 0
  · rw [h0]
    exact (markNil p cap w).mono fun e w' q => ⟨q.1, fun k x hk => by simp [mkI] at hk, by rw [← q.2]; exact World.grownBy.refl _ _⟩
  · obtain ⟨g, c, e1⟩ := Joins.ownsRow_form ho (by omega)
    cases e1
    refine (markInsSC g cap B l 1 w hn (by omega) (by omega) ho).mono fun e w' q => ⟨q.1, RdI.of_own (l := mkI l.length 1) (n := l.length) (cap := cap) q.2.1, q.2.2⟩
theorem daD_len {s : ByteArray} : ∀ (f n : Nat) (l : List Ins), n ≤ s.size → l.length ≤ n → (daD s f n l).1.length ≤ s.size
  | 0, n, l, hn, hl => by unfold daD; simp only; omega
  | f + 1, n, l, hn, hl => by
    unfold daD
    split
    · rename_i h
      split
      · rename_i hc
        obtain ⟨m, hm, h0, hm2⟩ := decX_len hn hc
        rw [hm]
        exact daD_len f (n + m) _ hm2 (by simp; omega)
      · simp
    · simp only; omega
theorem daD_size {s : ByteArray} (h : s.size ≤ 65536) : (daD s s.size 0 []).1.length ≤ 65536 := by
  have := daD_len (s := s) s.size 0 [] (by omega) (by simp)
  omega
set_option maxRecDepth 100000 in
set_option maxHeartbeats 4000000 in
theorem both (a0 : ByteArray) (A : List Ins × Int × Int) (w : World) (hn : A.1.length ≤ 65536)
    (C1 : Hid (∀ W, Calls Tryd.prog 14 #[.string a0] W (AllOut A W)))
    (C2 : Hid (∀ W, Below w.heap.size w W → Calls Tryd.prog 15 #[.string a0] W (AllOut A W))) :
    Calls Tryd.prog 5 #[.string a0] w fun e w' => e = .returned (.bool true) ∧ Below w.heap.size w w' := by
  by_cases hbig : (1048576 : Int) < a0.size
  · clear C1 C2
    go_enter Tryd.func5, Tryd.ntmps5
    go_wp2
    go_ret
    exact ⟨rfl, Below.refl _ _⟩
  obtain ⟨l, a, c⟩ := A
  unfold AllOut at C1 C2
  simp only at C1 C2 hn
  have CM := Lib.hid markAny; have CQ := Lib.hid eqInsSC; have CH := Lib.hid heldInsSC
  have hnn : (l.length : Int) ≤ 65536 := by omega
  have HN := Lib.hid hn
  clear hn
  go_enter Tryd.func5, Tryd.ntmps5
  go_wp2_with fail
  refine (C1.out _).mono ?_
  rintro e w1 ⟨v1, rfl, o1, b1⟩
  obtain ⟨p1, c1, rfl⟩ := form_own o1
  have O1 := Lib.hid o1; have B1 := Lib.hid b1
  clear o1 b1
  go_wp2_with fail
  refine (C2.out _ B1.out).mono ?_
  rintro e w2 ⟨v2, rfl, o2, b2⟩
  obtain ⟨p2, c2, rfl⟩ := form_own o2
  have O2 := Lib.hid o2; have B2 := Lib.hid (B1.out.trans (b2.mono B1.out.size))
  have R1 := Lib.hid ((RdI.of_own O1.out).below b2)
  have S1 := Lib.hid (show ∀ b, p1 = some ⟨b, 0, none⟩ → l ≠ [] → b < w1.heap.size from fun b e hl => (O1.out.lt b (by rw [e]; rfl)).2)
  clear o2 b2
  go_wp2_with fail
  refine (CQ.out p2 p1 c2 c1 l _ HN.out (RdI.of_own O2.out) R1.out).mono ?_
  rintro e w3 ⟨rfl, b3⟩
  have B3 := Lib.hid (B2.out.trans (b3.mono B2.out.size))
  have O3 := Lib.hid (own_belowI O2.out b3); have R3 := Lib.hid (R1.out.below b3)
  clear b3
  go_wp2_with fail
  refine (CM.out p2 c2 w1.heap.size l _ HN.out O3.out).mono ?_
  rintro e w4 ⟨rfl, r4, g4⟩
  have M4 := Lib.hid r4
  have R4 := Lib.hid (rdI_grown R3.out g4 (fun b e hl e2 => by
    have h1 := S1.out b e hl
    have h2 := (O3.out.lt b e2.symm).1
    omega))
  have B4 := Lib.hid (Below.grown B3.out g4 B3.out.size (fun k hk => by have h1 := (O3.out.lt k hk).1; have h2 := B1.out.size; omega))
  clear r4 g4
  go_wp2_with fail
  refine (CH.out p2 c2 l 1 _ HN.out (by omega) (by omega) M4.out).mono ?_
  rintro e w5 ⟨rfl, b5⟩
  have B5 := Lib.hid (B4.out.trans (b5.mono B4.out.size))
  have M5 := Lib.hid (M4.out.below b5); have R5 := Lib.hid (R4.out.below b5)
  clear b5
  go_wp2_with fail
  refine (C2.out _ B5.out).mono ?_
  rintro e w6 ⟨v3, rfl, o3, b6⟩
  obtain ⟨p3, c3, rfl⟩ := form_own o3
  have B6 := Lib.hid (B5.out.trans (b6.mono B5.out.size))
  have M6 := Lib.hid (M5.out.below b6); have R6 := Lib.hid (R5.out.below b6); have Q6 := Lib.hid (RdI.of_own o3)
  clear b6 o3
  go_wp2_with fail
  refine (CQ.out p3 p1 c3 c1 l _ HN.out Q6.out R6.out).mono ?_
  rintro e w7 ⟨rfl, b7⟩
  have B7 := Lib.hid (B6.out.trans (b7.mono B6.out.size)); have M7 := Lib.hid (M6.out.below b7)
  clear b7
  go_wp2_with fail
  refine (CH.out p2 c2 l 1 _ HN.out (by omega) (by omega) M7.out).mono ?_
  rintro e w8 ⟨rfl, b8⟩
  have B8 := Lib.hid (B7.out.trans (b8.mono B7.out.size))
  clear b8
  go_wp2
  go_ret
  exact ⟨rfl, B8.out⟩
theorem walk (a0 : ByteArray) (w0 : a0.size ≤ maxLen) (w : World) (hL : laidMetH Tryd.prog Rows.fnExactDecodeAllRow.laid w) :
    Calls Tryd.prog 5 #[.string a0] w fun e w' => e = .returned (.bool true) ∧ Below w.heap.size w w' := by
  obtain ⟨aE, aR, hs⟩ := met_sent (W := w) (q := Rows.fnExactDecodeAllRow.laid) (by kernel_rfl) hL
  have hA := met_arith (W := w) (q := Rows.fnExactDecodeAllRow.laid) (by kernel_rfl) hL
  have hG := met_groups (W := w) (q := Rows.fnExactDecodeAllRow.laid) (by kernel_rfl) hL
  clear hL
  by_cases h : 65536 < a0.size
  · refine both a0 ([], 0, 2) w (by simp) (Lib.hid fun W => allSLong a0 W h w0) (Lib.hid fun W hW => allILong a0 W h w0 (Lib.hid ?_))
    have := decI a0 0 W aE aR w0 (hs.below hW) (hA.below hW) (hG.below hW)
    unfold AnsOut at this
    rw [decW_long h] at this
    exact this
  · have h' : a0.size ≤ 65536 := by omega
    refine both a0 (daD a0 a0.size 0 []) w (daD_size h') (Lib.hid fun W => allS a0 W h' (Lib.hid fun n W2 hn => ?_)) (Lib.hid fun W hW => allI a0 W h' (Lib.hid fun n W2 hn hb => ?_))
    · have := l04C a0 n W2 h' hn
      unfold AnsOut at this
      rw [decD_X] at this
      exact this
    · have hb2 := hW.trans (hb.mono hW.size)
      have := decI a0 n W2 aE aR w0 (hs.below hb2) (hA.below hb2) (hG.below hb2)
      unfold AnsOut at this
      rw [decW_in h' hn, decD_X] at this
      exact this

theorem door_met (os : Os) (args : Array Value) : laidMetH Tryd.prog Rows.fnExactDecodeAllRow.laid ((World.doorLaid Tryd.prog 400 os).forCall (fun _ _ => 0) ⟨#[], args, []⟩).memory :=
  laidMetH_of_parts3 (fuel := 8) (laidMet_of_run' 8 (by kernel_rfl) (by kernel_rfl)) (by kernel_rfl) (by kernel_rfl)
theorem n_vars {H : Type} {enc : TypeId × Value → H} {P : Program} {w : World} {sp : Nat → Bool} {n1 n2 n3 n4 : String} {gs : List (DataW H)} {ps : List MemPlace} (h : DataW.TrodVars enc P w sp [n1, n2, n3, n4] gs ps) : ∃ g1 g2 g3 g4, gs = [g1, g2, g3, g4] := by
  match gs, h with
  | [], h => exact h.elim
  | [a1], ⟨_, _, _, _, _, _, _, _, _, _, h, _⟩ => exact h.elim
  | [a1, a2], ⟨_, _, _, _, _, _, _, _, _, _, ⟨_, _, _, _, _, _, _, _, _, _, h, _⟩, _⟩ => exact h.elim
  | [a1, a2, a3], ⟨_, _, _, _, _, _, _, _, _, _, ⟨_, _, _, _, _, _, _, _, _, _, ⟨_, _, _, _, _, _, _, _, _, _, h, _⟩, _⟩, _⟩ => exact h.elim
  | [a1, a2, a3, a4], _ => exact ⟨a1, a2, a3, a4, rfl⟩
  | a1 :: a2 :: a3 :: a4 :: b :: r, ⟨_, _, _, _, _, _, _, _, _, _, ⟨_, _, _, _, _, _, _, _, _, _, ⟨_, _, _, _, _, _, _, _, _, _, ⟨_, _, _, _, _, _, _, _, _, _, h, _⟩, _⟩, _⟩, _⟩ => exact h.elim
/-! ### THE ROW's STEP: WRITTEN OUT: LEAVE IT -/
set_option maxRecDepth 100000 in
theorem lifted (os : Os) (started : os.Started) (H : Type) (enc : TypeId × Value → H) :
    ReturnsInHanded {} Tryd.checked os 5 .any (fun w args => (Rows.fnExactDecodeAllSpec.pre enc Tryd.prog Tryd.f5 [] false w args ∧ laidMetH Tryd.prog Rows.fnExactDecodeAllRow.laid w) ∧ sizedMet enc Tryd.prog Tryd.f5 (OpenSpec.ofChange Rows.fnExactDecodeAllSpec) false w args)
      (Rows.fnExactDecodeAllSpec.post enc Tryd.prog Tryd.f5 false true false false) := by
  refine returnsInHanded_of_change_and (C := Tryd.checked) (X := fun w _ => laidMetH Tryd.prog Rows.fnExactDecodeAllRow.laid w) (fun _ _ _ hh h => h.of_heap hh) own started (by kernel_rfl) Tryd.func5
    (ChangeSpec.witness_shaped (enc := enc) (C := Tryd.checked) (os := os) (X := fun w _ => laidMetH Tryd.prog Rows.fnExactDecodeAllRow.laid w) false (World.doorLaid Tryd.prog 400 os) #[.string ByteArray.empty] 8 rfl (World.shaped_of_RefB (by kernel_rfl) (by kernel_rfl)) (by kernel_rfl) (by kernel_rfl) (by kernel_rfl) (door_met os _)) ?_
  intro W base args ds gs before hval0 hW _ _ hL _
  have hval : ∀ (j : Nat) t v, Tryd.f5.params[j]? = some t → args[j]? = some v → Value.okWide Tryd.prog W .any base t v := hval0
  have hW' := hW
  obtain ⟨p, q, hA0, hV, rfl, hfz, hnd⟩ := hW
  have hA : DataW.TrodAll enc Tryd.prog W 0 (fun _ => true) true Tryd.f5.params.toList args.toList ds p := hA0
  rw [Tryd.params5] at hA hval
  obtain ⟨v0, vs0, d0, ds0, p0, q0, hargs, rfl, rfl, h0, r0⟩ := trodAll_cons hA
  obtain ⟨rfl, rfl, rfl⟩ := trodAll_nil r0
  obtain rfl : args = #[v0] := by cases args; simp_all
  obtain ⟨g1, g2, g3, g4, rfl⟩ : ∃ g1 g2 g3 g4, gs = [g1, g2, g3, g4] := n_vars hV
  obtain ⟨a0, rfl, rfl, rfl, w0⟩ := open_string Tryd.underlying9 (hval 0 9 v0 rfl rfl) h0
  clear hA0 hval0
  refine (walk a0 w0 W hL).mono fun e W' ⟨he, hg⟩ => ?_
  subst he
  exact ⟨_, rfl, _, _, _, [], _, _, hW', (trodAll_cons_mk (shut_bool Tryd.underlying4 _) trodAll_mk0), (trodAll_cons_mk (shut_string Tryd.underlying9 w0) trodAll_mk0), Below.trodVars laidOut hg (by kernel_rfl) hV, hg.frame _, fun h => by cases h⟩

theorem over : Rows.fnExactDecodeAllRow.holds Tryd.pinned (OpenSpec.ofChange Rows.fnExactDecodeAllSpec) :=
  OpenClaim.holds_of_wide 5 Tryd.f5 rfl rfl rfl rfl rfl rfl rfl ⟨rfl, rfl, rfl, rfl, rfl⟩ rfl rfl rfl rfl rfl (by kernel_rfl) Tryd.func5 (by kernel_rfl)
    (of_decide_eq_true (by kernel_rfl)) (by unfold Func.isWrapper; first | (rw [if_pos (by decide +kernel)]; kernel_rfl) | (rw [if_neg (by decide +kernel)]; exact ⟨rfl, rfl⟩))
    (fun os started H enc _ => lifted os started H enc)

theorem plain (f : FuncId) (fn : Func) (hf : Tryd.pinned.checked.prog.funcNamed "loop.example/g00664/laws.FnExactDecodeAll" = some f) (hfn : Tryd.pinned.checked.prog.funcs[f]? = some fn) :
    false = Tryd.pinned.checked.prog.looks [] ∧ ∀ (j : Nat) t, fn.params[j]? = some t → Tryd.pinned.checked.prog.wantsStandIn t = false := by
  obtain rfl : f = 5 := Option.some.inj ((show Tryd.prog.funcNamed "loop.example/g00664/laws.FnExactDecodeAll" = some 5 by kernel_rfl).symm.trans hf) |>.symm
  obtain rfl : fn = Tryd.f5 := (Option.some.inj (Tryd.func5.symm.trans hfn)).symm
  refine ⟨by kernel_rfl, fun j t ht => ?_⟩
  rw [Tryd.params5] at ht
  have hm := Array.mem_of_getElem? ht
  simp only [List.mem_toArray, List.mem_cons, List.not_mem_nil, or_false] at hm
  rcases hm with rfl
  · exact (show Tryd.prog.wantsStandIn 9 = false by kernel_rfl)
/-- THE CARD -/
theorem card : Rows.FnExactDecodeAllCardSaid :=
  Claim7.holds_tied_plain_at .later [] _ _ _ _ over (fun _ h => by cases h) (by kernel_rfl) (fun _ h => by cases h) fnExactDecodeAll_row_tie rfl ⟨rfl, rfl⟩ (by kernel_rfl) rfl plain (by kernel_rfl)
#print axioms card
end Go.Proofs.YtinjpobepcenfaaDoor.fnExactDecodeAll
