/-
  Proved: for every text, laws.FnExactReadElf returns true (impl.ReadElf answers as spec.ReadElf, every field, every segment and the code, and its answer owns its memory); condition: the library's own variable of errors.As holds what Go's text lays there, which the card ties to that text.
-/
import Derived.Test.YtcchcinnjahghaaDoorCards
import Derived.Test.YtcchcinnjahghaaDoorTie
import Derived.LaidMore
import Derived.Stop.Joined
import Derived.OpenVars
import Derived.WalkKit
import Derived.ProofKit
import Derived.OpenShut
import Derived.ShutString
import Derived.Test.YtcchcinnjahghaaDoorWalkRw
import Derived.Test.YtcchcinnjahghaaDoorWalkMkSg
namespace Go.Proofs.YtcchcinnjahghaaDoor.fnExactReadElf
open Go.ChangeShapes Go.WideShapes Go.ChangeAt Go.RowKit
open Go.ChangeMaps (open_string shut_string)
set_option linter.unusedVariables false      -- a walk need not use every 'w<i>' (that an integer argument fits its kind)

theorem laidOut : laidOutB Tryd.prog = true := by kernel_rfl
theorem own : ownKnob Tryd.prog.godebug = none := by kernel_rfl

theorem imFar {W W' : World} {g : Nat} {n : Int} {p : Option Addr} {len cap : Nat} {row : Option Nat} (h : ImAt W g n p len cap) (hg : W.grownBy W' row) (hne : some g ≠ row) : ImAt W' g n p len cap :=
  ⟨by have := h.1; have := hg.size; omega, (hg.cell_far ⟨g, 0, none⟩ h.1 hne).trans h.2.1, (hg.cell_far ⟨g, 1, none⟩ h.1 hne).trans h.2.2⟩
set_option maxRecDepth 20000 in
set_option maxHeartbeats 2000000 in
theorem both (a0 : ByteArray) (w : World) (hg : EtOk w) :
    Calls Tryd.prog 3 #[.string a0] w fun e w' => e = .returned (.bool true) ∧ Below w.heap.size w w' := by
  by_cases hbig : (1048576 : Int) < a0.size
  · clear hg
    go_enter Tryd.func3, Tryd.ntmps3
    go_wp2
    go_ret
    exact ⟨rfl, Below.refl _ _⟩
  have HG := Lib.hid hg
  have C1 := Lib.hid (fun w => rdS a0 w)
  have C2 := Lib.hid (fun W hW => rdI a0 W hW)
  have hbg : decide ((1048576 : Int) < a0.size) = false := decide_eq_false hbig
  clear hg hbig
  go_enter Tryd.func3, Tryd.ntmps3
  go_wp2_with fail
  refine (C1.out _).mono ?_
  rintro e w3 ⟨⟨X, l, c, q3, cap3, hd, rfl, own3⟩, b3⟩
  have HS := Lib.hid hd.small
  have HL : l.length ≤ 9223372036854775807 := by have := HS.out.1; omega
  obtain ⟨V3, hV3⟩ : ∃ V, V = w3.alloc (.cells #[.int .i64 X, .slice q3 l.length cap3] 24) := ⟨_, rfl⟩
  have s3 : V3.heap.size = w3.heap.size + 1 := by rw [hV3]; simp
  have S3 := Lib.hid s3
  have z3 := Lib.hid b3.size
  have L3 : Hid (Below w.heap.size w V3) := Lib.hid (by rw [hV3]; exact bthenS b3 (belowA _ _))
  have I3 : Hid (ImAt V3 w3.heap.size X q3 l.length cap3) := Lib.hid (by rw [hV3]; exact ImAt.new _ _ _ _ _ _)
  have O3 := Lib.hid (show V3.ownsRow w.heap.size 61 4 (.slice q3 l.length cap3) l.length (SV l) from by rw [hV3]; exact own_below own3 (belowA _ _))
  have F3 : Hid (∀ j, (Value.slice q3 l.length cap3).ownBlock = some j → j < w3.heap.size) := Lib.hid (fun j hj => (own3.lt j hj).2)
  have HD := Lib.hid hd
  have HV3 := Lib.hid hV3
  clear hd own3 b3 hV3 s3
  go_wp2_with fail
  rw [← HV3.out]
  refine (C2.out _ (HG.out.next L3.out)).mono ?_
  rintro e w5 ⟨⟨X', l', c', q5, cap5, hd', rfl, own5⟩, b5⟩
  obtain ⟨rfl, rfl, rfl⟩ := HD.out.one hd'
  obtain ⟨V5, hV5⟩ : ∃ V, V = w5.alloc (.cells #[.int .i64 X, .slice q5 l.length cap5] 24) := ⟨_, rfl⟩
  have z5 := Lib.hid b5.size
  have L5 : Hid (Below w.heap.size w V5) := Lib.hid (by rw [hV5]; exact bthenS (bthenS L3.out b5) (belowA _ _))
  have I3' : Hid (ImAt V5 w3.heap.size X q3 l.length cap3) := Lib.hid (by rw [hV5]; exact (I3.out.next b5).next (belowA _ _))
  have O3' := Lib.hid (show V5.ownsRow w.heap.size 61 4 (.slice q3 l.length cap3) l.length (SV l) from by rw [hV5]; exact own_below (own_below O3.out b5) (belowA _ _))
  have I5 : Hid (ImAt V5 w5.heap.size X q5 l.length cap5) := Lib.hid (by rw [hV5]; exact ImAt.new _ _ _ _ _ _)
  have O5 := Lib.hid (show V5.ownsRow V3.heap.size 61 4 (.slice q5 l.length cap5) l.length (SV l) from by rw [hV5]; exact own_below own5 (belowA _ _))
  have F5 : Hid (∀ j, (Value.slice q5 l.length cap5).ownBlock = some j → V3.heap.size ≤ j ∧ j < w5.heap.size) := Lib.hid (fun j hj => own5.lt j hj)
  have s5 : V5.heap.size = w5.heap.size + 1 := by rw [hV5]; simp
  have S5 := Lib.hid s5
  obtain ⟨x0, x1, x2⟩ := (I3.out.next b5)
  have HV5 := Lib.hid hV5
  clear hd' own5 b5 hV5 L3 I3 O3 s5
  go_wp2_with fail
  rw [← HV5.out]
  refine (eqImgC X q5 q3 cap5 cap3 l V5 HL (RdS.of_own O5.out) (RdS.of_own O3'.out)).mono ?_
  rintro e w6 ⟨rfl, b6⟩
  have L6 := Lib.hid (bthenS L5.out b6); have I3b := Lib.hid (I3'.out.next b6); have O3b := Lib.hid (own_below O3'.out b6); have I5b := Lib.hid (I5.out.next b6); have O5b := Lib.hid (own_below O5.out b6)
  clear b6 L5 I3' O3' I5 O5 x0 x1 x2
  obtain ⟨y0, y1, y2⟩ := I5b.out
  have CM := Lib.hid (markAnyS X q5 cap5 V3.heap.size l w6 (by have := HS.out.1; omega) O5b.out)
  have CH := Lib.hid (fun W hr => heldImgC X q5 cap5 l W (by have := HS.out.1; omega) hr)
  obtain ⟨K, hK⟩ : ∃ K : Nat, K = 1 + 4 * l.length := ⟨_, rfl⟩
  rw [← hK] at CM CH
  have hKd : decide ((K : Int) < 0) = false := decide_eq_false (by omega)
  clear hK
  go_wp2_with fail
  refine (CM.out).mono ?_
  rintro e w7 ⟨rfl, o7, g7⟩
  have L7 := Lib.hid (L6.out.grown g7 L6.out.size (fun j hj => by have := (F5.out j hj).1; have := S3.out; have := z3.out; omega))
  have I3c : Hid (ImAt w7 w3.heap.size X q3 l.length cap3) := Lib.hid (imFar I3b.out g7 (fun e => by have := (F5.out _ e.symm).1; have := S3.out; omega))
  have I5c : Hid (ImAt w7 w5.heap.size X q5 l.length cap5) := Lib.hid (imFar I5b.out g7 (fun e => by have := (F5.out _ e.symm).2; omega))
  have O3c := Lib.hid (own_far O3b.out g7 (by
    by_cases h : (Value.slice q3 l.length cap3).ownBlock = none
    · exact .inl h
    · refine .inr (fun e => ?_)
      obtain ⟨j, hj⟩ := Option.ne_none_iff_exists'.1 h
      have h1 := F3.out j hj
      have h2 := (F5.out j (e.symm.trans hj)).1
      have := S3.out
      omega))
  have R5c := Lib.hid (show RdS w7 q5 (mkdS l 1) from by
    have o8 := o7
    rw [← mkdS_len l 1] at o8
    exact RdS.of_own o8)
  clear o7 g7 CM y0 y1 y2 L6 I3b O3b I5b O5b
  obtain ⟨y0, y1, y2⟩ := I5c.out
  go_wp2_with fail
  refine (CH.out _ R5c.out).mono ?_
  rintro e w8 ⟨rfl, b8⟩
  have L8 := Lib.hid (bthenS L7.out b8); have I3d := Lib.hid (I3c.out.next b8); have O3d := Lib.hid (own_below O3c.out b8); have I5d := Lib.hid (I5c.out.next b8); have R5d := Lib.hid (R5c.out.below b8)
  clear b8 y0 y1 y2 L7 I3c O3c I5c R5c
  go_wp2_with fail
  refine (C2.out _ (HG.out.next L8.out)).mono ?_
  rintro e w9 ⟨⟨X', l', c', q9, cap9, hd', rfl, own9⟩, b9⟩
  obtain ⟨rfl, rfl, rfl⟩ := HD.out.one hd'
  obtain ⟨V9, hV9⟩ : ∃ V, V = w9.alloc (.cells #[.int .i64 X, .slice q9 l.length cap9] 24) := ⟨_, rfl⟩
  have L9 : Hid (Below w.heap.size w V9) := Lib.hid (by rw [hV9]; exact bthenS (bthenS L8.out b9) (belowA _ _))
  have O3e := Lib.hid (show V9.ownsRow w.heap.size 61 4 (.slice q3 l.length cap3) l.length (SV l) from by rw [hV9]; exact own_below (own_below O3d.out b9) (belowA _ _))
  have I5e : Hid (ImAt V9 w5.heap.size X q5 l.length cap5) := Lib.hid (by rw [hV9]; exact (I5d.out.next b9).next (belowA _ _))
  have R5e : Hid (RdS V9 q5 (mkdS l 1)) := Lib.hid (by rw [hV9]; exact (R5d.out.below b9).below (belowA _ _))
  have O9 := Lib.hid (show V9.ownsRow w8.heap.size 61 4 (.slice q9 l.length cap9) l.length (SV l) from by rw [hV9]; exact own_below own9 (belowA _ _))
  obtain ⟨x0, x1, x2⟩ := (I3d.out.next b9)
  have HV9 := Lib.hid hV9
  clear hd' own9 b9 hV9 L8 I3d O3d I5d R5d
  go_wp2_with fail
  rw [← HV9.out]
  refine (eqImgC X q9 q3 cap9 cap3 l V9 HL (RdS.of_own O9.out) (RdS.of_own O3e.out)).mono ?_
  rintro e wa ⟨rfl, ba⟩
  have La := Lib.hid (bthenS L9.out ba); have I5f := Lib.hid (I5e.out.next ba); have R5f := Lib.hid (R5e.out.below ba)
  clear ba L9 O3e I5e R5e O9 x0 x1 x2
  obtain ⟨y0, y1, y2⟩ := I5f.out
  go_wp2_with fail
  refine (CH.out _ R5f.out).mono ?_
  rintro e wb ⟨rfl, bb⟩
  have Lb := Lib.hid (bthenS La.out bb)
  clear bb y0 y1 y2 La I5f R5f
  go_wp2
  go_ret
  exact ⟨rfl, Lb.out⟩
theorem walk (a0 : ByteArray) (w0 : a0.size ≤ maxLen) (w : World) (hL : laidMetH Tryd.prog Rows.fnExactReadElfRow.laid w) :
    Calls Tryd.prog 3 #[.string a0] w fun e w' => e = .returned (.bool true) ∧ Below w.heap.size w w' := by
  exact both a0 w (et_of_laid rfl hL)

theorem door_met (os : Os) (args : Array Value) : laidMetH Tryd.prog Rows.fnExactReadElfRow.laid ((World.doorLaid Tryd.prog 400 os).forCall (fun _ _ => 0) ⟨#[], args, []⟩).memory :=
  laidMetH_of_parts3 (fuel := 8) (laidMet_of_run' 8 (by kernel_rfl) (by kernel_rfl)) (by kernel_rfl) (by kernel_rfl)
theorem n_vars {H : Type} {enc : TypeId × Value → H} {P : Program} {w : World} {sp : Nat → Bool} {n1 n2 : String} {gs : List (DataW H)} {ps : List MemPlace} (h : DataW.TrodVars enc P w sp [n1, n2] gs ps) : ∃ g1 g2, gs = [g1, g2] := by
  match gs, h with
  | [], h => exact h.elim
  | [a1], ⟨_, _, _, _, _, _, _, _, _, _, h, _⟩ => exact h.elim
  | [a1, a2], _ => exact ⟨a1, a2, rfl⟩
  | a1 :: a2 :: b :: r, ⟨_, _, _, _, _, _, _, _, _, _, ⟨_, _, _, _, _, _, _, _, _, _, h, _⟩, _⟩ => exact h.elim
/-! ### THE ROW's STEP: WRITTEN OUT: LEAVE IT -/
set_option maxRecDepth 100000 in
theorem lifted (os : Os) (started : os.Started) (H : Type) (enc : TypeId × Value → H) :
    ReturnsInHanded {} Tryd.checked os 3 .any (fun w args => (Rows.fnExactReadElfSpec.pre enc Tryd.prog Tryd.f3 [] false w args ∧ laidMetH Tryd.prog Rows.fnExactReadElfRow.laid w) ∧ sizedMet enc Tryd.prog Tryd.f3 (OpenSpec.ofChange Rows.fnExactReadElfSpec) false w args)
      (Rows.fnExactReadElfSpec.post enc Tryd.prog Tryd.f3 false true false false) := by
  refine returnsInHanded_of_change_and (C := Tryd.checked) (X := fun w _ => laidMetH Tryd.prog Rows.fnExactReadElfRow.laid w) (fun _ _ _ hh h => h.of_heap hh) own started (by kernel_rfl) Tryd.func3
    (ChangeSpec.witness_shaped (enc := enc) (C := Tryd.checked) (os := os) (X := fun w _ => laidMetH Tryd.prog Rows.fnExactReadElfRow.laid w) false (World.doorLaid Tryd.prog 400 os) #[.string ByteArray.empty] 8 rfl (World.shaped_of_RefB (by kernel_rfl) (by kernel_rfl)) (by kernel_rfl) (by kernel_rfl) (by kernel_rfl) (door_met os _)) ?_
  intro W base args ds gs before hval0 hW _ _ hL _
  have hval : ∀ (j : Nat) t v, Tryd.f3.params[j]? = some t → args[j]? = some v → Value.okWide Tryd.prog W .any base t v := hval0
  have hW' := hW
  obtain ⟨p, q, hA0, hV, rfl, hfz, hnd⟩ := hW
  have hA : DataW.TrodAll enc Tryd.prog W 0 (fun _ => true) true Tryd.f3.params.toList args.toList ds p := hA0
  rw [Tryd.params3] at hA hval
  obtain ⟨v0, vs0, d0, ds0, p0, q0, hargs, rfl, rfl, h0, r0⟩ := trodAll_cons hA
  obtain ⟨rfl, rfl, rfl⟩ := trodAll_nil r0
  obtain rfl : args = #[v0] := by cases args; simp_all
  obtain ⟨g1, g2, rfl⟩ : ∃ g1 g2, gs = [g1, g2] := n_vars hV
  obtain ⟨a0, rfl, rfl, rfl, w0⟩ := open_string Tryd.underlying9 (hval 0 9 v0 rfl rfl) h0
  clear hA0 hval0
  refine (walk a0 w0 W hL).mono fun e W' ⟨he, hg⟩ => ?_
  subst he
  exact ⟨_, rfl, _, _, _, [], _, _, hW', (trodAll_cons_mk (shut_bool Tryd.underlying4 _) trodAll_mk0), (trodAll_cons_mk (shut_string Tryd.underlying9 w0) trodAll_mk0), Below.trodVars laidOut hg (by kernel_rfl) hV, hg.frame _, fun h => by cases h⟩

theorem over : Rows.fnExactReadElfRow.holds Tryd.pinned (OpenSpec.ofChange Rows.fnExactReadElfSpec) :=
  OpenClaim.holds_of_wide 3 Tryd.f3 rfl rfl rfl rfl rfl rfl rfl ⟨rfl, rfl, rfl, rfl, rfl⟩ rfl rfl rfl rfl rfl (by kernel_rfl) Tryd.func3 (by kernel_rfl)
    (of_decide_eq_true (by kernel_rfl)) (by unfold Func.isWrapper; first | (rw [if_pos (by decide +kernel)]; kernel_rfl) | (rw [if_neg (by decide +kernel)]; exact ⟨rfl, rfl⟩))
    (fun os started H enc _ => lifted os started H enc)

theorem plain (f : FuncId) (fn : Func) (hf : Tryd.pinned.checked.prog.funcNamed "loop.example/g00664/laws.FnExactReadElf" = some f) (hfn : Tryd.pinned.checked.prog.funcs[f]? = some fn) :
    true = Tryd.pinned.checked.prog.looks [] ∧ ∀ (j : Nat) t, fn.params[j]? = some t → Tryd.pinned.checked.prog.wantsStandIn t = false := by
  obtain rfl : f = 3 := Option.some.inj ((show Tryd.prog.funcNamed "loop.example/g00664/laws.FnExactReadElf" = some 3 by kernel_rfl).symm.trans hf) |>.symm
  obtain rfl : fn = Tryd.f3 := (Option.some.inj (Tryd.func3.symm.trans hfn)).symm
  refine ⟨by kernel_rfl, fun j t ht => ?_⟩
  rw [Tryd.params3] at ht
  have hm := Array.mem_of_getElem? ht
  simp only [List.mem_toArray, List.mem_cons, List.not_mem_nil, or_false] at hm
  rcases hm with rfl
  · exact (show Tryd.prog.wantsStandIn 9 = false by kernel_rfl)
/-- THE CARD -/
theorem card : Rows.FnExactReadElfCardSaid :=
  Claim7.holds_tied_plain_at .later [] _ _ _ _ over (fun _ h => by cases h) (by kernel_rfl) (fun _ h => by cases h) fnExactReadElf_row_tie rfl ⟨rfl, rfl⟩ (by kernel_rfl) rfl plain (by kernel_rfl)
#print axioms card
end Go.Proofs.YtcchcinnjahghaaDoor.fnExactReadElf
