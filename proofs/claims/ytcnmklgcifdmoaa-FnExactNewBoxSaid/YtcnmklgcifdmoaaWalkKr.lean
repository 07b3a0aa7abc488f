/-
  A region that draws its order, whose operations leave all that was there as it was: what each slot holds is told by a predicate that later worlds keep, so one look at each operation serves every order (a new row's address may be any). No program; no condition but those in each head.
-/
import Derived.Test.YtcnmklgcifdmoaaWalkLast
import Derived.Below
namespace Go.Proofs.Ytcnmklgcifdmoaa
open Go Go.RowKit
set_option linter.unusedVariables false
set_option linter.unusedSimpArgs false
/-- all that was in w is in w' as it was -/
abbrev Ext (w w' : World) : Prop := Below w.heap.size w w'
theorem Ext.trans' {a b c : World} (h : Ext a b) (k : Ext b c) : Ext a c := Below.trans h (k.mono h.size)
/-- what the slot of operation j holds -/
def holdsK (ops : Array Oper) (Vs : List (World → Value → Prop)) (a : Act) (w : World) (j : Nat) : Prop :=
  ∀ o V d, ops[j]? = some o → Vs[j]? = some V → o.dst = some d → V w (a.tmps.getD d undef)
def SameK (ops : Array Oper) (a0 a : Act) : Prop := a.defers = a0.defers ∧ a.tmps.size = a0.tmps.size ∧ ∀ k, (∀ (j : Nat) o, ops[j]? = some o → o.dst ≠ some k) → a.tmps[k]? = a0.tmps[k]?
def upK (P : Program) (R : World → Value → Prop) : Result Next → Prop
  | .ok (.value v) w' => R w' v
  | .ok .skip w' => R w' undef
  | .ok (.enter f args) w' => Calls P f args w' (fun e w'' => ∃ v, e = .returned v ∧ R w'' v)
  | _ => False
def StepK (P : Program) (ops : Array Oper) (Vs : List (World → Value → Prop)) (a0 : Act) (w0 : World) (i : Nat) : Prop :=
  ∀ o V, ops[i]? = some o → Vs[i]? = some V → ∀ a w, Ext w0 w → SameK ops a0 a → (∀ e ∈ o.after, Region.binds .any e = true → holdsK ops Vs a w e.on) → upK P (fun w' v => Ext w w' ∧ V w' v) ((execOp a.eval o).run P w)
theorem cnt_set : ∀ (l : List Bool) (i : Nat), l[i]? = some false → (l.set i true).count false + 1 = l.count false
  | [], i, h => by simp at h
  | b :: l, 0, h => by simp at h; subst h; simp
  | b :: l, i + 1, h => by
    have := cnt_set l i (by simpa using h)
    simp only [List.set_cons_succ, List.count_cons]
    omega
/-- no two operations yield into one slot -/
def apartB (L : List Oper) : Bool := (List.range L.length).all fun i => (List.range L.length).all fun j => i == j || (match (L[i]?).bind (·.dst), (L[j]?).bind (·.dst) with | some x, some y => x != y | _, _ => true)
theorem apart_of {L : List Oper} (h : apartB L = true) {i j : Nat} {oi oj : Oper} {d : Tmp} (hi : L[i]? = some oi) (hj : L[j]? = some oj) (di : oi.dst = some d) (dj : oj.dst = some d) : i = j := by
  have h1 := List.all_eq_true.1 h i (List.mem_range.2 (List.getElem?_eq_some_iff.1 hi).1)
  have h2 := List.all_eq_true.1 h1 j (List.mem_range.2 (List.getElem?_eq_some_iff.1 hj).1)
  rw [hi, hj] at h2
  simp [di, dj] at h2
  exact h2
section
variable {P : Program} {Q : Exit → Act → World → Prop}
theorem wpAny_kr {a0 : Act} {w0 : World} {L : List Oper} (Vs : List (World → Value → Prop)) (hlen : Vs.length = L.length) (hb : backB L = true) (hg : L.all (fun o => o.guard.isNone) = true) (ha : apartB L = true)
    (hz : ∀ (j : Nat) o d, L[j]? = some o → o.dst = some d → d < a0.tmps.size) (hmono : ∀ (j : Nat) V, Vs[j]? = some V → ∀ w w' v, Ext w w' → V w v → V w' v)
    (hstep : ∀ i, i < L.length → StepK P L.toArray Vs a0 w0 i) (hQ : ∀ a w, Ext w0 w → SameK L.toArray a0 a → (∀ j, j < L.length → holdsK L.toArray Vs a w j) → Q .normal a w) :
    ∀ (fuel : Nat) (listed : Array Bool) (a : Act) (w : World), listed.size = L.length → listed.toList.count false ≤ fuel → Ext w0 w → SameK L.toArray a0 a → (∀ j, listed.getD j false = true → holdsK L.toArray Vs a w j) → wpAny P .any L.toArray Q fuel listed a w := by
  have fin : ∀ (listed : Array Bool) (a : Act) (w : World), listed.size = L.length → Ext w0 w → SameK L.toArray a0 a → (∀ j, listed.getD j false = true → holdsK L.toArray Vs a w j) → Region.ready .any L.toArray listed = [] → Q .normal a w := by
    intro listed a w hs he hsm hh hr
    refine hQ a w he hsm fun j hj => hh j ?_
    cases hc : listed.getD j true with
    | false => exact absurd hr (ready_some .any L hb listed hs j hj hc)
    | true =>
      have h4 : j < listed.size := by omega
      simp only [Array.getD_eq_getD_getElem?, Array.getElem?_eq_getElem h4, Option.getD_some] at hc ⊢
      exact hc
  intro fuel
  induction fuel with
  | zero =>
    intro listed a w hs hc he hsm hh
    have hr : Region.ready .any L.toArray listed = [] := by
      apply List.eq_nil_iff_forall_not_mem.2
      intro k hk
      obtain ⟨hku, ok, hok, _⟩ := mem_ready.1 hk
      have hkl : k < L.length := by have := (Array.getElem?_eq_some_iff.1 hok).1; simpa using this
      have h4 : k < listed.size := by omega
      simp only [Array.getD_eq_getD_getElem?, Array.getElem?_eq_getElem h4, Option.getD_some] at hku
      have h0 : listed.toList.count false = 0 := by omega
      have := List.count_eq_zero.1 h0
      exact this (by rw [← hku]; simp)
    exact ⟨hr, fin listed a w hs he hsm hh hr⟩
  | succ fuel ih =>
    intro listed a w hs hc he hsm hh
    refine ⟨fun hr => fin listed a w hs he hsm hh hr, fun i hi => ?_⟩
    obtain ⟨hiu, o, hoi, hall⟩ := mem_ready.1 hi
    have hiL : i < L.length := by have := (Array.getElem?_eq_some_iff.1 hoi).1; simpa using this
    have hoL : L[i]? = some o := by simpa using hoi
    have hVi : Vs[i]? = some (Vs[i]'(by omega)) := List.getElem?_eq_getElem (by omega)
    generalize Vs[i]'(by omega) = V at hVi
    have hgo : o.guard = none := by
      have := List.all_eq_true.1 hg o (List.mem_iff_getElem?.2 ⟨i, hoL⟩)
      simpa using this
    have hst := hstep i hiL o V hoi hVi a w he hsm (fun e hea hbi => hh e.on (hall e hea hbi))
    have h4 : i < listed.size := by omega
    have hlf : listed.toList[i]? = some false := by
      simp only [Array.getD_eq_getD_getElem?, Array.getElem?_eq_getElem h4, Option.getD_some] at hiu
      simp [h4, hiu]
    have nxt : ∀ v w', Ext w w' → V w' v → wpAny P .any L.toArray Q fuel (listed.setIfInBounds i true) (a.put o.dst v) w' := by
      intro v w' hew hv
      refine ih _ _ _ (by simp [hs]) ?_ (Ext.trans' he hew) ?_ ?_
      · have := cnt_set listed.toList i hlf
        simp only [Array.toList_setIfInBounds]
        omega
      · obtain ⟨s1, s2, s3⟩ := hsm
        unfold Act.put
        cases hd : o.dst with
        | none => exact ⟨s1, s2, s3⟩
        | some d =>
          refine ⟨s1, by simp [s2], fun k hk => ?_⟩
          have hne : d ≠ k := fun e => hk i o hoi (by rw [hd, e])
          simp only
          rw [Array.getElem?_setIfInBounds_ne hne]
          exact s3 k hk
      · intro j hj o' V' d' ho' hV' hd'
        have hoL' : L[j]? = some o' := by simpa using ho'
        by_cases hij : j = i
        · subst hij
          have eo : o' = o := Option.some.inj (ho'.symm.trans hoi)
          subst eo
          have eV : V' = V := Option.some.inj (hV'.symm.trans hVi)
          subst eV
          have hdz : d' < a.tmps.size := by rw [hsm.2.1]; exact hz j o' d' hoL' hd'
          unfold Act.put
          rw [hd']
          simp [Array.getD_eq_getD_getElem?, hdz]
          exact hv
        · have hlj : listed.getD j false = true := by
            rw [getD_set_ne false (Ne.symm hij)] at hj; exact hj
          have := hh j hlj o' V' d' ho' hV' hd'
          have h2 := hmono j V' hV' w w' _ hew this
          unfold Act.put
          cases hd : o.dst with
          | none => exact h2
          | some d =>
            have hne : d ≠ d' := fun e => hij (apart_of ha hoL' hoL hd' (by rw [hd, e]))
            simp only [Array.getD_eq_getD_getElem?]
            rw [Array.getElem?_setIfInBounds_ne hne]
            simpa [Array.getD_eq_getD_getElem?] using h2
    unfold wpOp
    simp only [hoi]
    have hwt : ∀ ys, Region.wanted o ys = true := fun ys => by simp [Region.wanted, hgo]
    rw [if_pos (hwt _)]
    refine .inl ?_
    unfold Oper.wp
    generalize (execOp a.eval o).run P w = r at hst
    cases r with
    | ok n w' =>
      cases n with
      | value v => exact nxt v w' hst.1 hst.2
      | skip => exact nxt undef w' hst.1 hst.2
      | enter f args => exact Calls.mono hst fun e w'' ⟨v, hv, h⟩ => by subst hv; exact nxt v w'' h.1 h.2
      | _ => exact hst.elim
    | halt x w' => exact hst.elim
/-- THE LAW -/
theorem wp_region_kr {id : Nat} {a0 : Act} {w0 : World} {L : List Oper} (Vs : List (World → Value → Prop)) (hm : P.follows .mixedOrders = true) (hlen : Vs.length = L.length) (hb : backB L = true) (hg : L.all (fun o => o.guard.isNone) = true) (ha : apartB L = true)
    (hz : L.all (fun o => match o.dst with | some d => decide (d < a0.tmps.size) | none => true) = true) (hmono : ∀ (j : Nat) V, Vs[j]? = some V → ∀ w w' v, Ext w w' → V w v → V w' v)
    (hstep : ∀ i, i < L.length → StepK P L.toArray Vs a0 w0 i) (hQ : ∀ a w, Ext w0 w → SameK L.toArray a0 a → (∀ j, j < L.length → holdsK L.toArray Vs a w j) → Q .normal a w) : (Code.region id L.toArray true).wp P Q a0 w0 := by
  refine wp_region_any hm ?_
  refine wpAny_kr Vs hlen hb hg ha (fun j o d ho hd => ?_) hmono hstep hQ _ _ _ _ (by simp) (by simp) ?_ ⟨rfl, rfl, fun _ _ => rfl⟩ ?_
  · have := List.all_eq_true.1 hz o (List.mem_iff_getElem?.2 ⟨j, ho⟩)
    rw [hd] at this
    exact of_decide_eq_true this
  · exact ⟨rfl, rfl, rfl, Nat.le_refl _, fun _ _ => rfl⟩
  · intro j hj
    simp [Array.getElem?_replicate] at hj
    split at hj <;> simp at hj
end
end Go.Proofs.Ytcnmklgcifdmoaa
