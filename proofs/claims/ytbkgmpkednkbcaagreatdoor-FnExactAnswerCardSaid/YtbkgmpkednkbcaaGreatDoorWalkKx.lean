/-
  A region that draws its order, whose operations but the last one read or call within a class of worlds, and whose last one (a store) waits for all of them: one walk in the order of the text serves every order. No program; no condition but those in each head.
  A region that draws its order, whose operations leave all that was there as it was: what each slot holds is told by a predicate that later worlds keep, so one look at each operation serves every order (a new row's address may be any). No program; no condition but those in each head.
  A region that draws its order, whose operations leave all that was there as it was, but for a tail of it that waits for all of them and runs in the order of the text (stores): one look at each operation, and one walk of the tail. No program; no condition but those in each head.
  A region that draws its order, of whose operations one alone writes: what each slot holds hangs on no world, and the world is told by whether that one has come up. No program; no condition but those in each head.
  A region that draws its order, of whose operations one alone writes; what each slot holds may hang on the world by a relation that each step keeps. No program; no condition but those in each head.
  Steps of regions that draw their order: calls, and slots that no operation of the region writes; conditions: those in each head.
-/
import Derived.Deep.QuietTactic
import Derived.StillTail
import Derived.WalkKit
import Derived.Below
import Derived.Test.YtbkgmpkednkbcaaGreatDoorProg
namespace Go.Proofs.YtbkgmpkednkbcaaGreatDoor
open Go Go.RowKit
set_option linter.unusedVariables false
set_option linter.unusedSimpArgs false
/-- an operation that does nothing, at the same place -/
def lzOp (o : Oper) : Oper := { o with op := Op.move (.const (.bool false)) }
/-- each operation waits for earlier ones alone -/
def backB (ops : List Oper) : Bool := (List.range ops.length).all fun j => match ops[j]? with | some o => o.after.all fun e => (match e.ground with | .gcOnly _ => true | _ => decide (e.on < j)) | none => true
theorem lz_get (l : List Oper) (o : Oper) (i : Nat) (hi : i ≠ l.length) : (l ++ [lzOp o]).toArray[i]? = (l ++ [o]).toArray[i]? := by
  simp only [List.getElem?_toArray]
  rcases Nat.lt_or_ge i l.length with h | h
  · rw [List.getElem?_append_left h, List.getElem?_append_left h]
  · rw [List.getElem?_eq_none (by simp; omega), List.getElem?_eq_none (by simp; omega)]
theorem lz_last (l : List Oper) (o : Oper) : (l ++ [lzOp o]).toArray[l.length]? = some (lzOp o) ∧ (l ++ [o]).toArray[l.length]? = some o := by simp
theorem lz_after (l : List Oper) (o : Oper) (i : Nat) : ((l ++ [lzOp o]).toArray[i]?).map (·.after) = ((l ++ [o]).toArray[i]?).map (·.after) := by
  by_cases h : i = l.length
  · subst h; rw [(lz_last l o).1, (lz_last l o).2]; rfl
  · rw [lz_get l o i h]
theorem lz_ready (md : Region.Mode) (l : List Oper) (o : Oper) (listed : Array Bool) : Region.ready md (l ++ [lzOp o]).toArray listed = Region.ready md (l ++ [o]).toArray listed := by
  unfold Region.ready
  have hs : (l ++ [lzOp o]).toArray.size = (l ++ [o]).toArray.size := by simp
  rw [hs]
  congr 1
  funext i
  congr 1
  have := lz_after l o i
  cases h1 : (l ++ [lzOp o]).toArray[i]? with
  | none => rw [h1] at this; cases h2 : (l ++ [o]).toArray[i]? with
    | none => rfl
    | some b => rw [h2] at this; cases this
  | some a => rw [h1] at this; cases h2 : (l ++ [o]).toArray[i]? with
    | none => rw [h2] at this; cases this
    | some b => rw [h2] at this; simp only [Option.map_some, Option.some.injEq] at this; simp only [Option.map_some, this]
theorem lz_yielded (l : List Oper) (o : Oper) : yielded (l ++ [lzOp o]).toArray = yielded (l ++ [o]).toArray := by
  funext t j
  unfold yielded
  have : ((l ++ [lzOp o]).toArray[j]?).bind (·.dst) = ((l ++ [o]).toArray[j]?).bind (·.dst) := by
    by_cases h : j = l.length
    · subst h; rw [(lz_last l o).1, (lz_last l o).2]; rfl
    · rw [lz_get l o j h]
  rw [this]
/-- where one is left, one may come up -/
theorem ready_some (md : Region.Mode) (L : List Oper) (hb : backB L = true) (listed : Array Bool) (hs : listed.size = L.length) (n : Nat) (hn : n < L.length) (hu : listed.getD n true = false) (hmd : md ≠ .gc := by decide) : Region.ready md L.toArray listed ≠ [] := by
  induction n using Nat.strongRecOn with
  | _ n ih =>
    by_cases hall : ∃ m, m < n ∧ listed.getD m true = false
    · obtain ⟨m, hm, hmu⟩ := hall
      exact ih m hm (by omega) hmu
    · have hin : n ∈ Region.ready md L.toArray listed := by
        refine mem_ready.2 ⟨hu, L[n], by simp [List.getElem?_eq_getElem hn], fun e he hbi => ?_⟩
        have h1 := List.all_eq_true.1 hb n (List.mem_range.2 hn)
        rw [List.getElem?_eq_getElem hn] at h1
        obtain ⟨k, hk, rfl⟩ := Array.mem_iff_getElem.1 he
        have h2 : (L[n].after[k]).on < n := by
          have h5 := Array.all_eq_true.1 h1 k hk
          unfold Region.binds at hbi
          generalize (L[n].after[k]).ground = gr at h5 hbi
          cases gr with
          | gcOnly d => exact absurd (of_decide_eq_true hbi) hmd
          | _ => exact of_decide_eq_true h5
        have h3 : ¬ listed.getD (L[n].after[k]).on true = false := fun h => hall ⟨_, h2, h⟩
        have h4 : (L[n].after[k]).on < listed.size := by omega
        simp only [Array.getD_eq_getD_getElem?, Array.getElem?_eq_getElem h4, Option.getD_some] at h3 ⊢
        cases hq : listed[(L[n].after[k]).on] with
        | true => rfl
        | false => rw [hq] at h3; exact absurd rfl h3
      intro h0
      rw [h0] at hin
      cases hin
/-- an operation that is waited for, at first or at second hand -/
def waits2 (md : Region.Mode) (ops : Array Oper) (n i : Nat) : Bool := Region.waitsFor md ops n i || (List.range n).any (fun k => Region.waitsFor md ops n k && Region.waitsFor md ops k i)
/-- whoever has come up, all that he waits for has come up, too -/
def Closed (md : Region.Mode) (ops : Array Oper) (listed : Array Bool) : Prop := ∀ j oj, ops[j]? = some oj → listed.getD j false = true → ∀ e ∈ oj.after, Region.binds md e = true → listed.getD e.on false = true
theorem Closed.set {md : Region.Mode} {ops : Array Oper} {listed : Array Bool} (h : Closed md ops listed) {i : Nat} (hi : i ∈ Region.ready md ops listed) : Closed md ops (listed.setIfInBounds i true) := by
  obtain ⟨_, oi, hoi, hall⟩ := mem_ready.1 hi
  intro j oj hj hl e he hb
  by_cases hij : i = j
  · subst hij
    have : oj = oi := Option.some.inj (hj.symm.trans hoi)
    subst this
    exact getD_set_true (hall e he hb)
  · rw [getD_set_ne false hij] at hl
    exact getD_set_true (h j oj hj hl e he hb)
theorem Closed.waits {md : Region.Mode} {ops : Array Oper} {listed : Array Bool} (h : Closed md ops listed) {n i : Nat} (hn : n ∈ Region.ready md ops listed) (hw : waits2 md ops n i = true) : listed.getD i false = true := by
  obtain ⟨_, oi, hoi, hall⟩ := mem_ready.1 hn
  have one : ∀ k, Region.waitsFor md ops n k = true → listed.getD k false = true := fun k hk => by
    obtain ⟨oj, hoj, e, he, hbi, hon⟩ := Region.waitsFor_spec hk
    have : oj = oi := Option.some.inj (hoj.symm.trans hoi)
    subst this
    have := hall e he hbi
    rwa [hon] at this
  unfold waits2 at hw
  rw [Bool.or_eq_true] at hw
  rcases hw with hw | hw
  · exact one i hw
  · obtain ⟨k, _, hk⟩ := List.any_eq_true.1 hw
    rw [Bool.and_eq_true] at hk
    obtain ⟨oj, hoj, e, he, hbi, hon⟩ := Region.waitsFor_spec hk.2
    have := h k oj hoj (one k hk.1) e he hbi
    rwa [hon] at this
section
variable {P : Program} {md : Region.Mode} {C : World → Prop} {Q : Exit → Act → World → Prop}
theorem wpAny_last (hmd : md ≠ .gc) (l : List Oper) (o : Oper) (hg : o.guard = none) (hd : o.dst = none) (hb : backB (l ++ [o]) = true)
    (hw : (List.range l.length).all (fun i => waits2 md (l ++ [o]).toArray l.length i) = true) :
    ∀ (fuel : Nat) (listed : Array Bool) (a : Act) (w : World), C w → Closed md (l ++ [o]).toArray listed → listed.size = l.length + 1 → listed.getD l.length true = false →
      wpAnyQ P md (l ++ [lzOp o]).toArray C (fun a' => ∀ w', C w' → o.wp P a' w' (fun a w => Q .normal a w) Q) fuel listed a →
      wpAny P md (l ++ [o]).toArray Q fuel listed a w := by
  intro fuel
  induction fuel with
  | zero =>
    intro listed a w hC hcl hs hu h
    have := ready_some md (l ++ [o]) hb listed (by simp [hs]) l.length (by simp) hu hmd
    exact absurd (by rw [← lz_ready]; exact h.1) this
  | succ fuel ih =>
    intro listed a w hC hcl hs hu h
    have hne := ready_some md (l ++ [o]) hb listed (by simp [hs]) l.length (by simp) hu hmd
    refine ⟨fun h0 => absurd h0 hne, fun i hi => ?_⟩
    have hq := h.2 i (by rw [lz_ready]; exact hi)
    by_cases hin : i = l.length
    · subst hin
      -- all others have come up
      have hall : ∀ j, j < l.length → listed.getD j false = true := fun j hj => by
        exact hcl.waits hi (List.all_eq_true.1 hw j (List.mem_range.2 hj))
      have hnone : Region.ready md (l ++ [o]).toArray (listed.setIfInBounds l.length true) = [] := by
        apply List.eq_nil_iff_forall_not_mem.2
        intro k hk
        obtain ⟨hku, ok, hok, _⟩ := mem_ready.1 hk
        have hkl : k < l.length + 1 := by have := (Array.getElem?_eq_some_iff.1 hok).1; simpa using this
        by_cases e : k = l.length
        · subst e
          simp [hs] at hku
        · have h2 := hall k (by omega)
          rw [getD_set_ne true (by omega)] at hku
          have h4 : k < listed.size := by omega
          simp only [Array.getD_eq_getD_getElem?, Array.getElem?_eq_getElem h4, Option.getD_some] at hku h2
          rw [h2] at hku
          cases hku
      unfold qOp at hq
      simp only [(lz_last l o).1] at hq
      have hwt : ∀ ys, Region.wanted (lzOp o) ys = true := fun ys => by simp [Region.wanted, lzOp, hg]
      rw [if_pos (hwt _)] at hq
      obtain ⟨v, _, hK⟩ := hq
      have hput : a.put (lzOp o).dst v = a := by
        show a.put o.dst v = a
        rw [hd]; rfl
      rw [hput] at hK
      have hQA : ∀ w', C w' → o.wp P a w' (fun a w => Q .normal a w) Q := by
        cases fuel with
        | zero => exact hK.2
        | succ f => exact hK.1 (by rw [lz_ready]; exact hnone)
      unfold wpOp
      simp only [(lz_last l o).2]
      have hwt2 : ∀ ys, Region.wanted o ys = true := fun ys => by simp [Region.wanted, hg]
      rw [if_pos (hwt2 _)]
      refine .inl (Oper.wp_mono (fun a' w' hq' => ?_) (hQA w hC))
      cases fuel with
      | zero => exact ⟨hnone, hq'⟩
      | succ f => exact ⟨fun _ => hq', by rw [hnone]; simp⟩
    · have he : wpOp P (l ++ [o]).toArray Q i (wpAny P md (l ++ [o]).toArray Q fuel (listed.setIfInBounds i true)) a w = wpOp P (l ++ [lzOp o]).toArray Q i (wpAny P md (l ++ [o]).toArray Q fuel (listed.setIfInBounds i true)) a w := by
        unfold wpOp
        rw [lz_get l o i hin, lz_yielded]
      rw [he]
      refine wpOp_of_qOp hC (fun a' w' hw' hk => ih (listed.setIfInBounds i true) a' w' hw' (hcl.set hi) (by simp [hs]) ?_ hk) hq
      rw [getD_set_ne true hin]
      exact hu
/-- THE LAW -/
theorem wp_region_last {id : Nat} {a : Act} {w : World} (l : List Oper) (o : Oper) (hm : P.follows .mixedOrders = true) (hg : o.guard = none) (hd : o.dst = none) (hb : backB (l ++ [o]) = true)
    (hw : (List.range l.length).all (fun i => waits2 .any (l ++ [o]).toArray l.length i) = true) (hB : Region.lexB .any (l ++ [lzOp o]).toArray = true) (hC : C { w with drawn := w.drawn + 1 })
    (h : wpQuiet P (l ++ [lzOp o]).toArray C (fun a' => ∀ w', C w' → o.wp P a' w' (fun a w => Q .normal a w) Q) (l ++ [lzOp o]) a) : (Code.region id (l ++ [o]).toArray true).wp P Q a w := by
  simp only [Region.lexB, Bool.and_eq_true] at hB
  have hq := wpAnyQ_lex (C := C) (md := .any) hB.1 (l ++ [lzOp o]) 0 (Array.replicate (l ++ [lzOp o]).toArray.size false) a (by simp) (by simpa using hB.2) h
  refine wp_region_any hm ?_
  have := wpAny_last (md := .any) (Q := Q) (by decide) l o hg hd hb hw _ _ a _ hC (fun j oj _ hl => by simp [Array.getElem?_replicate] at hl; split at hl <;> simp at hl) (by simp) (by simp) hq
  simpa using this
/-- the same, the operations written out as one list -/
theorem wp_region_lastL {id : Nat} {a : Act} {w : World} {L : List Oper} (o : Oper) (hL : L = L.dropLast ++ [o]) (hm : P.follows .mixedOrders = true) (hg : o.guard = none) (hd : o.dst = none) (hb : backB L = true)
    (hw : (List.range L.dropLast.length).all (fun i => waits2 .any L.toArray L.dropLast.length i) = true) (hB : Region.lexB .any (L.dropLast ++ [lzOp o]).toArray = true) (hC : C { w with drawn := w.drawn + 1 })
    (h : wpQuiet P (L.dropLast ++ [lzOp o]).toArray C (fun a' => ∀ w', C w' → o.wp P a' w' (fun a w => Q .normal a w) Q) (L.dropLast ++ [lzOp o]) a) : (Code.region id L.toArray true).wp P Q a w := by
  have := wp_region_last (P := P) (C := C) (Q := Q) (id := id) (a := a) (w := w) L.dropLast o hm hg hd (by rw [← hL]; exact hb) (by rw [← hL]; exact hw) hB hC h
  rwa [← hL] at this
end
end Go.Proofs.YtbkgmpkednkbcaaGreatDoor
namespace Go.Proofs.YtbkgmpkednkbcaaGreatDoor
open Go Go.RowKit
set_option linter.unusedVariables false
set_option linter.unusedSimpArgs false
/-- all that was in w is in w' as it was -/
abbrev Ext (w w' : World) : Prop := Below w.heap.size w w'
theorem Ext.trans' {a b c : World} (h : Ext a b) (k : Ext b c) : Ext a c := Below.trans h (k.mono h.size)
/-- what the slot of operation j holds -/
def holdsK (ops : Array Oper) (Vs : List (World → Value → Prop)) (a : Act) (w : World) (j : Nat) : Prop :=
  ∀ o V d, ops[j]? = some o → Vs[j]? = some V → o.dst = some d → V w (a.tmps.getD d undef)
def SameK (ops : Array Oper) (a0 a : Act) : Prop := a.defers = a0.defers ∧ a.tmps.size = a0.tmps.size ∧ ∀ k, (∀ (j : Nat) o, ops[j]? = some o → o.dst ≠ some k) → a.tmps[k]? = a0.tmps[k]?
def upK (P : Program) (R : World → Value → Prop) : Result Next → Prop
  | .ok (.value v) w' => R w' v
  | .ok .skip w' => R w' undef
  | .ok (.enter f args) w' => Calls P f args w' (fun e w'' => ∃ v, e = .returned v ∧ R w'' v)
  | _ => False
def StepK (P : Program) (ops : Array Oper) (Vs : List (World → Value → Prop)) (a0 : Act) (w0 : World) (i : Nat) : Prop :=
  ∀ o V, ops[i]? = some o → Vs[i]? = some V → ∀ a w, Ext w0 w → SameK ops a0 a → (∀ e ∈ o.after, Region.binds .any e = true → holdsK ops Vs a w e.on) → upK P (fun w' v => Ext w w' ∧ V w' v) ((execOp a.eval o).run P w)
theorem cnt_set : ∀ (l : List Bool) (i : Nat), l[i]? = some false → (l.set i true).count false + 1 = l.count false
  | [], i, h => by simp at h
  | b :: l, 0, h => by simp at h; subst h; simp
  | b :: l, i + 1, h => by
    have := cnt_set l i (by simpa using h)
    simp only [List.set_cons_succ, List.count_cons]
    omega
/-- no two operations yield into one slot -/
def apartB (L : List Oper) : Bool := (List.range L.length).all fun i => (List.range L.length).all fun j => i == j || (match (L[i]?).bind (·.dst), (L[j]?).bind (·.dst) with | some x, some y => x != y | _, _ => true)
theorem apart_of {L : List Oper} (h : apartB L = true) {i j : Nat} {oi oj : Oper} {d : Tmp} (hi : L[i]? = some oi) (hj : L[j]? = some oj) (di : oi.dst = some d) (dj : oj.dst = some d) : i = j := by
  have h1 := List.all_eq_true.1 h i (List.mem_range.2 (List.getElem?_eq_some_iff.1 hi).1)
  have h2 := List.all_eq_true.1 h1 j (List.mem_range.2 (List.getElem?_eq_some_iff.1 hj).1)
  rw [hi, hj] at h2
  simp [di, dj] at h2
  exact h2
section
variable {P : Program} {Q : Exit → Act → World → Prop}
theorem wpAny_kr {a0 : Act} {w0 : World} {L : List Oper} (Vs : List (World → Value → Prop)) (hlen : Vs.length = L.length) (hb : backB L = true) (hg : L.all (fun o => o.guard.isNone) = true) (ha : apartB L = true)
    (hz : ∀ (j : Nat) o d, L[j]? = some o → o.dst = some d → d < a0.tmps.size) (hmono : ∀ (j : Nat) V, Vs[j]? = some V → ∀ w w' v, Ext w w' → V w v → V w' v)
    (hstep : ∀ i, i < L.length → StepK P L.toArray Vs a0 w0 i) (hQ : ∀ a w, Ext w0 w → SameK L.toArray a0 a → (∀ j, j < L.length → holdsK L.toArray Vs a w j) → Q .normal a w) :
    ∀ (fuel : Nat) (listed : Array Bool) (a : Act) (w : World), listed.size = L.length → listed.toList.count false ≤ fuel → Ext w0 w → SameK L.toArray a0 a → (∀ j, listed.getD j false = true → holdsK L.toArray Vs a w j) → wpAny P .any L.toArray Q fuel listed a w := by
  have fin : ∀ (listed : Array Bool) (a : Act) (w : World), listed.size = L.length → Ext w0 w → SameK L.toArray a0 a → (∀ j, listed.getD j false = true → holdsK L.toArray Vs a w j) → Region.ready .any L.toArray listed = [] → Q .normal a w := by
    intro listed a w hs he hsm hh hr
    refine hQ a w he hsm fun j hj => hh j ?_
    cases hc : listed.getD j true with
    | false => exact absurd hr (ready_some .any L hb listed hs j hj hc)
    | true =>
      have h4 : j < listed.size := by omega
      simp only [Array.getD_eq_getD_getElem?, Array.getElem?_eq_getElem h4, Option.getD_some] at hc ⊢
      exact hc
  intro fuel
  induction fuel with
  | zero =>
    intro listed a w hs hc he hsm hh
    have hr : Region.ready .any L.toArray listed = [] := by
      apply List.eq_nil_iff_forall_not_mem.2
      intro k hk
      obtain ⟨hku, ok, hok, _⟩ := mem_ready.1 hk
      have hkl : k < L.length := by have := (Array.getElem?_eq_some_iff.1 hok).1; simpa using this
      have h4 : k < listed.size := by omega
      simp only [Array.getD_eq_getD_getElem?, Array.getElem?_eq_getElem h4, Option.getD_some] at hku
      have h0 : listed.toList.count false = 0 := by omega
      have := List.count_eq_zero.1 h0
      exact this (by rw [← hku]; simp)
    exact ⟨hr, fin listed a w hs he hsm hh hr⟩
  | succ fuel ih =>
    intro listed a w hs hc he hsm hh
    refine ⟨fun hr => fin listed a w hs he hsm hh hr, fun i hi => ?_⟩
    obtain ⟨hiu, o, hoi, hall⟩ := mem_ready.1 hi
    have hiL : i < L.length := by have := (Array.getElem?_eq_some_iff.1 hoi).1; simpa using this
    have hoL : L[i]? = some o := by simpa using hoi
    have hVi : Vs[i]? = some (Vs[i]'(by omega)) := List.getElem?_eq_getElem (by omega)
    generalize Vs[i]'(by omega) = V at hVi
    have hgo : o.guard = none := by
      have := List.all_eq_true.1 hg o (List.mem_iff_getElem?.2 ⟨i, hoL⟩)
      simpa using this
    have hst := hstep i hiL o V hoi hVi a w he hsm (fun e hea hbi => hh e.on (hall e hea hbi))
    have h4 : i < listed.size := by omega
    have hlf : listed.toList[i]? = some false := by
      simp only [Array.getD_eq_getD_getElem?, Array.getElem?_eq_getElem h4, Option.getD_some] at hiu
      simp [h4, hiu]
    have nxt : ∀ v w', Ext w w' → V w' v → wpAny P .any L.toArray Q fuel (listed.setIfInBounds i true) (a.put o.dst v) w' := by
      intro v w' hew hv
      refine ih _ _ _ (by simp [hs]) ?_ (Ext.trans' he hew) ?_ ?_
      · have := cnt_set listed.toList i hlf
        simp only [Array.toList_setIfInBounds]
        omega
      · obtain ⟨s1, s2, s3⟩ := hsm
        unfold Act.put
        cases hd : o.dst with
        | none => exact ⟨s1, s2, s3⟩
        | some d =>
          refine ⟨s1, by simp [s2], fun k hk => ?_⟩
          have hne : d ≠ k := fun e => hk i o hoi (by rw [hd, e])
          simp only
          rw [Array.getElem?_setIfInBounds_ne hne]
          exact s3 k hk
      · intro j hj o' V' d' ho' hV' hd'
        have hoL' : L[j]? = some o' := by simpa using ho'
        by_cases hij : j = i
        · subst hij
          have eo : o' = o := Option.some.inj (ho'.symm.trans hoi)
          subst eo
          have eV : V' = V := Option.some.inj (hV'.symm.trans hVi)
          subst eV
          have hdz : d' < a.tmps.size := by rw [hsm.2.1]; exact hz j o' d' hoL' hd'
          unfold Act.put
          rw [hd']
          simp [Array.getD_eq_getD_getElem?, hdz]
          exact hv
        · have hlj : listed.getD j false = true := by
            rw [getD_set_ne false (Ne.symm hij)] at hj; exact hj
          have := hh j hlj o' V' d' ho' hV' hd'
          have h2 := hmono j V' hV' w w' _ hew this
          unfold Act.put
          cases hd : o.dst with
          | none => exact h2
          | some d =>
            have hne : d ≠ d' := fun e => hij (apart_of ha hoL' hoL hd' (by rw [hd, e]))
            simp only [Array.getD_eq_getD_getElem?]
            rw [Array.getElem?_setIfInBounds_ne hne]
            simpa [Array.getD_eq_getD_getElem?] using h2
    unfold wpOp
    simp only [hoi]
    have hwt : ∀ ys, Region.wanted o ys = true := fun ys => by simp [Region.wanted, hgo]
    rw [if_pos (hwt _)]
    refine .inl ?_
    unfold Oper.wp
    generalize (execOp a.eval o).run P w = r at hst
    cases r with
    | ok n w' =>
      cases n with
      | value v => exact nxt v w' hst.1 hst.2
      | skip => exact nxt undef w' hst.1 hst.2
      | enter f args => exact Calls.mono hst fun e w'' ⟨v, hv, h⟩ => by subst hv; exact nxt v w'' h.1 h.2
      | _ => exact hst.elim
    | halt x w' => exact hst.elim
/-- THE LAW -/
theorem wp_region_kr {id : Nat} {a0 : Act} {w0 : World} {L : List Oper} (Vs : List (World → Value → Prop)) (hm : P.follows .mixedOrders = true) (hlen : Vs.length = L.length) (hb : backB L = true) (hg : L.all (fun o => o.guard.isNone) = true) (ha : apartB L = true)
    (hz : L.all (fun o => match o.dst with | some d => decide (d < a0.tmps.size) | none => true) = true) (hmono : ∀ (j : Nat) V, Vs[j]? = some V → ∀ w w' v, Ext w w' → V w v → V w' v)
    (hstep : ∀ i, i < L.length → StepK P L.toArray Vs a0 w0 i) (hQ : ∀ a w, Ext w0 w → SameK L.toArray a0 a → (∀ j, j < L.length → holdsK L.toArray Vs a w j) → Q .normal a w) : (Code.region id L.toArray true).wp P Q a0 w0 := by
  refine wp_region_any hm ?_
  refine wpAny_kr Vs hlen hb hg ha (fun j o d ho hd => ?_) hmono hstep hQ _ _ _ _ (by simp) (by simp) ?_ ⟨rfl, rfl, fun _ _ => rfl⟩ ?_
  · have := List.all_eq_true.1 hz o (List.mem_iff_getElem?.2 ⟨j, ho⟩)
    rw [hd] at this
    exact of_decide_eq_true this
  · exact ⟨rfl, rfl, rfl, Nat.le_refl _, fun _ _ => rfl⟩
  · intro j hj
    simp [Array.getElem?_replicate] at hj
    split at hj <;> simp at hj
end
end Go.Proofs.YtbkgmpkednkbcaaGreatDoor
namespace Go.Proofs.YtbkgmpkednkbcaaGreatDoor
open Go Go.RowKit
set_option linter.unusedVariables false
set_option linter.unusedSimpArgs false
/-- each operation of the tail s waits for all of l and for those of s ahead of it -/
def tailB (l s : List Oper) : Bool := (List.range s.length).all fun j => (List.range (l.length + j)).all fun i => waits2 .any (l ++ s).toArray (l.length + j) i
theorem tail_of {l s : List Oper} (h : tailB l s = true) {j i : Nat} (hj : j < s.length) (hi : i < l.length + j) : waits2 .any (l ++ s).toArray (l.length + j) i = true :=
  List.all_eq_true.1 (List.all_eq_true.1 h j (List.mem_range.2 hj)) i (List.mem_range.2 hi)
/-- a list of operations one behind the other, of which none may stop -/
def wpTail (P : Program) (Q : Exit → Act → World → Prop) : List Oper → Act → World → Prop
  | [], a, w => Q .normal a w
  | o :: r, a, w => o.wp P a w (fun a w => wpTail P Q r a w) Q
section
variable {P : Program} {Q : Exit → Act → World → Prop}
/-- all of l has come up, and s up to m: the rest runs in the order of the text -/
theorem wpAny_tail (l s : List Oper) (hb : backB (l ++ s) = true) (ht : tailB l s = true) (hg : s.all (fun o => o.guard.isNone) = true) :
    ∀ (fuel m : Nat) (listed : Array Bool) (a : Act) (w : World), m ≤ s.length → s.length - m ≤ fuel → listed.size = (l ++ s).length → Closed .any (l ++ s).toArray listed → (∀ i, i < (l ++ s).length → (listed.getD i false = true ↔ i < l.length + m)) →
      wpTail P Q (s.drop m) a w → wpAny P .any (l ++ s).toArray Q fuel listed a w := by
  have nil : ∀ (listed : Array Bool), listed.size = (l ++ s).length → (∀ i, i < (l ++ s).length → (listed.getD i false = true ↔ i < l.length + s.length)) → Region.ready .any (l ++ s).toArray listed = [] := by
    intro listed hs hl
    apply List.eq_nil_iff_forall_not_mem.2
    intro k hk
    obtain ⟨hku, ok, hok, _⟩ := mem_ready.1 hk
    have hkl : k < (l ++ s).length := by have := (Array.getElem?_eq_some_iff.1 hok).1; simpa using this
    have h2 := (hl k hkl).2 (by simpa using hkl)
    have h4 : k < listed.size := by omega
    simp only [Array.getD_eq_getD_getElem?, Array.getElem?_eq_getElem h4, Option.getD_some] at hku h2
    rw [h2] at hku
    cases hku
  intro fuel
  induction fuel with
  | zero =>
    intro m listed a w hm hf hs hc hl h
    obtain rfl : m = s.length := by omega
    rw [List.drop_length] at h
    exact ⟨nil listed hs hl, h⟩
  | succ fuel ih =>
    intro m listed a w hm hf hs hc hl h
    by_cases hme : m = s.length
    · subst hme
      rw [List.drop_length] at h
      have hn := nil listed hs hl
      exact ⟨fun _ => h, by rw [hn]; simp⟩
    · have hms : m < s.length := by omega
      have hn : l.length + m < (l ++ s).length := by simp; omega
      have hne := ready_some .any (l ++ s) hb listed hs (l.length + m) hn (by
        have h3 : ¬ listed.getD (l.length + m) false = true := fun hh => by have := (hl _ hn).1 hh; omega
        have h4 : l.length + m < listed.size := by omega
        simp only [Array.getD_eq_getD_getElem?, Array.getElem?_eq_getElem h4, Option.getD_some] at h3 ⊢
        cases hq : listed[l.length + m] with
        | true => rw [hq] at h3; exact absurd rfl h3
        | false => rfl)
      refine ⟨fun h0 => absurd h0 hne, fun i hi => ?_⟩
      obtain ⟨hiu, oi, hoi, hall⟩ := mem_ready.1 hi
      have hiL : i < (l ++ s).length := by have := (Array.getElem?_eq_some_iff.1 hoi).1; simpa using this
      have hig : ¬ i < l.length + m := fun hlt => by
        have h2 := (hl i hiL).2 hlt
        have h4 : i < listed.size := by omega
        simp only [Array.getD_eq_getD_getElem?, Array.getElem?_eq_getElem h4, Option.getD_some] at hiu h2
        rw [h2] at hiu
        cases hiu
      have hi2 : i = l.length + m := by
        obtain ⟨j, rfl⟩ : ∃ j, i = l.length + j := ⟨i - l.length, by omega⟩
        rcases Nat.lt_or_ge m j with hlt | hge
        · have hjs : j < s.length := by simp at hiL; omega
          have h3 := hc.waits hi (tail_of ht hjs (i := l.length + m) (by omega))
          have := (hl _ hn).1 h3
          omega
        · omega
      subst hi2
      have hoi' : (l ++ s)[l.length + m]? = some oi := by simpa using hoi
      rw [List.getElem?_append_right (by omega), Nat.add_sub_cancel_left] at hoi'
      have hd : s.drop m = oi :: s.drop (m + 1) := by
        have := List.drop_eq_getElem_cons hms
        rw [List.getElem?_eq_getElem hms] at hoi'
        rw [this, Option.some.inj hoi']
      rw [hd] at h
      have hgo : oi.guard = none := by
        have := List.all_eq_true.1 hg oi (List.mem_iff_getElem?.2 ⟨m, hoi'⟩)
        simpa using this
      unfold wpOp
      simp only [hoi]
      have hwt : ∀ ys, Region.wanted oi ys = true := fun ys => by simp [Region.wanted, hgo]
      rw [if_pos (hwt _)]
      refine .inl (Oper.wp_mono (fun a' w' hq => ?_) h)
      refine ih (m + 1) _ a' w' (by omega) (by omega) (by simpa using hs) (hc.set hi) (fun k hk => ?_) hq
      by_cases hkm : k = l.length + m
      · subst hkm
        have h4 : l.length + m < listed.size := by omega
        simp [Array.getD_eq_getD_getElem?, h4]
      · rw [getD_set_ne false (Ne.symm hkm), hl k hk]
        omega
theorem count_tail (L : List Bool) (n k : Nat) (hs : L.length = n + k) (h : ∀ j, n ≤ j → L[j]? ≠ some true) : k ≤ L.count false := by
  have h1 : (L.drop n).count false = (L.drop n).length := by
    rw [List.count_eq_length]
    intro b hb
    obtain ⟨j, hj⟩ := List.mem_iff_getElem?.1 hb
    rw [List.getElem?_drop] at hj
    have := h (n + j) (by omega)
    cases b with
    | false => rfl
    | true => exact absurd hj this
  have h2 : L.count false = (L.take n).count false + (L.drop n).count false := by rw [← List.count_append, List.take_append_drop]
  rw [h1, List.length_drop] at h2
  omega
theorem wpAny_krs {a0 : Act} {w0 : World} {l s : List Oper} (Vs : List (World → Value → Prop)) (hlen : Vs.length = l.length) (hb : backB (l ++ s) = true) (ht : tailB l s = true) (hg : (l ++ s).all (fun o => o.guard.isNone) = true) (ha : apartB l = true)
    (hz : ∀ (j : Nat) o d, l[j]? = some o → o.dst = some d → d < a0.tmps.size) (hmono : ∀ (j : Nat) V, Vs[j]? = some V → ∀ w w' v, Ext w w' → V w v → V w' v)
    (hstep : ∀ i, i < l.length → StepK P (l ++ s).toArray Vs a0 w0 i) (hQ : ∀ a w, Ext w0 w → SameK (l ++ s).toArray a0 a → (∀ j, j < l.length → holdsK (l ++ s).toArray Vs a w j) → wpTail P Q s a w) :
    ∀ (fuel : Nat) (listed : Array Bool) (a : Act) (w : World), listed.size = (l ++ s).length → listed.toList.count false ≤ fuel → Closed .any (l ++ s).toArray listed → (∀ j, l.length ≤ j → listed.getD j false = false) → Ext w0 w → SameK (l ++ s).toArray a0 a → (∀ j, listed.getD j false = true → holdsK (l ++ s).toArray Vs a w j) → wpAny P .any (l ++ s).toArray Q fuel listed a w := by
  have hgs : s.all (fun o => o.guard.isNone) = true := by
    rw [List.all_append, Bool.and_eq_true] at hg; exact hg.2
  have fin : ∀ (fuel : Nat) (listed : Array Bool) (a : Act) (w : World), listed.size = (l ++ s).length → listed.toList.count false ≤ fuel → Closed .any (l ++ s).toArray listed → (∀ j, l.length ≤ j → listed.getD j false = false) → Ext w0 w → SameK (l ++ s).toArray a0 a → (∀ j, listed.getD j false = true → holdsK (l ++ s).toArray Vs a w j) → (∀ i, i < l.length → listed.getD i false = true) → wpAny P .any (l ++ s).toArray Q fuel listed a w := by
    intro fuel listed a w hs hc hcl hno he hsm hh hall
    refine wpAny_tail l s hb ht hgs fuel 0 listed a w (Nat.zero_le _) ?_ hs hcl (fun i hi => ?_) (hQ a w he hsm fun j hj => hh j (hall j hj))
    · have := count_tail listed.toList l.length s.length (by simpa using hs) (fun j hj hjt => by
        have h2 := hno j hj
        have h3 : listed[j]? = some true := by simpa using hjt
        simp [Array.getD_eq_getD_getElem?, h3] at h2)
      omega
    · constructor
      · intro h1
        rcases Nat.lt_or_ge i (l.length + 0) with h | h
        · exact h
        · have := hno i h; rw [this] at h1; cases h1
      · intro h; exact hall i h
  intro fuel
  induction fuel with
  | zero =>
    intro listed a w hs hc hcl hno he hsm hh
    refine fin 0 listed a w hs hc hcl hno he hsm hh (fun i hi => ?_)
    have h4 : i < listed.size := by simp at hs; omega
    have h0 : listed.toList.count false = 0 := by omega
    have h1 := List.count_eq_zero.1 h0
    cases hq : listed.getD i false with
    | true => rfl
    | false =>
      simp only [Array.getD_eq_getD_getElem?, Array.getElem?_eq_getElem h4, Option.getD_some] at hq
      exact absurd (by rw [← hq]; simp) h1
  | succ fuel ih =>
    intro listed a w hs hc hcl hno he hsm hh
    by_cases hall : ∀ i, i < l.length → listed.getD i false = true
    · exact fin _ listed a w hs hc hcl hno he hsm hh hall
    have hne : Region.ready .any (l ++ s).toArray listed ≠ [] := by
      intro h0
      apply hall
      intro i hi
      cases hq : listed.getD i false with
      | true => rfl
      | false =>
        have h4 : i < listed.size := by simp at hs; omega
        refine absurd h0 (ready_some .any (l ++ s) hb listed hs i (by simp; omega) ?_)
        simp only [Array.getD_eq_getD_getElem?, Array.getElem?_eq_getElem h4, Option.getD_some] at hq ⊢
        exact hq
    refine ⟨fun h0 => absurd h0 hne, fun i hi => ?_⟩
    obtain ⟨hiu, o, hoi, hafter⟩ := mem_ready.1 hi
    have hiL : i < (l ++ s).length := by have := (Array.getElem?_eq_some_iff.1 hoi).1; simpa using this
    have hil : i < l.length := by
      rcases Nat.lt_or_ge i l.length with h | h
      · exact h
      · refine absurd (fun k hk => ?_) hall
        obtain ⟨j, rfl⟩ : ∃ j, i = l.length + j := ⟨i - l.length, by omega⟩
        exact hcl.waits hi (tail_of ht (by simp at hiL; omega) (by omega))
    have hoL : (l ++ s)[i]? = some o := by simpa using hoi
    have hol : l[i]? = some o := by rwa [List.getElem?_append_left hil] at hoL
    have hVi : Vs[i]? = some (Vs[i]'(by omega)) := List.getElem?_eq_getElem (by omega)
    generalize Vs[i]'(by omega) = V at hVi
    have hgo : o.guard = none := by
      have := List.all_eq_true.1 hg o (List.mem_iff_getElem?.2 ⟨i, hoL⟩)
      simpa using this
    have hst := hstep i hil o V hoi hVi a w he hsm (fun e hea hbi => hh e.on (hafter e hea hbi))
    have h4 : i < listed.size := by omega
    have hlf : listed.toList[i]? = some false := by
      simp only [Array.getD_eq_getD_getElem?, Array.getElem?_eq_getElem h4, Option.getD_some] at hiu
      simp [h4, hiu]
    have nxt : ∀ v w', Ext w w' → V w' v → wpAny P .any (l ++ s).toArray Q fuel (listed.setIfInBounds i true) (a.put o.dst v) w' := by
      intro v w' hew hv
      refine ih _ _ _ (by simpa using hs) ?_ (hcl.set hi) (fun j hj => ?_) (Ext.trans' he hew) ?_ ?_
      · have := cnt_set listed.toList i hlf
        simp only [Array.toList_setIfInBounds]
        omega
      · rw [getD_set_ne false (by omega)]; exact hno j hj
      · obtain ⟨s1, s2, s3⟩ := hsm
        unfold Act.put
        cases hd : o.dst with
        | none => exact ⟨s1, s2, s3⟩
        | some d =>
          refine ⟨s1, by simp [s2], fun k hk => ?_⟩
          have hne : d ≠ k := fun e => hk i o hoi (by rw [hd, e])
          simp only
          rw [Array.getElem?_setIfInBounds_ne hne]
          exact s3 k hk
      · intro j hj o' V' d' ho' hV' hd'
        have hjl : j < l.length := by have := (List.getElem?_eq_some_iff.1 hV').1; omega
        have hoL' : l[j]? = some o' := by
          have : (l ++ s)[j]? = some o' := by simpa using ho'
          rwa [List.getElem?_append_left hjl] at this
        by_cases hij : j = i
        · subst hij
          have eo : o' = o := Option.some.inj (ho'.symm.trans hoi)
          subst eo
          have eV : V' = V := Option.some.inj (hV'.symm.trans hVi)
          subst eV
          have hdz : d' < a.tmps.size := by rw [hsm.2.1]; exact hz j o' d' hoL' hd'
          unfold Act.put
          rw [hd']
          simp [Array.getD_eq_getD_getElem?, hdz]
          exact hv
        · have hlj : listed.getD j false = true := by
            rw [getD_set_ne false (Ne.symm hij)] at hj; exact hj
          have := hh j hlj o' V' d' ho' hV' hd'
          have h2 := hmono j V' hV' w w' _ hew this
          unfold Act.put
          cases hd : o.dst with
          | none => exact h2
          | some d =>
            have hne : d ≠ d' := fun e => hij (apart_of ha hoL' hol hd' (by rw [hd, e]))
            simp only [Array.getD_eq_getD_getElem?]
            rw [Array.getElem?_setIfInBounds_ne hne]
            simpa [Array.getD_eq_getD_getElem?] using h2
    unfold wpOp
    simp only [hoi]
    have hwt : ∀ ys, Region.wanted o ys = true := fun ys => by simp [Region.wanted, hgo]
    rw [if_pos (hwt _)]
    refine .inl ?_
    unfold Oper.wp
    generalize (execOp a.eval o).run P w = r at hst
    cases r with
    | ok n w' =>
      cases n with
      | value v => exact nxt v w' hst.1 hst.2
      | skip => exact nxt undef w' hst.1 hst.2
      | enter f args => exact Calls.mono hst fun e w'' ⟨v, hv, h⟩ => by subst hv; exact nxt v w'' h.1 h.2
      | _ => exact hst.elim
    | halt x w' => exact hst.elim
/-- THE LAW -/
theorem wp_region_krs {id : Nat} {a0 : Act} {w0 : World} {L : List Oper} (n : Nat) (Vs : List (World → Value → Prop)) (hm : P.follows .mixedOrders = true) (hlen : Vs.length = (L.take n).length) (hb : backB L = true) (ht : tailB (L.take n) (L.drop n) = true) (hg : L.all (fun o => o.guard.isNone) = true) (ha : apartB (L.take n) = true)
    (hz : (L.take n).all (fun o => match o.dst with | some d => decide (d < a0.tmps.size) | none => true) = true) (hmono : ∀ (j : Nat) V, Vs[j]? = some V → ∀ w w' v, Ext w w' → V w v → V w' v)
    (hstep : ∀ i, i < (L.take n).length → StepK P L.toArray Vs a0 w0 i) (hQ : ∀ a w, Ext w0 w → SameK L.toArray a0 a → (∀ j, j < (L.take n).length → holdsK L.toArray Vs a w j) → wpTail P Q (L.drop n) a w) : (Code.region id L.toArray true).wp P Q a0 w0 := by
  have e := List.take_append_drop n L
  refine wp_region_any hm ?_
  have := wpAny_krs (P := P) (Q := Q) (a0 := a0) (w0 := w0) (l := L.take n) (s := L.drop n) Vs hlen (by rw [e]; exact hb) ht (by rw [e]; exact hg) ha (fun j o d ho hd => by
    have := List.all_eq_true.1 hz o (List.mem_iff_getElem?.2 ⟨j, ho⟩)
    rw [hd] at this
    exact of_decide_eq_true this) hmono (by rw [e]; exact hstep) (by rw [e]; exact hQ)
  rw [e] at this
  refine this _ _ _ _ (by simp) (by simp) (fun j oj _ hl => by simp [Array.getElem?_replicate] at hl; split at hl <;> simp at hl) (fun j hj => ?_) ⟨rfl, rfl, rfl, Nat.le_refl _, fun _ _ => rfl⟩ ⟨rfl, rfl, fun _ _ => rfl⟩ ?_
  · simp [Array.getD_eq_getD_getElem?, Array.getElem?_replicate]; split <;> simp
  · intro j hj
    simp [Array.getElem?_replicate] at hj
    split at hj <;> simp at hj
end
theorem fold_lit (A : Array Value) : ∀ (D : List Nat) (t : Array Value), t.size = A.size → (∀ k, k ∉ D → t[k]? = A[k]?) → D.foldl (fun t d => t.setIfInBounds d (A.getD d undef)) t = A
  | [], t, hs, h => by
    apply Array.ext hs
    intro i h1 h2
    have := h i (by simp)
    rw [Array.getElem?_eq_getElem h1, Array.getElem?_eq_getElem h2] at this
    exact Option.some.inj this
  | d :: D, t, hs, h => by
    rw [List.foldl_cons]
    refine fold_lit A D _ (by simpa using hs) fun k hk => ?_
    by_cases e : d = k
    · subst e
      by_cases hd : d < A.size
      · have h3 : d < t.size := by omega
        simp [h3, hd, Array.getD_eq_getD_getElem?]
      · rw [Array.getElem?_eq_none (by simp; omega), Array.getElem?_eq_none (by omega)]
    · rw [Array.getElem?_setIfInBounds_ne e]
      exact h k (by simp; exact ⟨fun h => e h.symm, hk⟩)
/-- the frame behind a region: as it was, but for the slots D -/
theorem same_lit {ops : List Oper} {a0 a : Act} (h : SameK ops.toArray a0 a) (D : List Nat) (hD : ops.all (fun o => match o.dst with | some d => D.contains d | none => true) = true) : a = ⟨D.foldl (fun t d => t.setIfInBounds d (a.tmps.getD d undef)) a0.tmps, a0.defers⟩ := by
  obtain ⟨h1, h2, h3⟩ := h
  have e := fold_lit a.tmps D a0.tmps h2.symm (fun k hk => (h3 k (fun j o ho hd => by
    have h4 := List.all_eq_true.1 hD o (List.mem_iff_getElem?.2 ⟨j, by simpa using ho⟩)
    rw [hd] at h4
    simp at h4
    exact hk h4)).symm)
  rw [e, ← h1]
theorem fold_list (A : Array Value) : ∀ (D : List Nat) (t : Array Value), (D.foldl (fun t d => t.setIfInBounds d (A.getD d undef)) t).toList = D.foldl (fun t d => t.set d (A.getD d undef)) t.toList
  | [], t => rfl
  | d :: D, t => by
    rw [List.foldl_cons, List.foldl_cons, fold_list A D]
    simp
/-- the same as lists: no proof stands within it -/
theorem same_litL {ops : List Oper} {a0 a : Act} (h : SameK ops.toArray a0 a) (D : List Nat) (hD : ops.all (fun o => match o.dst with | some d => D.contains d | none => true) = true) (l0 : List Value) (hl : a0.tmps = l0.toArray) : a = ⟨(D.foldl (fun t d => t.set d (a.tmps.getD d undef)) l0).toArray, a0.defers⟩ := by
  have e := same_lit h D hD
  have e2 := fold_list a.tmps D a0.tmps
  rw [hl] at e2
  rw [show a.tmps = a.tmps from rfl] at e
  have e3 : D.foldl (fun t d => t.setIfInBounds d (a.tmps.getD d undef)) a0.tmps = (D.foldl (fun t d => t.set d (a.tmps.getD d undef)) l0).toArray := by
    apply Array.ext'
    rw [hl, e2]
  rw [e3] at e
  exact e
end Go.Proofs.YtbkgmpkednkbcaaGreatDoor
namespace Go.Proofs.YtbkgmpkednkbcaaGreatDoor
open Go Go.RowKit
set_option linter.unusedVariables false
set_option linter.unusedSimpArgs false
def holdsW (ops : Array Oper) (Vs : List (Value → Prop)) (a : Act) (j : Nat) : Prop :=
  ∀ o V d, ops[j]? = some o → Vs[j]? = some V → o.dst = some d → V (a.tmps.getD d undef)
/-- what op i finds: all slots that none writes but those that wait for it are as they were -/
def SameW (ops : Array Oper) (a0 a : Act) (i : Nat) : Prop := a.defers = a0.defers ∧ a.tmps.size = a0.tmps.size ∧ ∀ k, (∀ (j : Nat) o, ops[j]? = some o → Region.waitsFor .any ops j i = false → o.dst ≠ some k) → a.tmps[k]? = a0.tmps[k]?
/-- all slots that none has written are as they were -/
def SameB (ops : Array Oper) (a0 a : Act) (listed : Array Bool) : Prop := a.defers = a0.defers ∧ a.tmps.size = a0.tmps.size ∧ ∀ k, (∀ (j : Nat) o, ops[j]? = some o → listed.getD j false = true → o.dst ≠ some k) → a.tmps[k]? = a0.tmps[k]?
theorem SameB.at {ops : Array Oper} {a0 a : Act} {listed : Array Bool} (h : SameB ops a0 a listed) (hc : Closed .any ops listed) {i : Nat} (hi : listed.getD i false = false) : SameW ops a0 a i := by
  refine ⟨h.1, h.2.1, fun k hk => h.2.2 k fun j o ho hl => hk j o ho ?_⟩
  cases hw : Region.waitsFor .any ops j i with
  | false => rfl
  | true =>
    obtain ⟨oj, hoj, e, he, hbi, hon⟩ := Region.waitsFor_spec hw
    have := hc j oj hoj hl e he hbi
    rw [hon, hi] at this
    cases this
theorem noDstW {L : List Oper} {k i : Nat} (h : (List.range L.length).all (fun j => Region.waitsFor .any L.toArray j i || (match L[j]? with | some o => o.dst != some k | none => true)) = true) : ∀ (j : Nat) o, L.toArray[j]? = some o → Region.waitsFor .any L.toArray j i = false → o.dst ≠ some k := by
  intro j o ho hw hd
  have ho' : L[j]? = some o := by simpa using ho
  have h1 := List.all_eq_true.1 h j (List.mem_range.2 (List.getElem?_eq_some_iff.1 ho').1)
  rw [hw, ho'] at h1
  simp [hd] at h1
def StepW (P : Program) (ops : Array Oper) (Vs : List (Value → Prop)) (a0 : Act) (C : Bool → World → Prop) (j0 i : Nat) : Prop :=
  ∀ o V, ops[i]? = some o → Vs[i]? = some V → ∀ (d : Bool) a w, C d w → (i = j0 → d = false) → SameW ops a0 a i → (∀ e ∈ o.after, Region.binds .any e = true → holdsW ops Vs a e.on) → upK P (fun w' v => C (d || decide (i = j0)) w' ∧ V v) ((execOp a.eval o).run P w)
section
variable {P : Program} {Q : Exit → Act → World → Prop}
theorem wpAny_kw {a0 : Act} {L : List Oper} (C : Bool → World → Prop) (j0 : Nat) (Vs : List (Value → Prop)) (hlen : Vs.length = L.length) (hb : backB L = true) (hg : L.all (fun o => o.guard.isNone) = true) (ha : apartB L = true)
    (hz : ∀ (j : Nat) o d, L[j]? = some o → o.dst = some d → d < a0.tmps.size) (hj0 : j0 < L.length)
    (hstep : ∀ i, i < L.length → StepW P L.toArray Vs a0 C j0 i) (hQ : ∀ a w, C true w → SameK L.toArray a0 a → (∀ j, j < L.length → holdsW L.toArray Vs a j) → Q .normal a w) :
    ∀ (fuel : Nat) (listed : Array Bool) (a : Act) (w : World), listed.size = L.length → listed.toList.count false ≤ fuel → C (listed.getD j0 false) w → Closed .any L.toArray listed → SameB L.toArray a0 a listed → (∀ j, listed.getD j false = true → holdsW L.toArray Vs a j) → wpAny P .any L.toArray Q fuel listed a w := by
  have fin : ∀ (listed : Array Bool) (a : Act) (w : World), listed.size = L.length → C (listed.getD j0 false) w → Closed .any L.toArray listed → SameB L.toArray a0 a listed → (∀ j, listed.getD j false = true → holdsW L.toArray Vs a j) → Region.ready .any L.toArray listed = [] → Q .normal a w := by
    intro listed a w hs he hcd hsm hh hr
    have up : ∀ j, j < L.length → listed.getD j false = true := by
      intro j hj
      cases hc : listed.getD j true with
      | false => exact absurd hr (ready_some .any L hb listed hs j hj hc)
      | true =>
        have h4 : j < listed.size := by omega
        simp only [Array.getD_eq_getD_getElem?, Array.getElem?_eq_getElem h4, Option.getD_some] at hc ⊢
        exact hc
    rw [up j0 hj0] at he
    exact hQ a w he ⟨hsm.1, hsm.2.1, fun k hk => hsm.2.2 k fun j o ho _ => hk j o ho⟩ fun j hj => hh j (up j hj)
  intro fuel
  induction fuel with
  | zero =>
    intro listed a w hs hc he hcd hsm hh
    have hr : Region.ready .any L.toArray listed = [] := by
      apply List.eq_nil_iff_forall_not_mem.2
      intro k hk
      obtain ⟨hku, ok, hok, _⟩ := mem_ready.1 hk
      have hkl : k < L.length := by have := (Array.getElem?_eq_some_iff.1 hok).1; simpa using this
      have h4 : k < listed.size := by omega
      simp only [Array.getD_eq_getD_getElem?, Array.getElem?_eq_getElem h4, Option.getD_some] at hku
      have h0 : listed.toList.count false = 0 := by omega
      have := List.count_eq_zero.1 h0
      exact this (by rw [← hku]; simp)
    exact ⟨hr, fin listed a w hs he hcd hsm hh hr⟩
  | succ fuel ih =>
    intro listed a w hs hc he hcd hsm hh
    refine ⟨fun hr => fin listed a w hs he hcd hsm hh hr, fun i hi => ?_⟩
    obtain ⟨hiu, o, hoi, hall⟩ := mem_ready.1 hi
    have hiL : i < L.length := by have := (Array.getElem?_eq_some_iff.1 hoi).1; simpa using this
    have hoL : L[i]? = some o := by simpa using hoi
    have hVi : Vs[i]? = some (Vs[i]'(by omega)) := List.getElem?_eq_getElem (by omega)
    generalize Vs[i]'(by omega) = V at hVi
    have hgo : o.guard = none := by
      have := List.all_eq_true.1 hg o (List.mem_iff_getElem?.2 ⟨i, hoL⟩)
      simpa using this
    have h4 : i < listed.size := by omega
    have hif : listed.getD i false = false := by
      simp only [Array.getD_eq_getD_getElem?, Array.getElem?_eq_getElem h4, Option.getD_some] at hiu ⊢
      exact hiu
    have hst := hstep i hiL o V hoi hVi (listed.getD j0 false) a w he (fun e => by rw [← e]; exact hif) (hsm.at hcd hif) (fun e hea hbi => hh e.on (hall e hea hbi))
    have hlf : listed.toList[i]? = some false := by
      simp only [Array.getD_eq_getD_getElem?, Array.getElem?_eq_getElem h4, Option.getD_some] at hiu
      simp [h4, hiu]
    have hcl : (listed.setIfInBounds i true).getD j0 false = (listed.getD j0 false || decide (i = j0)) := by
      by_cases e : i = j0
      · subst e
        simp [Array.getD_eq_getD_getElem?, h4]
      · rw [getD_set_ne false e]
        simp [e]
    have nxt : ∀ v w', C (listed.getD j0 false || decide (i = j0)) w' → V v → wpAny P .any L.toArray Q fuel (listed.setIfInBounds i true) (a.put o.dst v) w' := by
      intro v w' hew hv
      refine ih _ _ _ (by simp [hs]) ?_ (by rw [hcl]; exact hew) (hcd.set hi) ?_ ?_
      · have := cnt_set listed.toList i hlf
        simp only [Array.toList_setIfInBounds]
        omega
      · obtain ⟨s1, s2, s3⟩ := hsm
        unfold Act.put
        cases hd : o.dst with
        | none => exact ⟨s1, s2, fun k hk => s3 k fun j o' ho' hl => hk j o' ho' (getD_set_true hl)⟩
        | some d =>
          refine ⟨s1, by simp [s2], fun k hk => ?_⟩
          have hii : (listed.setIfInBounds i true).getD i false = true := by simp [Array.getD_eq_getD_getElem?, h4]
          have hne : d ≠ k := fun e => hk i o hoi hii (by rw [hd, e])
          simp only
          rw [Array.getElem?_setIfInBounds_ne hne]
          exact s3 k fun j o' ho' hl => hk j o' ho' (getD_set_true hl)
      · intro j hj o' V' d' ho' hV' hd'
        have hoL' : L[j]? = some o' := by simpa using ho'
        by_cases hij : j = i
        · subst hij
          have eo : o' = o := Option.some.inj (ho'.symm.trans hoi)
          subst eo
          have eV : V' = V := Option.some.inj (hV'.symm.trans hVi)
          subst eV
          have hdz : d' < a.tmps.size := by rw [hsm.2.1]; exact hz j o' d' hoL' hd'
          unfold Act.put
          rw [hd']
          simp [Array.getD_eq_getD_getElem?, hdz]
          exact hv
        · have hlj : listed.getD j false = true := by
            rw [getD_set_ne false (Ne.symm hij)] at hj; exact hj
          have h2 := hh j hlj o' V' d' ho' hV' hd'
          unfold Act.put
          cases hd : o.dst with
          | none => exact h2
          | some d =>
            have hne : d ≠ d' := fun e => hij (apart_of ha hoL' hoL hd' (by rw [hd, e]))
            simp only [Array.getD_eq_getD_getElem?]
            rw [Array.getElem?_setIfInBounds_ne hne]
            simpa [Array.getD_eq_getD_getElem?] using h2
    unfold wpOp
    simp only [hoi]
    have hwt : ∀ ys, Region.wanted o ys = true := fun ys => by simp [Region.wanted, hgo]
    rw [if_pos (hwt _)]
    refine .inl ?_
    unfold Oper.wp
    generalize (execOp a.eval o).run P w = r at hst
    cases r with
    | ok n w' =>
      cases n with
      | value v => exact nxt v w' hst.1 hst.2
      | skip => exact nxt undef w' hst.1 hst.2
      | enter f args => exact Calls.mono hst fun e w'' ⟨v, hv, h⟩ => by subst hv; exact nxt v w'' h.1 h.2
      | _ => exact hst.elim
    | halt x w' => exact hst.elim
/-- THE LAW -/
theorem wp_region_kw {id : Nat} {a0 : Act} {w0 : World} {L : List Oper} (C : Bool → World → Prop) (j0 : Nat) (Vs : List (Value → Prop)) (hm : P.follows .mixedOrders = true) (hlen : Vs.length = L.length) (hb : backB L = true) (hg : L.all (fun o => o.guard.isNone) = true) (ha : apartB L = true)
    (hz : L.all (fun o => match o.dst with | some d => decide (d < a0.tmps.size) | none => true) = true) (hj0 : j0 < L.length) (h0 : C false w0.drew)
    (hstep : ∀ i, i < L.length → StepW P L.toArray Vs a0 C j0 i) (hQ : ∀ a w, C true w → SameK L.toArray a0 a → (∀ j, j < L.length → holdsW L.toArray Vs a j) → Q .normal a w) : (Code.region id L.toArray true).wp P Q a0 w0 := by
  refine wp_region_any hm ?_
  refine wpAny_kw C j0 Vs hlen hb hg ha (fun j o d ho hd => ?_) hj0 hstep hQ _ _ _ _ (by simp) (by simp) ?_ (fun j oj _ hl => by simp [Array.getElem?_replicate] at hl; split at hl <;> simp at hl) ⟨rfl, rfl, fun _ _ => rfl⟩ ?_
  · have := List.all_eq_true.1 hz o (List.mem_iff_getElem?.2 ⟨j, ho⟩)
    rw [hd] at this
    exact of_decide_eq_true this
  · have e : (Array.replicate L.toArray.size false).getD j0 false = false := by
      simp [Array.getD_eq_getD_getElem?, Array.getElem?_replicate, hj0]
    rw [e]
    exact h0
  · intro j hj
    simp [Array.getElem?_replicate] at hj
    split at hj <;> simp at hj
end
end Go.Proofs.YtbkgmpkednkbcaaGreatDoor
namespace Go.Proofs.YtbkgmpkednkbcaaGreatDoor
open Go Go.RowKit
set_option linter.unusedVariables false
set_option linter.unusedSimpArgs false
theorem Closed.waitsL {md : Region.Mode} {ops : Array Oper} {listed : Array Bool} (h : Closed md ops listed) {n i : Nat} (hn : listed.getD n false = true) (hw : waits2 md ops n i = true) : listed.getD i false = true := by
  have one : ∀ m k, listed.getD m false = true → Region.waitsFor md ops m k = true → listed.getD k false = true := fun m k hm hk => by
    obtain ⟨oj, hoj, e, he, hbi, hon⟩ := Region.waitsFor_spec hk
    have := h m oj hoj hm e he hbi
    rwa [hon] at this
  unfold waits2 at hw
  rw [Bool.or_eq_true] at hw
  rcases hw with hw | hw
  · exact one n i hn hw
  · obtain ⟨k, _, hk⟩ := List.any_eq_true.1 hw
    rw [Bool.and_eq_true] at hk
    exact one k i (one n k hn hk.1) hk.2
def StepV (P : Program) (ops : Array Oper) (Vs : List (World → Value → Prop)) (a0 : Act) (R : World → World → Prop) (C : Bool → World → Prop) (j0 i : Nat) : Prop :=
  ∀ o V, ops[i]? = some o → Vs[i]? = some V → ∀ (d : Bool) a w, C d w → (i = j0 → d = false) → (d = true → waits2 .any ops j0 i = false) → SameW ops a0 a i → (∀ e ∈ o.after, Region.binds .any e = true → holdsK ops Vs a w e.on) → upK P (fun w' v => R w w' ∧ C (d || decide (i = j0)) w' ∧ V w' v) ((execOp a.eval o).run P w)
section
variable {P : Program} {Q : Exit → Act → World → Prop}
theorem wpAny_kv {a0 : Act} {L : List Oper} (R : World → World → Prop) (C : Bool → World → Prop) (j0 : Nat) (Vs : List (World → Value → Prop)) (hlen : Vs.length = L.length) (hb : backB L = true) (hg : L.all (fun o => o.guard.isNone) = true) (ha : apartB L = true)
    (hz : ∀ (j : Nat) o d, L[j]? = some o → o.dst = some d → d < a0.tmps.size) (hj0 : j0 < L.length)
    (hmono : ∀ (j : Nat) V, Vs[j]? = some V → ∀ w w' v, R w w' → V w v → V w' v) (hstep : ∀ i, i < L.length → StepV P L.toArray Vs a0 R C j0 i) (hQ : ∀ a w, C true w → SameK L.toArray a0 a → (∀ j, j < L.length → holdsK L.toArray Vs a w j) → Q .normal a w) :
    ∀ (fuel : Nat) (listed : Array Bool) (a : Act) (w : World), listed.size = L.length → listed.toList.count false ≤ fuel → C (listed.getD j0 false) w → Closed .any L.toArray listed → SameB L.toArray a0 a listed → (∀ j, listed.getD j false = true → holdsK L.toArray Vs a w j) → wpAny P .any L.toArray Q fuel listed a w := by
  have fin : ∀ (listed : Array Bool) (a : Act) (w : World), listed.size = L.length → C (listed.getD j0 false) w → Closed .any L.toArray listed → SameB L.toArray a0 a listed → (∀ j, listed.getD j false = true → holdsK L.toArray Vs a w j) → Region.ready .any L.toArray listed = [] → Q .normal a w := by
    intro listed a w hs he hcd hsm hh hr
    have up : ∀ j, j < L.length → listed.getD j false = true := by
      intro j hj
      cases hc : listed.getD j true with
      | false => exact absurd hr (ready_some .any L hb listed hs j hj hc)
      | true =>
        have h4 : j < listed.size := by omega
        simp only [Array.getD_eq_getD_getElem?, Array.getElem?_eq_getElem h4, Option.getD_some] at hc ⊢
        exact hc
    rw [up j0 hj0] at he
    exact hQ a w he ⟨hsm.1, hsm.2.1, fun k hk => hsm.2.2 k fun j o ho _ => hk j o ho⟩ fun j hj => hh j (up j hj)
  intro fuel
  induction fuel with
  | zero =>
    intro listed a w hs hc he hcd hsm hh
    have hr : Region.ready .any L.toArray listed = [] := by
      apply List.eq_nil_iff_forall_not_mem.2
      intro k hk
      obtain ⟨hku, ok, hok, _⟩ := mem_ready.1 hk
      have hkl : k < L.length := by have := (Array.getElem?_eq_some_iff.1 hok).1; simpa using this
      have h4 : k < listed.size := by omega
      simp only [Array.getD_eq_getD_getElem?, Array.getElem?_eq_getElem h4, Option.getD_some] at hku
      have h0 : listed.toList.count false = 0 := by omega
      have := List.count_eq_zero.1 h0
      exact this (by rw [← hku]; simp)
    exact ⟨hr, fin listed a w hs he hcd hsm hh hr⟩
  | succ fuel ih =>
    intro listed a w hs hc he hcd hsm hh
    refine ⟨fun hr => fin listed a w hs he hcd hsm hh hr, fun i hi => ?_⟩
    obtain ⟨hiu, o, hoi, hall⟩ := mem_ready.1 hi
    have hiL : i < L.length := by have := (Array.getElem?_eq_some_iff.1 hoi).1; simpa using this
    have hoL : L[i]? = some o := by simpa using hoi
    have hVi : Vs[i]? = some (Vs[i]'(by omega)) := List.getElem?_eq_getElem (by omega)
    generalize Vs[i]'(by omega) = V at hVi
    have hgo : o.guard = none := by
      have := List.all_eq_true.1 hg o (List.mem_iff_getElem?.2 ⟨i, hoL⟩)
      simpa using this
    have h4 : i < listed.size := by omega
    have hif : listed.getD i false = false := by
      simp only [Array.getD_eq_getD_getElem?, Array.getElem?_eq_getElem h4, Option.getD_some] at hiu ⊢
      exact hiu
    have hst := hstep i hiL o V hoi hVi (listed.getD j0 false) a w he (fun e => by rw [← e]; exact hif) (fun e => by
      cases hw : waits2 .any L.toArray j0 i with
      | false => rfl
      | true =>
        have := hcd.waitsL e hw
        rw [hif] at this
        cases this) (hsm.at hcd hif) (fun e hea hbi => hh e.on (hall e hea hbi))
    have hlf : listed.toList[i]? = some false := by
      simp only [Array.getD_eq_getD_getElem?, Array.getElem?_eq_getElem h4, Option.getD_some] at hiu
      simp [h4, hiu]
    have hcl : (listed.setIfInBounds i true).getD j0 false = (listed.getD j0 false || decide (i = j0)) := by
      by_cases e : i = j0
      · subst e
        simp [Array.getD_eq_getD_getElem?, h4]
      · rw [getD_set_ne false e]
        simp [e]
    have nxt : ∀ v w', R w w' → C (listed.getD j0 false || decide (i = j0)) w' → V w' v → wpAny P .any L.toArray Q fuel (listed.setIfInBounds i true) (a.put o.dst v) w' := by
      intro v w' hr hew hv
      refine ih _ _ _ (by simp [hs]) ?_ (by rw [hcl]; exact hew) (hcd.set hi) ?_ ?_
      · have := cnt_set listed.toList i hlf
        simp only [Array.toList_setIfInBounds]
        omega
      · obtain ⟨s1, s2, s3⟩ := hsm
        unfold Act.put
        cases hd : o.dst with
        | none => exact ⟨s1, s2, fun k hk => s3 k fun j o' ho' hl => hk j o' ho' (getD_set_true hl)⟩
        | some d =>
          refine ⟨s1, by simp [s2], fun k hk => ?_⟩
          have hii : (listed.setIfInBounds i true).getD i false = true := by simp [Array.getD_eq_getD_getElem?, h4]
          have hne : d ≠ k := fun e => hk i o hoi hii (by rw [hd, e])
          simp only
          rw [Array.getElem?_setIfInBounds_ne hne]
          exact s3 k fun j o' ho' hl => hk j o' ho' (getD_set_true hl)
      · intro j hj o' V' d' ho' hV' hd'
        have hoL' : L[j]? = some o' := by simpa using ho'
        by_cases hij : j = i
        · subst hij
          have eo : o' = o := Option.some.inj (ho'.symm.trans hoi)
          subst eo
          have eV : V' = V := Option.some.inj (hV'.symm.trans hVi)
          subst eV
          have hdz : d' < a.tmps.size := by rw [hsm.2.1]; exact hz j o' d' hoL' hd'
          unfold Act.put
          rw [hd']
          simp [Array.getD_eq_getD_getElem?, hdz]
          exact hv
        · have hlj : listed.getD j false = true := by
            rw [getD_set_ne false (Ne.symm hij)] at hj; exact hj
          have h2 := hmono j V' hV' w w' _ hr (hh j hlj o' V' d' ho' hV' hd')
          unfold Act.put
          cases hd : o.dst with
          | none => exact h2
          | some d =>
            have hne : d ≠ d' := fun e => hij (apart_of ha hoL' hoL hd' (by rw [hd, e]))
            simp only [Array.getD_eq_getD_getElem?]
            rw [Array.getElem?_setIfInBounds_ne hne]
            simpa [Array.getD_eq_getD_getElem?] using h2
    unfold wpOp
    simp only [hoi]
    have hwt : ∀ ys, Region.wanted o ys = true := fun ys => by simp [Region.wanted, hgo]
    rw [if_pos (hwt _)]
    refine .inl ?_
    unfold Oper.wp
    generalize (execOp a.eval o).run P w = r at hst
    cases r with
    | ok n w' =>
      cases n with
      | value v => exact nxt v w' hst.1 hst.2.1 hst.2.2
      | skip => exact nxt undef w' hst.1 hst.2.1 hst.2.2
      | enter f args => exact Calls.mono hst fun e w'' ⟨v, hv, h⟩ => by subst hv; exact nxt v w'' h.1 h.2.1 h.2.2
      | _ => exact hst.elim
    | halt x w' => exact hst.elim
/-- THE LAW -/
theorem wp_region_kv {id : Nat} {a0 : Act} {w0 : World} {L : List Oper} (R : World → World → Prop) (C : Bool → World → Prop) (j0 : Nat) (Vs : List (World → Value → Prop)) (hm : P.follows .mixedOrders = true) (hlen : Vs.length = L.length) (hb : backB L = true) (hg : L.all (fun o => o.guard.isNone) = true) (ha : apartB L = true)
    (hz : L.all (fun o => match o.dst with | some d => decide (d < a0.tmps.size) | none => true) = true) (hj0 : j0 < L.length) (h0 : C false w0.drew)
    (hmono : ∀ (j : Nat) V, Vs[j]? = some V → ∀ w w' v, R w w' → V w v → V w' v) (hstep : ∀ i, i < L.length → StepV P L.toArray Vs a0 R C j0 i) (hQ : ∀ a w, C true w → SameK L.toArray a0 a → (∀ j, j < L.length → holdsK L.toArray Vs a w j) → Q .normal a w) : (Code.region id L.toArray true).wp P Q a0 w0 := by
  refine wp_region_any hm ?_
  refine wpAny_kv R C j0 Vs hlen hb hg ha (fun j o d ho hd => ?_) hj0 hmono hstep hQ _ _ _ _ (by simp) (by simp) ?_ (fun j oj _ hl => by simp [Array.getElem?_replicate] at hl; split at hl <;> simp at hl) ⟨rfl, rfl, fun _ _ => rfl⟩ ?_
  · have := List.all_eq_true.1 hz o (List.mem_iff_getElem?.2 ⟨j, ho⟩)
    rw [hd] at this
    exact of_decide_eq_true this
  · have e : (Array.replicate L.toArray.size false).getD j0 false = false := by
      simp [Array.getD_eq_getD_getElem?, Array.getElem?_replicate, hj0]
    rw [e]
    exact h0
  · intro j hj
    simp [Array.getElem?_replicate] at hj
    split at hj <;> simp at hj
end
end Go.Proofs.YtbkgmpkednkbcaaGreatDoor
namespace Go.Proofs.YtbkgmpkednkbcaaGreatDoor
open Go Go.RowKit
set_option linter.unusedVariables false
set_option linter.unusedSimpArgs false
theorem callKX {a : Act} {w : World} {o : Oper} {f : FuncId} {args : Array Operand} {tys : Array TypeId} {vals : Array Value} {V : World → Value → Prop} (ho : o.op = Op.call { callee := Callee.value (Operand.func f), args := args, argTypes := tys }) (hev : args.map a.eval = vals) (hcf : (callFunc f vals).run Tryz.prog w = .ok (.enter f vals) w)
    (hC : Calls Tryz.prog f vals w fun e w'' => ∃ v, e = .returned v ∧ (Ext w w'' ∧ V w'' v)) : upK Tryz.prog (fun w' v => Ext w w' ∧ V w' v) ((execOp a.eval o).run Tryz.prog w) := by
  obtain ⟨od, op, oty, ops, oaf, ogd⟩ := o
  simp only at ho
  subst ho
  have e : (execOp a.eval { dst := od, op := Op.call { callee := Callee.value (Operand.func f), args := args, argTypes := tys }, type := oty, pos := ops, after := oaf, guard := ogd }).run Tryz.prog w = .ok (.enter f vals) w := by
    subst hev
    go_simp
  rw [e]
  exact hC
theorem callKV {a : Act} {w : World} {o : Oper} {f : FuncId} {args : Array Operand} {tys : Array TypeId} {vals : Array Value} {V : World → Value → Prop} (ho : o.op = Op.call { callee := Callee.value (Operand.func f), args := args, argTypes := tys }) (hev : args.map a.eval = vals) (hcf : (callFunc f vals).run Tryz.prog w = .ok (.enter f vals) w)
    (hC : Calls Tryz.prog f vals w fun e w'' => ∃ v, e = .returned v ∧ V w'' v) : upK Tryz.prog (fun w' v => V w' v) ((execOp a.eval o).run Tryz.prog w) := by
  obtain ⟨od, op, oty, ops, oaf, ogd⟩ := o
  simp only at ho
  subst ho
  have e : (execOp a.eval { dst := od, op := Op.call { callee := Callee.value (Operand.func f), args := args, argTypes := tys }, type := oty, pos := ops, after := oaf, guard := ogd }).run Tryz.prog w = .ok (.enter f vals) w := by
    subst hev
    go_simp
  rw [e]
  exact hC
theorem dF {d x : Bool} (h : d = true → x = false) (hx : x = true) : d = false := by
  cases d with
  | false => rfl
  | true => rw [h rfl] at hx; cases hx
theorem slotW {ops : Array Oper} {a0 a : Act} {i : Nat} (hs : SameW ops a0 a i) {k : Nat} {v : Value} (h : ∀ (j : Nat) o, ops[j]? = some o → Region.waitsFor .any ops j i = false → o.dst ≠ some k) (hv : a0.tmps[k]? = some v) : a.tmps[k]?.getD undef = v := by
  rw [hs.2.2 k h, hv]; rfl
theorem gb_refl (w : World) (r : Option Nat) : w.grownBy w r := ⟨rfl, rfl, rfl, Nat.le_refl _, fun _ _ _ => rfl⟩
theorem gb_below {w w' : World} (h : Below w.heap.size w w') (r : Option Nat) : w.grownBy w' r := ⟨h.os, h.tape, h.output, h.size, fun i hi _ => h.block i hi⟩
theorem gb_then {a w w' : World} {r : Option Nat} (h : a.grownBy w r) (k : w.grownBy w' r) : a.grownBy w' r :=
  ⟨k.os.trans h.os, k.tape.trans h.tape, k.output.trans h.output, Nat.le_trans h.size k.size, fun i hi hr => (k.block i (Nat.lt_of_lt_of_le hi h.size) hr).trans (h.block i hi hr)⟩
theorem noDstX {L : List Oper} {k : Nat} (h : L.all (fun o => o.dst != some k) = true) : ∀ (j : Nat) o, L.toArray[j]? = some o → o.dst ≠ some k := by
  intro j o ho hd
  have h1 := List.all_eq_true.1 h o (List.mem_iff_getElem?.2 ⟨j, by simpa using ho⟩)
  rw [hd] at h1
  simp at h1
theorem slotX {ops : Array Oper} {a0 a : Act} (hs : SameK ops a0 a) {k : Nat} {v : Value} (h : ∀ (j : Nat) o, ops[j]? = some o → o.dst ≠ some k) (hv : a0.tmps[k]? = some v) : a.tmps[k]?.getD undef = v := by
  rw [hs.2.2 k h, hv]; rfl
theorem getX {a : Act} {k : Nat} {v : Value} (h : a.tmps.getD k undef = v) : a.tmps[k]?.getD undef = v := by rw [← Array.getD_eq_getD_getElem?]; exact h
end Go.Proofs.YtbkgmpkednkbcaaGreatDoor
