/-
  A region that draws its order, whose operations but the last one read or call within a class of worlds, and whose last one (a store) waits for all of them: one walk in the order of the text serves every order. No program; no condition but those in each head.
-/
import Derived.Deep.QuietTactic
import Derived.StillTail
import Derived.WalkKit
namespace Go.Proofs.Ytcnmklgcifdmoaa
open Go Go.RowKit
set_option linter.unusedVariables false
set_option linter.unusedSimpArgs false
/-- an operation that does nothing, at the same place -/
def lzOp (o : Oper) : Oper := { o with op := Op.move (.const (.bool false)) }
/-- each operation waits for earlier ones alone -/
def backB (ops : List Oper) : Bool := (List.range ops.length).all fun j => match ops[j]? with | some o => o.after.all fun e => decide (e.on < j) | none => true
theorem lz_get (l : List Oper) (o : Oper) (i : Nat) (hi : i ≠ l.length) : (l ++ [lzOp o]).toArray[i]? = (l ++ [o]).toArray[i]? := by
  simp only [List.getElem?_toArray]
  rcases Nat.lt_or_ge i l.length with h | h
  · rw [List.getElem?_append_left h, List.getElem?_append_left h]
  · rw [List.getElem?_eq_none (by simp; omega), List.getElem?_eq_none (by simp; omega)]
theorem lz_last (l : List Oper) (o : Oper) : (l ++ [lzOp o]).toArray[l.length]? = some (lzOp o) ∧ (l ++ [o]).toArray[l.length]? = some o := by simp
theorem lz_after (l : List Oper) (o : Oper) (i : Nat) : ((l ++ [lzOp o]).toArray[i]?).map (·.after) = ((l ++ [o]).toArray[i]?).map (·.after) := by
  by_cases h : i = l.length
  · subst h; rw [(lz_last l o).1, (lz_last l o).2]; rfl
  · rw [lz_get l o i h]
theorem lz_ready (md : Region.Mode) (l : List Oper) (o : Oper) (listed : Array Bool) : Region.ready md (l ++ [lzOp o]).toArray listed = Region.ready md (l ++ [o]).toArray listed := by
  unfold Region.ready
  have hs : (l ++ [lzOp o]).toArray.size = (l ++ [o]).toArray.size := by simp
  rw [hs]
  congr 1
  funext i
  congr 1
  have := lz_after l o i
  cases h1 : (l ++ [lzOp o]).toArray[i]? with
  | none => rw [h1] at this; cases h2 : (l ++ [o]).toArray[i]? with
    | none => rfl
    | some b => rw [h2] at this; cases this
  | some a => rw [h1] at this; cases h2 : (l ++ [o]).toArray[i]? with
    | none => rw [h2] at this; cases this
    | some b => rw [h2] at this; simp only [Option.map_some, Option.some.injEq] at this; simp only [Option.map_some, this]
theorem lz_yielded (l : List Oper) (o : Oper) : yielded (l ++ [lzOp o]).toArray = yielded (l ++ [o]).toArray := by
  funext t j
  unfold yielded
  have : ((l ++ [lzOp o]).toArray[j]?).bind (·.dst) = ((l ++ [o]).toArray[j]?).bind (·.dst) := by
    by_cases h : j = l.length
    · subst h; rw [(lz_last l o).1, (lz_last l o).2]; rfl
    · rw [lz_get l o j h]
  rw [this]
/-- where one is left, one may come up -/
theorem ready_some (md : Region.Mode) (L : List Oper) (hb : backB L = true) (listed : Array Bool) (hs : listed.size = L.length) (n : Nat) (hn : n < L.length) (hu : listed.getD n true = false) : Region.ready md L.toArray listed ≠ [] := by
  induction n using Nat.strongRecOn with
  | _ n ih =>
    by_cases hall : ∃ m, m < n ∧ listed.getD m true = false
    · obtain ⟨m, hm, hmu⟩ := hall
      exact ih m hm (by omega) hmu
    · have hin : n ∈ Region.ready md L.toArray listed := by
        refine mem_ready.2 ⟨hu, L[n], by simp [List.getElem?_eq_getElem hn], fun e he _ => ?_⟩
        have h1 := List.all_eq_true.1 hb n (List.mem_range.2 hn)
        rw [List.getElem?_eq_getElem hn] at h1
        obtain ⟨k, hk, rfl⟩ := Array.mem_iff_getElem.1 he
        have h2 := of_decide_eq_true (Array.all_eq_true.1 h1 k hk)
        have h3 : ¬ listed.getD (L[n].after[k]).on true = false := fun h => hall ⟨_, h2, h⟩
        have h4 : (L[n].after[k]).on < listed.size := by omega
        simp only [Array.getD_eq_getD_getElem?, Array.getElem?_eq_getElem h4, Option.getD_some] at h3 ⊢
        cases hq : listed[(L[n].after[k]).on] with
        | true => rfl
        | false => rw [hq] at h3; exact absurd rfl h3
      intro h0
      rw [h0] at hin
      cases hin
/-- an operation that is waited for, at first or at second hand -/
def waits2 (md : Region.Mode) (ops : Array Oper) (n i : Nat) : Bool := Region.waitsFor md ops n i || (List.range n).any (fun k => Region.waitsFor md ops n k && Region.waitsFor md ops k i)
/-- whoever has come up, all that he waits for has come up, too -/
def Closed (md : Region.Mode) (ops : Array Oper) (listed : Array Bool) : Prop := ∀ j oj, ops[j]? = some oj → listed.getD j false = true → ∀ e ∈ oj.after, Region.binds md e = true → listed.getD e.on false = true
theorem Closed.set {md : Region.Mode} {ops : Array Oper} {listed : Array Bool} (h : Closed md ops listed) {i : Nat} (hi : i ∈ Region.ready md ops listed) : Closed md ops (listed.setIfInBounds i true) := by
  obtain ⟨_, oi, hoi, hall⟩ := mem_ready.1 hi
  intro j oj hj hl e he hb
  by_cases hij : i = j
  · subst hij
    have : oj = oi := Option.some.inj (hj.symm.trans hoi)
    subst this
    exact getD_set_true (hall e he hb)
  · rw [getD_set_ne false hij] at hl
    exact getD_set_true (h j oj hj hl e he hb)
theorem Closed.waits {md : Region.Mode} {ops : Array Oper} {listed : Array Bool} (h : Closed md ops listed) {n i : Nat} (hn : n ∈ Region.ready md ops listed) (hw : waits2 md ops n i = true) : listed.getD i false = true := by
  obtain ⟨_, oi, hoi, hall⟩ := mem_ready.1 hn
  have one : ∀ k, Region.waitsFor md ops n k = true → listed.getD k false = true := fun k hk => by
    obtain ⟨oj, hoj, e, he, hbi, hon⟩ := Region.waitsFor_spec hk
    have : oj = oi := Option.some.inj (hoj.symm.trans hoi)
    subst this
    have := hall e he hbi
    rwa [hon] at this
  unfold waits2 at hw
  rw [Bool.or_eq_true] at hw
  rcases hw with hw | hw
  · exact one i hw
  · obtain ⟨k, _, hk⟩ := List.any_eq_true.1 hw
    rw [Bool.and_eq_true] at hk
    obtain ⟨oj, hoj, e, he, hbi, hon⟩ := Region.waitsFor_spec hk.2
    have := h k oj hoj (one k hk.1) e he hbi
    rwa [hon] at this
section
variable {P : Program} {md : Region.Mode} {C : World → Prop} {Q : Exit → Act → World → Prop}
theorem wpAny_last (l : List Oper) (o : Oper) (hg : o.guard = none) (hd : o.dst = none) (hb : backB (l ++ [o]) = true)
    (hw : (List.range l.length).all (fun i => waits2 md (l ++ [o]).toArray l.length i) = true) :
    ∀ (fuel : Nat) (listed : Array Bool) (a : Act) (w : World), C w → Closed md (l ++ [o]).toArray listed → listed.size = l.length + 1 → listed.getD l.length true = false →
      wpAnyQ P md (l ++ [lzOp o]).toArray C (fun a' => ∀ w', C w' → o.wp P a' w' (fun a w => Q .normal a w) Q) fuel listed a →
      wpAny P md (l ++ [o]).toArray Q fuel listed a w := by
  intro fuel
  induction fuel with
  | zero =>
    intro listed a w hC hcl hs hu h
    have := ready_some md (l ++ [o]) hb listed (by simp [hs]) l.length (by simp) hu
    exact absurd (by rw [← lz_ready]; exact h.1) this
  | succ fuel ih =>
    intro listed a w hC hcl hs hu h
    have hne := ready_some md (l ++ [o]) hb listed (by simp [hs]) l.length (by simp) hu
    refine ⟨fun h0 => absurd h0 hne, fun i hi => ?_⟩
    have hq := h.2 i (by rw [lz_ready]; exact hi)
    by_cases hin : i = l.length
    · subst hin
      -- all others have come up
      have hall : ∀ j, j < l.length → listed.getD j false = true := fun j hj => by
        exact hcl.waits hi (List.all_eq_true.1 hw j (List.mem_range.2 hj))
      have hnone : Region.ready md (l ++ [o]).toArray (listed.setIfInBounds l.length true) = [] := by
        apply List.eq_nil_iff_forall_not_mem.2
        intro k hk
        obtain ⟨hku, ok, hok, _⟩ := mem_ready.1 hk
        have hkl : k < l.length + 1 := by have := (Array.getElem?_eq_some_iff.1 hok).1; simpa using this
        by_cases e : k = l.length
        · subst e
          simp [hs] at hku
        · have h2 := hall k (by omega)
          rw [getD_set_ne true (by omega)] at hku
          have h4 : k < listed.size := by omega
          simp only [Array.getD_eq_getD_getElem?, Array.getElem?_eq_getElem h4, Option.getD_some] at hku h2
          rw [h2] at hku
          cases hku
      unfold qOp at hq
      simp only [(lz_last l o).1] at hq
      have hwt : ∀ ys, Region.wanted (lzOp o) ys = true := fun ys => by simp [Region.wanted, lzOp, hg]
      rw [if_pos (hwt _)] at hq
      obtain ⟨v, _, hK⟩ := hq
      have hput : a.put (lzOp o).dst v = a := by
        show a.put o.dst v = a
        rw [hd]; rfl
      rw [hput] at hK
      have hQA : ∀ w', C w' → o.wp P a w' (fun a w => Q .normal a w) Q := by
        cases fuel with
        | zero => exact hK.2
        | succ f => exact hK.1 (by rw [lz_ready]; exact hnone)
      unfold wpOp
      simp only [(lz_last l o).2]
      have hwt2 : ∀ ys, Region.wanted o ys = true := fun ys => by simp [Region.wanted, hg]
      rw [if_pos (hwt2 _)]
      refine .inl (Oper.wp_mono (fun a' w' hq' => ?_) (hQA w hC))
      cases fuel with
      | zero => exact ⟨hnone, hq'⟩
      | succ f => exact ⟨fun _ => hq', by rw [hnone]; simp⟩
    · have he : wpOp P (l ++ [o]).toArray Q i (wpAny P md (l ++ [o]).toArray Q fuel (listed.setIfInBounds i true)) a w = wpOp P (l ++ [lzOp o]).toArray Q i (wpAny P md (l ++ [o]).toArray Q fuel (listed.setIfInBounds i true)) a w := by
        unfold wpOp
        rw [lz_get l o i hin, lz_yielded]
      rw [he]
      refine wpOp_of_qOp hC (fun a' w' hw' hk => ih (listed.setIfInBounds i true) a' w' hw' (hcl.set hi) (by simp [hs]) ?_ hk) hq
      rw [getD_set_ne true hin]
      exact hu
/-- THE LAW -/
theorem wp_region_last {id : Nat} {a : Act} {w : World} (l : List Oper) (o : Oper) (hm : P.follows .mixedOrders = true) (hg : o.guard = none) (hd : o.dst = none) (hb : backB (l ++ [o]) = true)
    (hw : (List.range l.length).all (fun i => waits2 .any (l ++ [o]).toArray l.length i) = true) (hB : Region.lexB .any (l ++ [lzOp o]).toArray = true) (hC : C { w with drawn := w.drawn + 1 })
    (h : wpQuiet P (l ++ [lzOp o]).toArray C (fun a' => ∀ w', C w' → o.wp P a' w' (fun a w => Q .normal a w) Q) (l ++ [lzOp o]) a) : (Code.region id (l ++ [o]).toArray true).wp P Q a w := by
  simp only [Region.lexB, Bool.and_eq_true] at hB
  have hq := wpAnyQ_lex (C := C) (md := .any) hB.1 (l ++ [lzOp o]) 0 (Array.replicate (l ++ [lzOp o]).toArray.size false) a (by simp) (by simpa using hB.2) h
  refine wp_region_any hm ?_
  have := wpAny_last (md := .any) (Q := Q) l o hg hd hb hw _ _ a _ hC (fun j oj _ hl => by simp [Array.getElem?_replicate] at hl; split at hl <;> simp at hl) (by simp) (by simp) hq
  simpa using this
/-- the same, the operations written out as one list -/
theorem wp_region_lastL {id : Nat} {a : Act} {w : World} {L : List Oper} (o : Oper) (hL : L = L.dropLast ++ [o]) (hm : P.follows .mixedOrders = true) (hg : o.guard = none) (hd : o.dst = none) (hb : backB L = true)
    (hw : (List.range L.dropLast.length).all (fun i => waits2 .any L.toArray L.dropLast.length i) = true) (hB : Region.lexB .any (L.dropLast ++ [lzOp o]).toArray = true) (hC : C { w with drawn := w.drawn + 1 })
    (h : wpQuiet P (L.dropLast ++ [lzOp o]).toArray C (fun a' => ∀ w', C w' → o.wp P a' w' (fun a w => Q .normal a w) Q) (L.dropLast ++ [lzOp o]) a) : (Code.region id L.toArray true).wp P Q a w := by
  have := wp_region_last (P := P) (C := C) (Q := Q) (id := id) (a := a) (w := w) L.dropLast o hm hg hd (by rw [← hL]; exact hb) (by rw [← hL]; exact hw) hB hC h
  rwa [← hL] at this
end
end Go.Proofs.Ytcnmklgcifdmoaa
