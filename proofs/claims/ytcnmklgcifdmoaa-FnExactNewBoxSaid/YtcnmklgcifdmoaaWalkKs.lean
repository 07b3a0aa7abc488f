/-
  A region that draws its order, whose operations leave all that was there as it was, but for a tail of it that waits for all of them and runs in the order of the text (stores): one look at each operation, and one walk of the tail. No program; no condition but those in each head.
-/
import Derived.Test.YtcnmklgcifdmoaaWalkKr
namespace Go.Proofs.Ytcnmklgcifdmoaa
open Go Go.RowKit
set_option linter.unusedVariables false
set_option linter.unusedSimpArgs false
/-- each operation of the tail s waits for all of l and for those of s ahead of it -/
def tailB (l s : List Oper) : Bool := (List.range s.length).all fun j => (List.range (l.length + j)).all fun i => waits2 .any (l ++ s).toArray (l.length + j) i
theorem tail_of {l s : List Oper} (h : tailB l s = true) {j i : Nat} (hj : j < s.length) (hi : i < l.length + j) : waits2 .any (l ++ s).toArray (l.length + j) i = true :=
  List.all_eq_true.1 (List.all_eq_true.1 h j (List.mem_range.2 hj)) i (List.mem_range.2 hi)
/-- a list of operations one behind the other, of which none may stop -/
def wpTail (P : Program) (Q : Exit → Act → World → Prop) : List Oper → Act → World → Prop
  | [], a, w => Q .normal a w
  | o :: r, a, w => o.wp P a w (fun a w => wpTail P Q r a w) Q
section
variable {P : Program} {Q : Exit → Act → World → Prop}
/-- all of l has come up, and s up to m: the rest runs in the order of the text -/
theorem wpAny_tail (l s : List Oper) (hb : backB (l ++ s) = true) (ht : tailB l s = true) (hg : s.all (fun o => o.guard.isNone) = true) :
    ∀ (fuel m : Nat) (listed : Array Bool) (a : Act) (w : World), m ≤ s.length → s.length - m ≤ fuel → listed.size = (l ++ s).length → Closed .any (l ++ s).toArray listed → (∀ i, i < (l ++ s).length → (listed.getD i false = true ↔ i < l.length + m)) →
      wpTail P Q (s.drop m) a w → wpAny P .any (l ++ s).toArray Q fuel listed a w := by
  have nil : ∀ (listed : Array Bool), listed.size = (l ++ s).length → (∀ i, i < (l ++ s).length → (listed.getD i false = true ↔ i < l.length + s.length)) → Region.ready .any (l ++ s).toArray listed = [] := by
    intro listed hs hl
    apply List.eq_nil_iff_forall_not_mem.2
    intro k hk
    obtain ⟨hku, ok, hok, _⟩ := mem_ready.1 hk
    have hkl : k < (l ++ s).length := by have := (Array.getElem?_eq_some_iff.1 hok).1; simpa using this
    have h2 := (hl k hkl).2 (by simpa using hkl)
    have h4 : k < listed.size := by omega
    simp only [Array.getD_eq_getD_getElem?, Array.getElem?_eq_getElem h4, Option.getD_some] at hku h2
    rw [h2] at hku
    cases hku
  intro fuel
  induction fuel with
  | zero =>
    intro m listed a w hm hf hs hc hl h
    obtain rfl : m = s.length := by omega
    rw [List.drop_length] at h
    exact ⟨nil listed hs hl, h⟩
  | succ fuel ih =>
    intro m listed a w hm hf hs hc hl h
    by_cases hme : m = s.length
    · subst hme
      rw [List.drop_length] at h
      have hn := nil listed hs hl
      exact ⟨fun _ => h, by rw [hn]; simp⟩
    · have hms : m < s.length := by omega
      have hn : l.length + m < (l ++ s).length := by simp; omega
      have hne := ready_some .any (l ++ s) hb listed hs (l.length + m) hn (by
        have h3 : ¬ listed.getD (l.length + m) false = true := fun hh => by have := (hl _ hn).1 hh; omega
        have h4 : l.length + m < listed.size := by omega
        simp only [Array.getD_eq_getD_getElem?, Array.getElem?_eq_getElem h4, Option.getD_some] at h3 ⊢
        cases hq : listed[l.length + m] with
        | true => rw [hq] at h3; exact absurd rfl h3
        | false => rfl)
      refine ⟨fun h0 => absurd h0 hne, fun i hi => ?_⟩
      obtain ⟨hiu, oi, hoi, hall⟩ := mem_ready.1 hi
      have hiL : i < (l ++ s).length := by have := (Array.getElem?_eq_some_iff.1 hoi).1; simpa using this
      have hig : ¬ i < l.length + m := fun hlt => by
        have h2 := (hl i hiL).2 hlt
        have h4 : i < listed.size := by omega
        simp only [Array.getD_eq_getD_getElem?, Array.getElem?_eq_getElem h4, Option.getD_some] at hiu h2
        rw [h2] at hiu
        cases hiu
      have hi2 : i = l.length + m := by
        obtain ⟨j, rfl⟩ : ∃ j, i = l.length + j := ⟨i - l.length, by omega⟩
        rcases Nat.lt_or_ge m j with hlt | hge
        · have hjs : j < s.length := by simp at hiL; omega
          have h3 := hc.waits hi (tail_of ht hjs (i := l.length + m) (by omega))
          have := (hl _ hn).1 h3
          omega
        · omega
      subst hi2
      have hoi' : (l ++ s)[l.length + m]? = some oi := by simpa using hoi
      rw [List.getElem?_append_right (by omega), Nat.add_sub_cancel_left] at hoi'
      have hd : s.drop m = oi :: s.drop (m + 1) := by
        have := List.drop_eq_getElem_cons hms
        rw [List.getElem?_eq_getElem hms] at hoi'
        rw [this, Option.some.inj hoi']
      rw [hd] at h
      have hgo : oi.guard = none := by
        have := List.all_eq_true.1 hg oi (List.mem_iff_getElem?.2 ⟨m, hoi'⟩)
        simpa using this
      unfold wpOp
      simp only [hoi]
      have hwt : ∀ ys, Region.wanted oi ys = true := fun ys => by simp [Region.wanted, hgo]
      rw [if_pos (hwt _)]
      refine .inl (Oper.wp_mono (fun a' w' hq => ?_) h)
      refine ih (m + 1) _ a' w' (by omega) (by omega) (by simpa using hs) (hc.set hi) (fun k hk => ?_) hq
      by_cases hkm : k = l.length + m
      · subst hkm
        have h4 : l.length + m < listed.size := by omega
        simp [Array.getD_eq_getD_getElem?, h4]
      · rw [getD_set_ne false (Ne.symm hkm), hl k hk]
        omega
theorem count_tail (L : List Bool) (n k : Nat) (hs : L.length = n + k) (h : ∀ j, n ≤ j → L[j]? ≠ some true) : k ≤ L.count false := by
  have h1 : (L.drop n).count false = (L.drop n).length := by
    rw [List.count_eq_length]
    intro b hb
    obtain ⟨j, hj⟩ := List.mem_iff_getElem?.1 hb
    rw [List.getElem?_drop] at hj
    have := h (n + j) (by omega)
    cases b with
    | false => rfl
    | true => exact absurd hj this
  have h2 : L.count false = (L.take n).count false + (L.drop n).count false := by rw [← List.count_append, List.take_append_drop]
  rw [h1, List.length_drop] at h2
  omega
theorem wpAny_krs {a0 : Act} {w0 : World} {l s : List Oper} (Vs : List (World → Value → Prop)) (hlen : Vs.length = l.length) (hb : backB (l ++ s) = true) (ht : tailB l s = true) (hg : (l ++ s).all (fun o => o.guard.isNone) = true) (ha : apartB l = true)
    (hz : ∀ (j : Nat) o d, l[j]? = some o → o.dst = some d → d < a0.tmps.size) (hmono : ∀ (j : Nat) V, Vs[j]? = some V → ∀ w w' v, Ext w w' → V w v → V w' v)
    (hstep : ∀ i, i < l.length → StepK P (l ++ s).toArray Vs a0 w0 i) (hQ : ∀ a w, Ext w0 w → SameK (l ++ s).toArray a0 a → (∀ j, j < l.length → holdsK (l ++ s).toArray Vs a w j) → wpTail P Q s a w) :
    ∀ (fuel : Nat) (listed : Array Bool) (a : Act) (w : World), listed.size = (l ++ s).length → listed.toList.count false ≤ fuel → Closed .any (l ++ s).toArray listed → (∀ j, l.length ≤ j → listed.getD j false = false) → Ext w0 w → SameK (l ++ s).toArray a0 a → (∀ j, listed.getD j false = true → holdsK (l ++ s).toArray Vs a w j) → wpAny P .any (l ++ s).toArray Q fuel listed a w := by
  have hgs : s.all (fun o => o.guard.isNone) = true := by
    rw [List.all_append, Bool.and_eq_true] at hg; exact hg.2
  have fin : ∀ (fuel : Nat) (listed : Array Bool) (a : Act) (w : World), listed.size = (l ++ s).length → listed.toList.count false ≤ fuel → Closed .any (l ++ s).toArray listed → (∀ j, l.length ≤ j → listed.getD j false = false) → Ext w0 w → SameK (l ++ s).toArray a0 a → (∀ j, listed.getD j false = true → holdsK (l ++ s).toArray Vs a w j) → (∀ i, i < l.length → listed.getD i false = true) → wpAny P .any (l ++ s).toArray Q fuel listed a w := by
    intro fuel listed a w hs hc hcl hno he hsm hh hall
    refine wpAny_tail l s hb ht hgs fuel 0 listed a w (Nat.zero_le _) ?_ hs hcl (fun i hi => ?_) (hQ a w he hsm fun j hj => hh j (hall j hj))
    · have := count_tail listed.toList l.length s.length (by simpa using hs) (fun j hj hjt => by
        have h2 := hno j hj
        have h3 : listed[j]? = some true := by simpa using hjt
        simp [Array.getD_eq_getD_getElem?, h3] at h2)
      omega
    · constructor
      · intro h1
        rcases Nat.lt_or_ge i (l.length + 0) with h | h
        · exact h
        · have := hno i h; rw [this] at h1; cases h1
      · intro h; exact hall i h
  intro fuel
  induction fuel with
  | zero =>
    intro listed a w hs hc hcl hno he hsm hh
    refine fin 0 listed a w hs hc hcl hno he hsm hh (fun i hi => ?_)
    have h4 : i < listed.size := by simp at hs; omega
    have h0 : listed.toList.count false = 0 := by omega
    have h1 := List.count_eq_zero.1 h0
    cases hq : listed.getD i false with
    | true => rfl
    | false =>
      simp only [Array.getD_eq_getD_getElem?, Array.getElem?_eq_getElem h4, Option.getD_some] at hq
      exact absurd (by rw [← hq]; simp) h1
  | succ fuel ih =>
    intro listed a w hs hc hcl hno he hsm hh
    by_cases hall : ∀ i, i < l.length → listed.getD i false = true
    · exact fin _ listed a w hs hc hcl hno he hsm hh hall
    have hne : Region.ready .any (l ++ s).toArray listed ≠ [] := by
      intro h0
      apply hall
      intro i hi
      cases hq : listed.getD i false with
      | true => rfl
      | false =>
        have h4 : i < listed.size := by simp at hs; omega
        refine absurd h0 (ready_some .any (l ++ s) hb listed hs i (by simp; omega) ?_)
        simp only [Array.getD_eq_getD_getElem?, Array.getElem?_eq_getElem h4, Option.getD_some] at hq ⊢
        exact hq
    refine ⟨fun h0 => absurd h0 hne, fun i hi => ?_⟩
    obtain ⟨hiu, o, hoi, hafter⟩ := mem_ready.1 hi
    have hiL : i < (l ++ s).length := by have := (Array.getElem?_eq_some_iff.1 hoi).1; simpa using this
    have hil : i < l.length := by
      rcases Nat.lt_or_ge i l.length with h | h
      · exact h
      · refine absurd (fun k hk => ?_) hall
        obtain ⟨j, rfl⟩ : ∃ j, i = l.length + j := ⟨i - l.length, by omega⟩
        exact hcl.waits hi (tail_of ht (by simp at hiL; omega) (by omega))
    have hoL : (l ++ s)[i]? = some o := by simpa using hoi
    have hol : l[i]? = some o := by rwa [List.getElem?_append_left hil] at hoL
    have hVi : Vs[i]? = some (Vs[i]'(by omega)) := List.getElem?_eq_getElem (by omega)
    generalize Vs[i]'(by omega) = V at hVi
    have hgo : o.guard = none := by
      have := List.all_eq_true.1 hg o (List.mem_iff_getElem?.2 ⟨i, hoL⟩)
      simpa using this
    have hst := hstep i hil o V hoi hVi a w he hsm (fun e hea hbi => hh e.on (hafter e hea hbi))
    have h4 : i < listed.size := by omega
    have hlf : listed.toList[i]? = some false := by
      simp only [Array.getD_eq_getD_getElem?, Array.getElem?_eq_getElem h4, Option.getD_some] at hiu
      simp [h4, hiu]
    have nxt : ∀ v w', Ext w w' → V w' v → wpAny P .any (l ++ s).toArray Q fuel (listed.setIfInBounds i true) (a.put o.dst v) w' := by
      intro v w' hew hv
      refine ih _ _ _ (by simpa using hs) ?_ (hcl.set hi) (fun j hj => ?_) (Ext.trans' he hew) ?_ ?_
      · have := cnt_set listed.toList i hlf
        simp only [Array.toList_setIfInBounds]
        omega
      · rw [getD_set_ne false (by omega)]; exact hno j hj
      · obtain ⟨s1, s2, s3⟩ := hsm
        unfold Act.put
        cases hd : o.dst with
        | none => exact ⟨s1, s2, s3⟩
        | some d =>
          refine ⟨s1, by simp [s2], fun k hk => ?_⟩
          have hne : d ≠ k := fun e => hk i o hoi (by rw [hd, e])
          simp only
          rw [Array.getElem?_setIfInBounds_ne hne]
          exact s3 k hk
      · intro j hj o' V' d' ho' hV' hd'
        have hjl : j < l.length := by have := (List.getElem?_eq_some_iff.1 hV').1; omega
        have hoL' : l[j]? = some o' := by
          have : (l ++ s)[j]? = some o' := by simpa using ho'
          rwa [List.getElem?_append_left hjl] at this
        by_cases hij : j = i
        · subst hij
          have eo : o' = o := Option.some.inj (ho'.symm.trans hoi)
          subst eo
          have eV : V' = V := Option.some.inj (hV'.symm.trans hVi)
          subst eV
          have hdz : d' < a.tmps.size := by rw [hsm.2.1]; exact hz j o' d' hoL' hd'
          unfold Act.put
          rw [hd']
          simp [Array.getD_eq_getD_getElem?, hdz]
          exact hv
        · have hlj : listed.getD j false = true := by
            rw [getD_set_ne false (Ne.symm hij)] at hj; exact hj
          have := hh j hlj o' V' d' ho' hV' hd'
          have h2 := hmono j V' hV' w w' _ hew this
          unfold Act.put
          cases hd : o.dst with
          | none => exact h2
          | some d =>
            have hne : d ≠ d' := fun e => hij (apart_of ha hoL' hol hd' (by rw [hd, e]))
            simp only [Array.getD_eq_getD_getElem?]
            rw [Array.getElem?_setIfInBounds_ne hne]
            simpa [Array.getD_eq_getD_getElem?] using h2
    unfold wpOp
    simp only [hoi]
    have hwt : ∀ ys, Region.wanted o ys = true := fun ys => by simp [Region.wanted, hgo]
    rw [if_pos (hwt _)]
    refine .inl ?_
    unfold Oper.wp
    generalize (execOp a.eval o).run P w = r at hst
    cases r with
    | ok n w' =>
      cases n with
      | value v => exact nxt v w' hst.1 hst.2
      | skip => exact nxt undef w' hst.1 hst.2
      | enter f args => exact Calls.mono hst fun e w'' ⟨v, hv, h⟩ => by subst hv; exact nxt v w'' h.1 h.2
      | _ => exact hst.elim
    | halt x w' => exact hst.elim
/-- THE LAW -/
theorem wp_region_krs {id : Nat} {a0 : Act} {w0 : World} {L : List Oper} (n : Nat) (Vs : List (World → Value → Prop)) (hm : P.follows .mixedOrders = true) (hlen : Vs.length = (L.take n).length) (hb : backB L = true) (ht : tailB (L.take n) (L.drop n) = true) (hg : L.all (fun o => o.guard.isNone) = true) (ha : apartB (L.take n) = true)
    (hz : (L.take n).all (fun o => match o.dst with | some d => decide (d < a0.tmps.size) | none => true) = true) (hmono : ∀ (j : Nat) V, Vs[j]? = some V → ∀ w w' v, Ext w w' → V w v → V w' v)
    (hstep : ∀ i, i < (L.take n).length → StepK P L.toArray Vs a0 w0 i) (hQ : ∀ a w, Ext w0 w → SameK L.toArray a0 a → (∀ j, j < (L.take n).length → holdsK L.toArray Vs a w j) → wpTail P Q (L.drop n) a w) : (Code.region id L.toArray true).wp P Q a0 w0 := by
  have e := List.take_append_drop n L
  refine wp_region_any hm ?_
  have := wpAny_krs (P := P) (Q := Q) (a0 := a0) (w0 := w0) (l := L.take n) (s := L.drop n) Vs hlen (by rw [e]; exact hb) ht (by rw [e]; exact hg) ha (fun j o d ho hd => by
    have := List.all_eq_true.1 hz o (List.mem_iff_getElem?.2 ⟨j, ho⟩)
    rw [hd] at this
    exact of_decide_eq_true this) hmono (by rw [e]; exact hstep) (by rw [e]; exact hQ)
  rw [e] at this
  refine this _ _ _ _ (by simp) (by simp) (fun j oj _ hl => by simp [Array.getElem?_replicate] at hl; split at hl <;> simp at hl) (fun j hj => ?_) ⟨rfl, rfl, rfl, Nat.le_refl _, fun _ _ => rfl⟩ ⟨rfl, rfl, fun _ _ => rfl⟩ ?_
  · simp [Array.getD_eq_getD_getElem?, Array.getElem?_replicate]; split <;> simp
  · intro j hj
    simp [Array.getElem?_replicate] at hj
    split at hj <;> simp at hj
end
theorem fold_lit (A : Array Value) : ∀ (D : List Nat) (t : Array Value), t.size = A.size → (∀ k, k ∉ D → t[k]? = A[k]?) → D.foldl (fun t d => t.setIfInBounds d (A.getD d undef)) t = A
  | [], t, hs, h => by
    apply Array.ext hs
    intro i h1 h2
    have := h i (by simp)
    rw [Array.getElem?_eq_getElem h1, Array.getElem?_eq_getElem h2] at this
    exact Option.some.inj this
  | d :: D, t, hs, h => by
    rw [List.foldl_cons]
    refine fold_lit A D _ (by simpa using hs) fun k hk => ?_
    by_cases e : d = k
    · subst e
      by_cases hd : d < A.size
      · have h3 : d < t.size := by omega
        simp [h3, hd, Array.getD_eq_getD_getElem?]
      · rw [Array.getElem?_eq_none (by simp; omega), Array.getElem?_eq_none (by omega)]
    · rw [Array.getElem?_setIfInBounds_ne e]
      exact h k (by simp; exact ⟨fun h => e h.symm, hk⟩)
/-- the frame behind a region: as it was, but for the slots D -/
theorem same_lit {ops : List Oper} {a0 a : Act} (h : SameK ops.toArray a0 a) (D : List Nat) (hD : ops.all (fun o => match o.dst with | some d => D.contains d | none => true) = true) : a = ⟨D.foldl (fun t d => t.setIfInBounds d (a.tmps.getD d undef)) a0.tmps, a0.defers⟩ := by
  obtain ⟨h1, h2, h3⟩ := h
  have e := fold_lit a.tmps D a0.tmps h2.symm (fun k hk => (h3 k (fun j o ho hd => by
    have h4 := List.all_eq_true.1 hD o (List.mem_iff_getElem?.2 ⟨j, by simpa using ho⟩)
    rw [hd] at h4
    simp at h4
    exact hk h4)).symm)
  rw [e, ← h1]
theorem fold_list (A : Array Value) : ∀ (D : List Nat) (t : Array Value), (D.foldl (fun t d => t.setIfInBounds d (A.getD d undef)) t).toList = D.foldl (fun t d => t.set d (A.getD d undef)) t.toList
  | [], t => rfl
  | d :: D, t => by
    rw [List.foldl_cons, List.foldl_cons, fold_list A D]
    simp
/-- the same as lists: no proof stands within it -/
theorem same_litL {ops : List Oper} {a0 a : Act} (h : SameK ops.toArray a0 a) (D : List Nat) (hD : ops.all (fun o => match o.dst with | some d => D.contains d | none => true) = true) (l0 : List Value) (hl : a0.tmps = l0.toArray) : a = ⟨(D.foldl (fun t d => t.set d (a.tmps.getD d undef)) l0).toArray, a0.defers⟩ := by
  have e := same_lit h D hD
  have e2 := fold_list a.tmps D a0.tmps
  rw [hl] at e2
  rw [show a.tmps = a.tmps from rfl] at e
  have e3 : D.foldl (fun t d => t.setIfInBounds d (a.tmps.getD d undef)) a0.tmps = (D.foldl (fun t d => t.set d (a.tmps.getD d undef)) l0).toArray := by
    apply Array.ext'
    rw [hl, e2]
  rw [e3] at e
  exact e
end Go.Proofs.Ytcnmklgcifdmoaa
