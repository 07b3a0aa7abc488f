/-
  When an image is right, and what is wrong else: what CheckImage answers, said of an entry and a list of segments; no condition but those in each head.
-/
import Derived.Test.YtcchcinnjahghaaDoorMathImg
namespace Go.Proofs.YtcchcinnjahghaaDoor
set_option linter.unusedVariables false
/-- the offset behind the last page of what ends at n -/
def wpN (n : Int) : Int := (n + 255) / 256 * 256
def fOk (x : Sg) : Bool := decide (x.f = 4) || decide (x.f = 5) || decide (x.f = 6)
def fitB (free : Int) (x : Sg) : Bool := decide (x.v.tmod 256 = 0) && (decide (free ≤ x.v) && decide (x.v ≤ 3583)) && (decide (1 ≤ x.m) && decide (x.m ≤ 3584 - x.v)) && decide ((x.d.size : Int) ≤ x.m)
def codeB (x : Sg) : Bool := decide ((x.d.size : Int) = x.m) && decide (x.m.tmod 32 = 0)
/-- the code of a segment behind those ahead: free is the first offset that is free, run tells whether there is one of code -/
def segC (free : Int) (run : Bool) (x : Sg) : Int :=
  if fOk x = false then 14 else if fitB free x = false then 31 else if x.f = 5 ∧ (run = true ∨ codeB x = false) then 28 else 0
def freeOf (l : List Sg) : Int := match l.getLast? with | none => 512 | some x => wpN (x.v + x.m)
def runOf (l : List Sg) : Bool := l.any (fun x => decide (x.f = 5))
def OkTo (l : List Sg) (k : Nat) : Prop := ∀ j x, j < k → l[j]? = some x → segC (freeOf (l.take j)) (runOf (l.take j)) x = 0
def FirstRun (l : List Sg) (k : Nat) (x : Sg) : Prop := l[k]? = some x ∧ x.f = 5 ∧ ∀ j y, j < k → l[j]? = some y → y.f ≠ 5
def entB (e : Int) (x : Sg) : Bool := (decide (x.v ≤ e) && decide (e < x.v + x.m)) && decide (e.tmod 32 = 0)
/-- what CheckImage answers of the entry e and the segments l -/
inductive Chk (e : Int) (l : List Sg) : Nat → Int → Prop
  | none : l.length = 0 → Chk e l 0 5
  | many : 4 < l.length → Chk e l 0 6
  | seg (k : Nat) (x : Sg) : l.length ≤ 4 → OkTo l k → l[k]? = some x → segC (freeOf (l.take k)) (runOf (l.take k)) x ≠ 0 → Chk e l k (segC (freeOf (l.take k)) (runOf (l.take k)) x)
  | norun : 0 < l.length → l.length ≤ 4 → OkTo l l.length → (∀ (j : Nat) (y : Sg), l[j]? = some y → y.f ≠ 5) → Chk e l 0 28
  | entry (k : Nat) (x : Sg) : l.length ≤ 4 → OkTo l l.length → FirstRun l k x → entB e x = false → Chk e l 0 32
  | ok (k : Nat) (x : Sg) : l.length ≤ 4 → OkTo l l.length → FirstRun l k x → entB e x = true → Chk e l 0 0
theorem okTo_or (l : List Sg) (n : Nat) (hn : n ≤ l.length) : OkTo l n ∨ ∃ k x, k < n ∧ OkTo l k ∧ l[k]? = some x ∧ segC (freeOf (l.take k)) (runOf (l.take k)) x ≠ 0 := by
  induction n with
  | zero => exact .inl (fun j x h => by omega)
  | succ n ih =>
    rcases ih (by omega) with h | ⟨k, x, hk, h⟩
    · have hx : l[n]? = some (l[n]'(by omega)) := List.getElem?_eq_getElem (by omega)
      by_cases hc : segC (freeOf (l.take n)) (runOf (l.take n)) (l[n]'(by omega)) = 0
      · refine .inl (fun j x hj hx' => ?_)
        by_cases e : j = n
        · subst e; rw [hx] at hx'; cases hx'; exact hc
        · exact h j x (by omega) hx'
      · exact .inr ⟨n, _, by omega, h, hx, hc⟩
    · exact .inr ⟨k, x, by omega, h⟩
theorem run_or (l : List Sg) (n : Nat) (hn : n ≤ l.length) : (∀ (j : Nat) (y : Sg), j < n → l[j]? = some y → y.f ≠ 5) ∨ ∃ k x, k < n ∧ FirstRun l k x := by
  induction n with
  | zero => exact .inl (fun j x h => by omega)
  | succ n ih =>
    rcases ih (by omega) with h | ⟨k, x, hk, h⟩
    · have hx : l[n]? = some (l[n]'(by omega)) := List.getElem?_eq_getElem (by omega)
      by_cases hc : (l[n]'(by omega)).f = 5
      · exact .inr ⟨n, _, by omega, hx, hc, h⟩
      · refine .inl (fun j x hj hx' => ?_)
        by_cases e : j = n
        · subst e; rw [hx] at hx'; cases hx'; exact hc
        · exact h j x (by omega) hx'
    · exact .inr ⟨k, x, by omega, h⟩
theorem chk_all (e : Int) (l : List Sg) : ∃ n c, Chk e l n c := by
  by_cases h0 : l.length = 0
  · exact ⟨_, _, .none h0⟩
  by_cases h4 : 4 < l.length
  · exact ⟨_, _, .many h4⟩
  rcases okTo_or l l.length (Nat.le_refl _) with h | ⟨k, x, hk, h, hx, hc⟩
  · rcases run_or l l.length (Nat.le_refl _) with hr | ⟨k, x, hk, hr⟩
    · exact ⟨_, _, .norun (by omega) (by omega) h (fun j y hy => hr j y (List.getElem?_eq_some_iff.1 hy).1 hy)⟩
    · cases he : entB e x with
      | false => exact ⟨_, _, .entry k x (by omega) h hr he⟩
      | true => exact ⟨_, _, .ok k x (by omega) h hr he⟩
  · exact ⟨_, _, .seg k x (by omega) h hx hc⟩
theorem take_snoc {l : List Sg} {k : Nat} {x : Sg} (h : l[k]? = some x) : l.take (k + 1) = l.take k ++ [x] := by
  rw [List.take_add_one, h]; rfl
theorem free_snoc {l : List Sg} {k : Nat} {x : Sg} (h : l[k]? = some x) : freeOf (l.take (k + 1)) = wpN (x.v + x.m) := by
  rw [take_snoc h]; unfold freeOf; rw [List.getLast?_concat]
theorem run_snoc {l : List Sg} {k : Nat} {x : Sg} (h : l[k]? = some x) : runOf (l.take (k + 1)) = (runOf (l.take k) || decide (x.f = 5)) := by
  rw [take_snoc h]; unfold runOf; simp
/-- what a segment whose code is 0 has -/
theorem seg_ok {free : Int} {run : Bool} {x : Sg} (hf : 512 ≤ free) (h : segC free run x = 0) : fOk x = true ∧ fitB free x = true ∧ (x.f = 5 → run = false ∧ codeB x = true) ∧ free ≤ x.v ∧ x.v ≤ 3583 ∧ 1 ≤ x.m ∧ x.m ≤ 3584 - x.v ∧ (x.d.size : Int) ≤ x.m := by
  unfold segC at h
  cases h1 : fOk x with
  | false => rw [h1] at h; simp at h
  | true =>
    rw [h1] at h
    cases h2 : fitB free x with
    | false => rw [h2] at h; simp at h
    | true =>
      rw [h2] at h
      simp at h
      have h2' := h2
      unfold fitB at h2'
      simp at h2'
      obtain ⟨⟨⟨_, a, b⟩, c, d⟩, e⟩ := h2'
      refine ⟨rfl, rfl, fun h5 => ?_, a, b, c, d, e⟩
      have := h h5
      cases hc : codeB x <;> simp_all
theorem okTo_free {l : List Sg} {k : Nat} (h : OkTo l k) (hk : k ≤ l.length) : 512 ≤ freeOf (l.take k) ∧ freeOf (l.take k) ≤ 3584 := by
  induction k with
  | zero => simp [freeOf]
  | succ k ih =>
    have hx : l[k]? = some (l[k]'(by omega)) := List.getElem?_eq_getElem (by omega)
    have i := ih (fun j x hj => h j x (by omega)) (by omega)
    have s := seg_ok i.1 (h k _ (by omega) hx)
    rw [free_snoc hx]
    unfold wpN
    omega
theorem okTo_mono {l : List Sg} {k j : Nat} (h : OkTo l k) (hj : j ≤ k) : OkTo l j := fun i x hi => h i x (by omega)
/-- each segment ahead of k has these bounds -/
theorem okTo_at {l : List Sg} {k j : Nat} {x : Sg} (h : OkTo l k) (hk : k ≤ l.length) (hj : j < k) (hx : l[j]? = some x) : 512 ≤ x.v ∧ x.v ≤ 3583 ∧ 1 ≤ x.m ∧ x.m ≤ 3584 - x.v ∧ (x.d.size : Int) ≤ x.m := by
  have f := okTo_free (okTo_mono h (Nat.le_of_lt hj)) (by omega)
  have s := seg_ok f.1 (h j x hj hx)
  omega
theorem run_none {l : List Sg} {k : Nat} (h : runOf (l.take k) = false) {j : Nat} {x : Sg} (hj : j < k) (hx : l[j]? = some x) : x.f ≠ 5 := by
  unfold runOf at h
  simp only [List.any_eq_false, decide_eq_true_eq] at h
  refine h x ?_
  rw [List.mem_iff_getElem?]
  exact ⟨j, by rw [List.getElem?_take, if_pos hj]; exact hx⟩
theorem run_some {l : List Sg} {k j : Nat} {x : Sg} (hj : j < k) (hx : l[j]? = some x) (h : x.f = 5) : runOf (l.take k) = true := by
  unfold runOf
  simp only [List.any_eq_true, decide_eq_true_eq]
  exact ⟨x, by rw [List.mem_iff_getElem?]; exact ⟨j, by rw [List.getElem?_take, if_pos hj]; exact hx⟩, h⟩
end Go.Proofs.YtcchcinnjahghaaDoor
