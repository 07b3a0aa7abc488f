/-
  Plain facts on lists of pages: their cells, when a list is a memory that is right, which page has an address; no condition but those in each head.
-/
import Derived.Test.YtbkgmpkednkbcaaGreatDoorBytes
import Derived.Lib.SmallJoins
import Derived.Handy
namespace Go.Proofs.YtbkgmpkednkbcaaGreatDoor
open Go.RowKit
structure Pg where
  b : Int
  p : Int
  d : ByteArray
def pv (x : Pg) : List Value := [.int .i64 x.b, .int .i64 x.p, .string x.d]
def PV (l : List Pg) : List Value := l.flatMap pv
theorem pv_len (x : Pg) : (pv x).length = 3 := rfl
theorem PV_nil : PV [] = [] := rfl
theorem PV_cons (x : Pg) (l : List Pg) : PV (x :: l) = pv x ++ PV l := rfl
theorem PV_app (a b : List Pg) : PV (a ++ b) = PV a ++ PV b := by simp [PV]
theorem PV_len (l : List Pg) : (PV l).length = l.length * 3 := by
  induction l with
  | nil => rfl
  | cons x l ih => rw [PV_cons, List.length_append, ih, pv_len, List.length_cons]; omega
theorem PV_one (l : List Pg) : ∀ u ∈ PV l, u.oneCell' = true := by
  intro u hu
  simp only [PV, List.mem_flatMap, pv, List.mem_cons, List.not_mem_nil, or_false] at hu
  obtain ⟨x, _, h⟩ := hu
  rcases h with rfl | rfl | rfl <;> rfl
theorem PV_at {l : List Pg} {k : Nat} {x : Pg} (h : l[k]? = some x) (i : Nat) (hi : i < 3) : (PV l)[k * 3 + i]? = (pv x)[i]? := by
  induction l generalizing k with
  | nil => simp at h
  | cons y l ih =>
    cases k with
    | zero =>
      simp only [List.getElem?_cons_zero, Option.some.injEq] at h
      subst h
      rw [PV_cons, Nat.zero_mul, Nat.zero_add, List.getElem?_append_left (by rw [pv_len]; omega)]
    | succ k =>
      simp only [List.getElem?_cons_succ] at h
      rw [PV_cons, List.getElem?_append_right (by rw [pv_len]; omega), pv_len, ← ih h]
      congr 1; omega
theorem PV_of {l : List Pg} {j : Nat} {u : Value} (h : (PV l)[j]? = some u) : ∃ x, l[j / 3]? = some x ∧ (pv x)[j % 3]? = some u := by
  have hj : j < l.length * 3 := by rw [← PV_len]; exact (List.getElem?_eq_some_iff.1 h).1
  have hk : j / 3 < l.length := by omega
  refine ⟨l[j / 3], List.getElem?_eq_getElem hk, ?_⟩
  rw [← PV_at (List.getElem?_eq_getElem hk) (j % 3) (by omega), ← h]
  congr 1; omega
theorem PV_take (l : List Pg) (n : Nat) : PV (l.take n) = (PV l).take (n * 3) := by
  induction l generalizing n with
  | nil => simp [PV]
  | cons x l ih =>
    cases n with
    | zero => simp [PV]
    | succ n =>
      rw [List.take_succ_cons, PV_cons, PV_cons, ih, List.take_append, pv_len, List.take_of_length_le (l := pv x) (by rw [pv_len]; omega)]
      congr 2; omega
def PgOk (x : Pg) : Prop := 0 ≤ x.b ∧ x.b ≤ 65535 ∧ x.b % 256 = 0 ∧ 0 ≤ x.p ∧ x.p ≤ 7 ∧ x.d.size = 256
def MemOk (l : List Pg) : Prop := l.length ≤ 32 ∧ (∀ (k : Nat) x, l[k]? = some x → PgOk x) ∧ ∀ (k : Nat) x y, l[k]? = some x → l[k + 1]? = some y → x.b < y.b
noncomputable def okB (l : List Pg) : Bool := @decide (MemOk l) (Classical.propDecidable _)
theorem okB_yes {l : List Pg} (h : MemOk l) : okB l = true := by unfold okB; exact @decide_eq_true _ (Classical.propDecidable _) h
theorem okB_no {l : List Pg} (h : ¬ MemOk l) : okB l = false := by unfold okB; exact @decide_eq_false _ (Classical.propDecidable _) h
theorem MemOk.lt {l : List Pg} (h : MemOk l) {i j : Nat} {x y : Pg} (hij : i < j) (hi : l[i]? = some x) (hj : l[j]? = some y) : x.b < y.b := by
  induction j generalizing y with
  | zero => omega
  | succ j ih =>
    have hjl : j + 1 < l.length := (List.getElem?_eq_some_iff.1 hj).1
    have hz : l[j]? = some (l[j]'(by omega)) := List.getElem?_eq_getElem (by omega)
    have h2 := h.2.2 j _ _ hz hj
    by_cases e : i = j
    · subst e
      rw [hi] at hz
      cases hz
      exact h2
    · have := ih (by omega) hz
      omega
def Has (l : List Pg) (a : Int) (k : Nat) (x : Pg) : Prop := l[k]? = some x ∧ x.b ≤ a ∧ a < x.b + 256
theorem Has.one {l : List Pg} (h : MemOk l) {a : Int} {k j : Nat} {x y : Pg} (hk : Has l a k x) (hj : Has l a j y) : k = j ∧ x = y := by
  have hx := h.2.1 k x hk.1
  have hy := h.2.1 j y hj.1
  have e : k = j := by
    rcases Nat.lt_trichotomy k j with hlt | e | hlt
    · have := h.lt hlt hk.1 hj.1
      have := hk.2; have := hj.2; have := hx.2.2.1; have := hy.2.2.1
      omega
    · exact e
    · have := h.lt hlt hj.1 hk.1
      have := hk.2; have := hj.2; have := hx.2.2.1; have := hy.2.2.1
      omega
  subst e
  exact ⟨rfl, by have := hk.1.symm.trans hj.1; cases this; rfl⟩
theorem PV_set (l : List Pg) (k : Nat) (x : Pg) : (((PV l).set (k * 3) (.int .i64 x.b)).set (k * 3 + 1) (.int .i64 x.p)).set (k * 3 + 2) (.string x.d) = PV (l.set k x) := by
  induction l generalizing k with
  | nil => simp [PV]
  | cons y l ih =>
    cases k with
    | zero => simp [PV_cons, pv]
    | succ k =>
      rw [List.set_cons_succ, PV_cons, PV_cons, ← ih k]
      have e (j : Nat) : (k + 1) * 3 + j = (k * 3 + j) + 3 := by omega
      have e0 : (k + 1) * 3 = k * 3 + 3 := by omega
      rw [e, e, e0]
      simp [pv]
theorem own_setPg {w : World} {B e g n cap k : Nat} {l : List Pg} (h : w.ownsRow B e 3 (.slice (some ⟨g, 0, none⟩) n cap) n (PV l)) (x : Pg) :
    (((w.setCell ⟨g, k * 3, none⟩ (.int .i64 x.b)).setCell ⟨g, k * 3 + 1, none⟩ (.int .i64 x.p)).setCell ⟨g, k * 3 + 2, none⟩ (.string x.d)).ownsRow B e 3 (.slice (some ⟨g, 0, none⟩) n cap) n (PV (l.set k x)) := by
  have := (((h.stored (k * 3) (.int .i64 x.b)).1.stored (k * 3 + 1) (.int .i64 x.p)).1.stored (k * 3 + 2) (.string x.d)).1
  rw [PV_set] at this
  exact this
theorem own_below {w w' : World} {B e s n : Nat} {v : Value} {xs : List Value} (h : w.ownsRow B e s v n xs) (hb : Below w.heap.size w w') : w'.ownsRow B e s v n xs := by
  refine ⟨h.1, ?_⟩
  rcases h.2 with h' | ⟨g, cap, cur, e1, e2, e3, e4⟩
  · exact .inl h'
  · exact .inr ⟨g, cap, cur, e1, e2, (hb.block g (Array.getElem?_eq_some_iff.1 e3).1).trans e3, e4⟩
theorem own_cell {w : World} {B e s g n cap : Nat} {xs : List Value} (h : w.ownsRow B e s (.slice (some ⟨g, 0, none⟩) n cap) n xs) (j : Nat) (hj : j < n * s) : ∃ u, w.cell? ⟨g, j, none⟩ = some u := by
  rw [h.cellAt _ hj]
  exact ⟨_, List.getElem?_eq_getElem (by rw [h.1]; omega)⟩
theorem own_pg {w : World} {B e g n cap k : Nat} {l : List Pg} {x : Pg} (h : w.ownsRow B e 3 (.slice (some ⟨g, 0, none⟩) n cap) n (PV l)) (hk : l[k]? = some x) :
    w.cell? ⟨g, k * 3, none⟩ = some (.int .i64 x.b) ∧ w.cell? ⟨g, k * 3 + 1, none⟩ = some (.int .i64 x.p) ∧ w.cell? ⟨g, k * 3 + 2, none⟩ = some (.string x.d) := by
  have hl := h.1
  rw [PV_len] at hl
  have hkl : k < l.length := (List.getElem?_eq_some_iff.1 hk).1
  have f (i : Nat) (hi : i < 3) : w.cell? ⟨g, k * 3 + i, none⟩ = (pv x)[i]? := by
    rw [h.cellAt _ (by omega), PV_at hk i hi]
  exact ⟨f 0 (by omega), f 1 (by omega), f 2 (by omega)⟩
def zp : Pg := ⟨0, 0, ⟨#[]⟩⟩
theorem made_zp (n : Nat) : (madeCells (Value.agg #[Value.int IntKind.i64 0, Value.int IntKind.i64 0, Value.string ⟨#[]⟩]).cells (n * 3)).toList = PV (List.replicate n zp) := by
  apply List.ext_getElem?
  intro j
  by_cases hj : j < n * 3
  · have hk : j / 3 < (List.replicate n zp).length := by simp; omega
    have e := PV_at (List.getElem?_eq_getElem hk) (j % 3) (by omega)
    rw [show j / 3 * 3 + j % 3 = j by omega] at e
    rw [e]
    simp only [List.getElem_replicate]
    simp [madeCells, hj, pv, zp, Value.cells]
    rcases (show j % 3 = 0 ∨ j % 3 = 1 ∨ j % 3 = 2 by omega) with h | h | h <;> simp [h]
  · rw [List.getElem?_eq_none (by simp [madeCells]; omega), List.getElem?_eq_none (by rw [PV_len]; simp; omega)]
theorem fill_next {l : List Pg} {k : Nat} {x : Pg} (h : l[k]? = some x) : (l.take k ++ List.replicate (l.length - k) zp).set k x = l.take (k + 1) ++ List.replicate (l.length - (k + 1)) zp := by
  have hk : k < l.length := (List.getElem?_eq_some_iff.1 h).1
  apply List.ext_getElem?
  intro j
  rw [List.getElem?_set]
  by_cases e : k = j
  · subst e
    rw [if_pos rfl, if_pos (by simp; omega), List.getElem?_append_left (by simp; omega), List.getElem?_take, if_pos (by omega), h]
  · rw [if_neg e]
    by_cases hj : j < k
    · rw [List.getElem?_append_left (by simp; omega), List.getElem?_append_left (by simp; omega), List.getElem?_take, List.getElem?_take, if_pos hj, if_pos (by omega)]
    · rw [List.getElem?_append_right (by simp; omega), List.getElem?_append_right (by simp; omega), List.getElem?_replicate, List.getElem?_replicate]
      simp only [List.length_take]
      by_cases hn : j < l.length
      · rw [if_pos (by omega), if_pos (by omega)]
      · rw [if_neg (by omega), if_neg (by omega)]
theorem cellSame {w : World} {a : Addr} {u : Value} (h : w.cell? a = some u) (v : Value) : (w.setCell a v).cell? a = some v := by apply World.cell?_setCell_same; exact h
theorem cellOther {w : World} {a b : Addr} (h : a ≠ b) (v : Value) : (w.setCell a v).cell? b = w.cell? b := by apply World.cell?_setCell_other; exact h
theorem ret_b {a b : Bool} (h : a = b) : Ending.returned (.bool a) = .returned (.bool b) := by rw [h]
/-- the pages of l lie behind the slice address p -/
def Rd (w : World) (p : Option Addr) (l : List Pg) : Prop := ∀ (k : Nat) x, l[k]? = some x → ∃ b off, p = some ⟨b, off, none⟩ ∧ b < w.heap.size ∧ w.cell? ⟨b, off + k * 3, none⟩ = some (.int .i64 x.b) ∧ w.cell? ⟨b, off + k * 3 + 1, none⟩ = some (.int .i64 x.p) ∧ w.cell? ⟨b, off + k * 3 + 2, none⟩ = some (.string x.d)
theorem Rd.below {w w' : World} {p : Option Addr} {l : List Pg} (h : Rd w p l) (hb : Below w.heap.size w w') : Rd w' p l := by
  intro k x hk
  obtain ⟨b, off, rfl, h0, h1, h2, h3⟩ := h k x hk
  have hs := hb.size
  exact ⟨b, off, rfl, by omega, (hb.cell (p := ⟨b, _, none⟩) h0).trans h1, (hb.cell (p := ⟨b, _, none⟩) h0).trans h2, (hb.cell (p := ⟨b, _, none⟩) h0).trans h3⟩
theorem Rd.of_own {w : World} {B e n cap : Nat} {p : Option Addr} {l : List Pg} (h : w.ownsRow B e 3 (.slice p n cap) n (PV l)) : Rd w p l := by
  intro k x hk
  have hl := h.1
  rw [PV_len] at hl
  have hkl : k < l.length := (List.getElem?_eq_some_iff.1 hk).1
  have hn : 0 < n := by omega
  obtain ⟨g, cap', e1⟩ := Joins.ownsRow_form h hn
  cases e1
  have hlt := (h.lt g rfl).2
  have f (i : Nat) (hi : i < 3) : w.cell? ⟨g, k * 3 + i, none⟩ = (pv x)[i]? := by
    rw [h.cellAt _ (by omega), PV_at hk i hi]
  refine ⟨g, 0, rfl, hlt, ?_, ?_, ?_⟩
  · rw [Nat.zero_add]; exact f 0 (by omega)
  · rw [Nat.zero_add]; exact f 1 (by omega)
  · rw [Nat.zero_add]; exact f 2 (by omega)
end Go.Proofs.YtbkgmpkednkbcaaGreatDoor
