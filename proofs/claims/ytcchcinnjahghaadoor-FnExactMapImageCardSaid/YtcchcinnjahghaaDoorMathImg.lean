/-
  Plain facts on lists of segments: their cells, when an image is right; no condition but those in each head.
-/
import Derived.Test.YtcchcinnjahghaaDoorMathMem
import Derived.Lib.Hide
namespace Go.Proofs.YtcchcinnjahghaaDoor
open Go.RowKit
structure Sg where
  f : Int
  v : Int
  m : Int
  d : ByteArray
def sv (x : Sg) : List Value := [.int .i64 x.f, .int .i64 x.v, .int .i64 x.m, .string x.d]
def SV (l : List Sg) : List Value := l.flatMap sv
theorem sv_len (x : Sg) : (sv x).length = 4 := rfl
theorem SV_nil : SV [] = [] := rfl
theorem SV_cons (x : Sg) (l : List Sg) : SV (x :: l) = sv x ++ SV l := rfl
theorem SV_app (a b : List Sg) : SV (a ++ b) = SV a ++ SV b := by simp [SV]
theorem SV_len (l : List Sg) : (SV l).length = l.length * 4 := by
  induction l with
  | nil => rfl
  | cons x l ih => rw [SV_cons, List.length_append, ih, sv_len, List.length_cons]; omega
theorem SV_one (l : List Sg) : ∀ u ∈ SV l, u.oneCell' = true := by
  intro u hu
  simp only [SV, List.mem_flatMap, sv, List.mem_cons, List.not_mem_nil, or_false] at hu
  obtain ⟨x, _, h⟩ := hu
  rcases h with rfl | rfl | rfl | rfl <;> rfl
theorem SV_at {l : List Sg} {k : Nat} {x : Sg} (h : l[k]? = some x) (i : Nat) (hi : i < 4) : (SV l)[k * 4 + i]? = (sv x)[i]? := by
  induction l generalizing k with
  | nil => simp at h
  | cons y l ih =>
    cases k with
    | zero =>
      simp only [List.getElem?_cons_zero, Option.some.injEq] at h
      subst h
      rw [SV_cons, Nat.zero_mul, Nat.zero_add, List.getElem?_append_left (by rw [sv_len]; omega)]
    | succ k =>
      simp only [List.getElem?_cons_succ] at h
      rw [SV_cons, List.getElem?_append_right (by rw [sv_len]; omega), sv_len, ← ih h]
      congr 1; omega
theorem SV_of {l : List Sg} {j : Nat} {u : Value} (h : (SV l)[j]? = some u) : ∃ x, l[j / 4]? = some x ∧ (sv x)[j % 4]? = some u := by
  have hj : j < l.length * 4 := by rw [← SV_len]; exact (List.getElem?_eq_some_iff.1 h).1
  have hk : j / 4 < l.length := by omega
  refine ⟨l[j / 4], List.getElem?_eq_getElem hk, ?_⟩
  rw [← SV_at (List.getElem?_eq_getElem hk) (j % 4) (by omega), ← h]
  congr 1; omega
theorem SV_take (l : List Sg) (n : Nat) : SV (l.take n) = (SV l).take (n * 4) := by
  induction l generalizing n with
  | nil => simp [SV]
  | cons x l ih =>
    cases n with
    | zero => simp [SV]
    | succ n =>
      rw [List.take_succ_cons, SV_cons, SV_cons, ih, List.take_append, sv_len, List.take_of_length_le (l := sv x) (by rw [sv_len]; omega)]
      congr 2; omega
theorem SV_set (l : List Sg) (k : Nat) (x : Sg) : ((((SV l).set (k * 4) (.int .i64 x.f)).set (k * 4 + 1) (.int .i64 x.v)).set (k * 4 + 2) (.int .i64 x.m)).set (k * 4 + 3) (.string x.d) = SV (l.set k x) := by
  induction l generalizing k with
  | nil => simp [SV]
  | cons y l ih =>
    cases k with
    | zero => simp [SV_cons, sv]
    | succ k =>
      rw [List.set_cons_succ, SV_cons, SV_cons, ← ih k]
      have e (j : Nat) : (k + 1) * 4 + j = (k * 4 + j) + 4 := by omega
      have e0 : (k + 1) * 4 = k * 4 + 4 := by omega
      rw [e, e, e, e0]
      simp [sv]
theorem own_setSg {w : World} {B e g n cap k : Nat} {l : List Sg} (h : w.ownsRow B e 4 (.slice (some ⟨g, 0, none⟩) n cap) n (SV l)) (x : Sg) :
    ((((w.setCell ⟨g, k * 4, none⟩ (.int .i64 x.f)).setCell ⟨g, k * 4 + 1, none⟩ (.int .i64 x.v)).setCell ⟨g, k * 4 + 2, none⟩ (.int .i64 x.m)).setCell ⟨g, k * 4 + 3, none⟩ (.string x.d)).ownsRow B e 4 (.slice (some ⟨g, 0, none⟩) n cap) n (SV (l.set k x)) := by
  have := ((((h.stored (k * 4) (.int .i64 x.f)).1.stored (k * 4 + 1) (.int .i64 x.v)).1.stored (k * 4 + 2) (.int .i64 x.m)).1.stored (k * 4 + 3) (.string x.d)).1
  rw [SV_set] at this
  exact this
theorem own_sg {w : World} {B e g n cap k : Nat} {l : List Sg} {x : Sg} (h : w.ownsRow B e 4 (.slice (some ⟨g, 0, none⟩) n cap) n (SV l)) (hk : l[k]? = some x) :
    w.cell? ⟨g, k * 4, none⟩ = some (.int .i64 x.f) ∧ w.cell? ⟨g, k * 4 + 1, none⟩ = some (.int .i64 x.v) ∧ w.cell? ⟨g, k * 4 + 2, none⟩ = some (.int .i64 x.m) ∧ w.cell? ⟨g, k * 4 + 3, none⟩ = some (.string x.d) := by
  have hl := h.1
  rw [SV_len] at hl
  have hkl : k < l.length := (List.getElem?_eq_some_iff.1 hk).1
  have f (i : Nat) (hi : i < 4) : w.cell? ⟨g, k * 4 + i, none⟩ = (sv x)[i]? := by
    rw [h.cellAt _ (by omega), SV_at hk i hi]
  exact ⟨f 0 (by omega), f 1 (by omega), f 2 (by omega), f 3 (by omega)⟩
def zs : Sg := ⟨0, 0, 0, ⟨#[]⟩⟩
theorem made_zs (n : Nat) : (madeCells (Value.agg #[Value.int IntKind.i64 0, Value.int IntKind.i64 0, Value.int IntKind.i64 0, Value.string ⟨#[]⟩]).cells (n * 4)).toList = SV (List.replicate n zs) := by
  apply List.ext_getElem?
  intro j
  by_cases hj : j < n * 4
  · have hk : j / 4 < (List.replicate n zs).length := by simp; omega
    have e := SV_at (List.getElem?_eq_getElem hk) (j % 4) (by omega)
    rw [show j / 4 * 4 + j % 4 = j by omega] at e
    rw [e]
    simp only [List.getElem_replicate]
    simp [madeCells, hj, sv, zs, Value.cells]
    rcases (show j % 4 = 0 ∨ j % 4 = 1 ∨ j % 4 = 2 ∨ j % 4 = 3 by omega) with h | h | h | h <;> simp [h]
  · rw [List.getElem?_eq_none (by simp [madeCells]; omega), List.getElem?_eq_none (by rw [SV_len]; simp; omega)]
theorem fill_nextS {l : List Sg} {k : Nat} {x : Sg} (h : l[k]? = some x) : (l.take k ++ List.replicate (l.length - k) zs).set k x = l.take (k + 1) ++ List.replicate (l.length - (k + 1)) zs := by
  have hk : k < l.length := (List.getElem?_eq_some_iff.1 h).1
  apply List.ext_getElem?
  intro j
  rw [List.getElem?_set]
  by_cases e : k = j
  · subst e
    rw [if_pos rfl, if_pos (by simp; omega), List.getElem?_append_left (by simp; omega), List.getElem?_take, if_pos (by omega), h]
  · rw [if_neg e]
    by_cases hj : j < k
    · rw [List.getElem?_append_left (by simp; omega), List.getElem?_append_left (by simp; omega), List.getElem?_take, List.getElem?_take, if_pos hj, if_pos (by omega)]
    · rw [List.getElem?_append_right (by simp; omega), List.getElem?_append_right (by simp; omega), List.getElem?_replicate, List.getElem?_replicate]
      simp only [List.length_take]
      by_cases hn : j < l.length
      · rw [if_pos (by omega), if_pos (by omega)]
      · rw [if_neg (by omega), if_neg (by omega)]
/-- the segments of l lie behind the slice address p -/
def RdS (w : World) (p : Option Addr) (l : List Sg) : Prop := ∀ (k : Nat) x, l[k]? = some x → ∃ b off, p = some ⟨b, off, none⟩ ∧ b < w.heap.size ∧ w.cell? ⟨b, off + k * 4, none⟩ = some (.int .i64 x.f) ∧ w.cell? ⟨b, off + k * 4 + 1, none⟩ = some (.int .i64 x.v) ∧ w.cell? ⟨b, off + k * 4 + 2, none⟩ = some (.int .i64 x.m) ∧ w.cell? ⟨b, off + k * 4 + 3, none⟩ = some (.string x.d)
theorem RdS.below {w w' : World} {p : Option Addr} {l : List Sg} (h : RdS w p l) (hb : Below w.heap.size w w') : RdS w' p l := by
  intro k x hk
  obtain ⟨b, off, rfl, h0, h1, h2, h3, h4⟩ := h k x hk
  have hs := hb.size
  exact ⟨b, off, rfl, by omega, (hb.cell (p := ⟨b, _, none⟩) h0).trans h1, (hb.cell (p := ⟨b, _, none⟩) h0).trans h2, (hb.cell (p := ⟨b, _, none⟩) h0).trans h3, (hb.cell (p := ⟨b, _, none⟩) h0).trans h4⟩
theorem RdS.of_own {w : World} {B e n cap : Nat} {p : Option Addr} {l : List Sg} (h : w.ownsRow B e 4 (.slice p n cap) n (SV l)) : RdS w p l := by
  intro k x hk
  have hl := h.1
  rw [SV_len] at hl
  have hkl : k < l.length := (List.getElem?_eq_some_iff.1 hk).1
  have hn : 0 < n := by omega
  obtain ⟨g, cap', e1⟩ := Joins.ownsRow_form h hn
  cases e1
  have hlt := (h.lt g rfl).2
  have f (i : Nat) (hi : i < 4) : w.cell? ⟨g, k * 4 + i, none⟩ = (sv x)[i]? := by
    rw [h.cellAt _ (by omega), SV_at hk i hi]
  refine ⟨g, 0, rfl, hlt, ?_, ?_, ?_, ?_⟩
  · rw [Nat.zero_add]; exact f 0 (by omega)
  · rw [Nat.zero_add]; exact f 1 (by omega)
  · rw [Nat.zero_add]; exact f 2 (by omega)
  · rw [Nat.zero_add]; exact f 3 (by omega)
end Go.Proofs.YtcchcinnjahghaaDoor
