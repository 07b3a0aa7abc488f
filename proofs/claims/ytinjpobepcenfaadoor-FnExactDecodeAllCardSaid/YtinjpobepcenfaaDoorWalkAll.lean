/-
  Lists of instructions and their cells; what the bytes of a text are one behind the other; no condition but those in each head.
  What impl.DecodeAll and spec.DecodeAll answer, of any text; conditions: those in each head.
  What laws.eqInstrS, markInstrS, heldInstrS do: the first compares lists of instructions, the second writes marks into a list's own cells, the third tells whether they stand there; conditions: those in each head.
-/
import Derived.Test.YtinjpobepcenfaaDoorWalkTop
import Derived.Lib.SmallJoins
import Derived.OwnWalk
import Derived.Great.BuildSlice
import Derived.Laws.AppendOwn
namespace Go.Proofs.YtinjpobepcenfaaDoor
open Go.RowKit
set_option linter.unusedVariables false
set_option linter.unusedSimpArgs false
def iv (x : Ins) : List Value := (insV x).toList
def IV (l : List Ins) : List Value := l.flatMap iv
theorem iv_len (x : Ins) : (iv x).length = 19 := rfl
theorem IV_nil : IV [] = [] := rfl
theorem IV_cons (x : Ins) (l : List Ins) : IV (x :: l) = iv x ++ IV l := rfl
theorem IV_app (a b : List Ins) : IV (a ++ b) = IV a ++ IV b := by simp [IV]
theorem IV_one1 (x : Ins) : IV [x] = iv x := by simp [IV]
theorem IV_len (l : List Ins) : (IV l).length = l.length * 19 := by
  induction l with
  | nil => rfl
  | cons x l ih => rw [IV_cons, List.length_append, ih, iv_len, List.length_cons]; omega
theorem iv_one (x : Ins) : ∀ u ∈ iv x, u.oneCell' = true := by
  intro u hu
  have h := insV_one x
  rw [Array.all_eq_true] at h
  obtain ⟨i, hi, rfl⟩ := List.getElem_of_mem hu
  exact h i hi
theorem IV_one (l : List Ins) : ∀ u ∈ IV l, u.oneCell' = true := by
  intro u hu
  simp only [IV, List.mem_flatMap] at hu
  obtain ⟨x, _, h⟩ := hu
  exact iv_one x u h
theorem IV_at {l : List Ins} {k : Nat} {x : Ins} (h : l[k]? = some x) (i : Nat) (hi : i < 19) : (IV l)[k * 19 + i]? = (iv x)[i]? := by
  induction l generalizing k with
  | nil => simp at h
  | cons y l ih =>
    cases k with
    | zero =>
      simp only [List.getElem?_cons_zero, Option.some.injEq] at h
      subst h
      rw [IV_cons, Nat.zero_mul, Nat.zero_add, List.getElem?_append_left (by rw [iv_len]; omega)]
    | succ k =>
      simp only [List.getElem?_cons_succ] at h
      rw [IV_cons, List.getElem?_append_right (by rw [iv_len]; omega), iv_len, ← ih h]
      congr 1; omega
/-- a run of cells is stored from place o on -/
def setsL (L : List Value) (o : Nat) : List Value → List Value
  | [] => L
  | v :: r => setsL (L.set o v) (o + 1) r
theorem setsL_len (vs : List Value) : ∀ (L : List Value) (o : Nat), (setsL L o vs).length = L.length := by
  induction vs with
  | nil => intro L o; rfl
  | cons v r ih => intro L o; rw [setsL, ih, List.length_set]
theorem setsL_at (vs : List Value) : ∀ (L : List Value) (o j : Nat), o + vs.length ≤ L.length → (setsL L o vs)[j]? = if o ≤ j ∧ j < o + vs.length then vs[j - o]? else L[j]? := by
  induction vs with
  | nil => intro L o j _; rw [setsL, if_neg (by simp only [List.length_nil]; omega)]
  | cons v r ih =>
    intro L o j h
    simp only [List.length_cons] at h ⊢
    rw [setsL, ih _ _ _ (by rw [List.length_set]; omega)]
    by_cases h1 : o + 1 ≤ j ∧ j < o + 1 + r.length
    · rw [if_pos h1, if_pos (by omega), show j - o = (j - (o + 1)) + 1 by omega, List.getElem?_cons_succ]
    · rw [if_neg h1, List.getElem?_set]
      by_cases h2 : o = j
      · subst h2
        rw [if_pos rfl, if_pos (by omega), if_pos (by omega), Nat.sub_self]; rfl
      · rw [if_neg h2, if_neg (by omega)]
theorem IV_set (l : List Ins) (k : Nat) (x : Ins) (h : k < l.length) : setsL (IV l) (k * 19) (iv x) = IV (l.set k x) := by
  apply List.ext_getElem?
  intro j
  have hl := IV_len l
  rw [setsL_at _ _ _ _ (by rw [iv_len, hl]; omega), iv_len]
  by_cases hj : j < l.length * 19
  · have hk : j / 19 < l.length := by omega
    have e := IV_at (List.getElem?_eq_getElem hk) (j % 19) (by omega)
    rw [show j / 19 * 19 + j % 19 = j by omega] at e
    have hk2 : j / 19 < (l.set k x).length := by rw [List.length_set]; exact hk
    have e2 := IV_at (List.getElem?_eq_getElem hk2) (j % 19) (by omega)
    rw [show j / 19 * 19 + j % 19 = j by omega] at e2
    rw [e, e2, List.getElem_set]
    by_cases hkj : k = j / 19
    · rw [if_pos (by omega), if_pos hkj, show j - k * 19 = j % 19 by omega]
    · rw [if_neg (by omega), if_neg hkj]
  · rw [if_neg (by omega), List.getElem?_eq_none (by rw [hl]; omega), List.getElem?_eq_none (by rw [IV_len, List.length_set]; omega)]
/-! marks -/
def mks (K : Nat) : Ins := ⟨(K : Nat), (K + 1 : Nat), (K + 2 : Nat), (K + 3 : Nat), ⟨(K + 4 : Nat), (K + 5 : Nat), (K + 6 : Nat), (K + 7 : Nat), (K + 8 : Nat), (K + 9 : Nat), (K + 10 : Nat)⟩, ⟨(K + 11 : Nat), (K + 12 : Nat), (K + 13 : Nat), (K + 14 : Nat), (K + 15 : Nat), (K + 16 : Nat), (K + 17 : Nat)⟩, (K + 18 : Nat)⟩
def mkI (n : Nat) (k : Nat) : List Ins := (List.range n).map fun i => mks (k + 19 * i)
theorem mkI_len (n k : Nat) : (mkI n k).length = n := by simp [mkI]
theorem mkI_at {n k i : Nat} (h : i < n) : (mkI n k)[i]? = some (mks (k + 19 * i)) := by simp [mkI, h]
def mixI (l : List Ins) (k i : Nat) : List Ins := (mkI l.length k).take i ++ l.drop i
theorem mixI_zero (l : List Ins) (k : Nat) : mixI l k 0 = l := by simp [mixI]
theorem mixI_all (l : List Ins) (k : Nat) : mixI l k l.length = mkI l.length k := by
  have h := mkI_len l.length k
  rw [mixI, List.take_of_length_le (by omega), List.drop_eq_nil_of_le (Nat.le_refl _), List.append_nil]
theorem mixI_len {l : List Ins} {k i : Nat} (h : i ≤ l.length) : (mixI l k i).length = l.length := by simp [mixI, mkI_len]; omega
theorem mixI_set {l : List Ins} {k i : Nat} (h : i < l.length) : (mixI l k i).set i (mks (k + 19 * i)) = mixI l k (i + 1) := by
  apply List.ext_getElem?
  intro j
  rw [List.getElem?_set]
  have hm := mkI_len l.length k
  by_cases e : i = j
  · subst e
    rw [if_pos rfl, if_pos (by rw [mixI_len (by omega)]; exact h), mixI, List.getElem?_append_left (by simp [hm]; omega), List.getElem?_take, if_pos (by omega), mkI_at h]
  · rw [if_neg e]
    by_cases hj : j < i
    · rw [mixI, mixI, List.getElem?_append_left (by simp [hm]; omega), List.getElem?_append_left (by simp [hm]; omega), List.getElem?_take, List.getElem?_take, if_pos hj, if_pos (by omega)]
    · rw [mixI, mixI, List.getElem?_append_right (by simp [hm]; omega), List.getElem?_append_right (by simp [hm]; omega), List.getElem?_drop, List.getElem?_drop]
      congr 1
      simp [hm]
      omega
/-! what is owned, what is read -/
theorem own_belowI {w w' : World} {B e s n : Nat} {v : Value} {xs : List Value} (h : w.ownsRow B e s v n xs) (hb : Below w.heap.size w w') : w'.ownsRow B e s v n xs := by
  refine ⟨h.1, ?_⟩
  rcases h.2 with h' | ⟨g, cap, cur, e1, e2, e3, e4⟩
  · exact .inl h'
  · exact .inr ⟨g, cap, cur, e1, e2, (hb.block g (Array.getElem?_eq_some_iff.1 e3).1).trans e3, e4⟩
/-- the instructions of l lie behind the slice address p -/
def RdI (w : World) (p : Option Addr) (l : List Ins) : Prop := ∀ (k : Nat) x, l[k]? = some x → ∃ b, p = some ⟨b, 0, none⟩ ∧ b < w.heap.size ∧ w.rangeAt b (k * 19) (iv x)
theorem RdI.below {w w' : World} {p : Option Addr} {l : List Ins} (h : RdI w p l) (hb : Below w.heap.size w w') : RdI w' p l := by
  intro k x hk
  obtain ⟨b, rfl, h0, h1⟩ := h k x hk
  have hs := hb.size
  exact ⟨b, rfl, by omega, fun j v hv => (hb.cell (p := ⟨b, _, none⟩) h0).trans (h1 j v hv)⟩
theorem RdI.of_own {w : World} {B e n cap : Nat} {p : Option Addr} {l : List Ins} (h : w.ownsRow B e 19 (.slice p n cap) n (IV l)) : RdI w p l := by
  intro k x hk
  have hl := h.1
  rw [IV_len] at hl
  have hkl : k < l.length := (List.getElem?_eq_some_iff.1 hk).1
  have hn : 0 < n := by omega
  obtain ⟨g, cap', e1⟩ := Joins.ownsRow_form h hn
  cases e1
  have hlt := (h.lt g rfl).2
  refine ⟨g, rfl, hlt, fun i v hv => ?_⟩
  have hi : i < 19 := by have := (List.getElem?_eq_some_iff.1 hv).1; rw [iv_len] at this; exact this
  rw [h.cellAt _ (by omega), IV_at hk i hi]; exact hv
/-! one behind the other -/
def decX (s : ByteArray) (n : Nat) : Ins × Int :=
  match readD (start s n) with
  | .error c => (⟨0, 0, 0, 0, noOpd, noOpd, 0⟩, c)
  | .ok R => (⟨R.op, R.sz, R.cd, R.fr, R.d, R.s, (R.n : Int) - n⟩, 0)
theorem decD_X (s : ByteArray) (n : Nat) : decD s n = (insV (decX s n).1, (decX s n).2) := by
  unfold decD decX
  cases readD (start s n) <;> rfl
theorem decX_len {s : ByteArray} {n : Nat} (hn : n ≤ s.size) (h : (decX s n).2 = 0) : ∃ m : Nat, (decX s n).1.ln = (m : Int) ∧ 0 < m ∧ n + m ≤ s.size := by
  unfold decX at h ⊢
  cases hr : readD (start s n) with
  | error c => rw [hr] at h; exact absurd h (readD_err hr)
  | ok R =>
    have := readD_n hn hr
    exact ⟨R.n - n, by simp only; omega, by omega, by omega⟩
/-- what is gathered from place n on, with l gathered ahead -/
def daD (s : ByteArray) : Nat → Nat → List Ins → List Ins × Int × Int
  | 0, n, l => (l, 0, 0)
  | f + 1, n, l => if n < s.size then (if (decX s n).2 = 0 then daD s f (n + (decX s n).1.ln.toNat) (l ++ [(decX s n).1]) else ([], (n : Int), (decX s n).2)) else (l, 0, 0)
theorem daD_end {s : ByteArray} {f n : Nat} {l : List Ins} (h : ¬ n < s.size) : daD s f n l = (l, 0, 0) := by
  cases f with
  | zero => rfl
  | succ f => rw [daD, if_neg h]
theorem daD_bad {s : ByteArray} {f n : Nat} {l : List Ins} (h : n < s.size) (hf : s.size ≤ n + f) (hc : (decX s n).2 ≠ 0) : daD s f n l = ([], (n : Int), (decX s n).2) := by
  cases f with
  | zero => omega
  | succ f => rw [daD, if_pos h, if_neg hc]
theorem daD_ok {s : ByteArray} {f n m : Nat} {l : List Ins} (h : n < s.size) (hf : s.size ≤ n + f) (hc : (decX s n).2 = 0) (hm : (decX s n).1.ln = (m : Int)) (h0 : 0 < m) : ∃ f', s.size ≤ n + m + f' ∧ daD s f n l = daD s f' (n + m) (l ++ [(decX s n).1]) := by
  cases f with
  | zero => omega
  | succ f =>
    refine ⟨f, by omega, ?_⟩
    rw [daD, if_pos h, if_pos hc, hm]; rfl
/-- what DecodeAll answers -/
def daW (s : ByteArray) : List Ins × Int × Int := if 65536 < s.size then ([], 0, 2) else daD s s.size 0 []
end Go.Proofs.YtinjpobepcenfaaDoor
namespace Go.Proofs.YtinjpobepcenfaaDoor
open Go.RowKit Go.Sort
set_option linter.unusedVariables false
theorem rowIns : (Tryd.prog.info? 29).map (fun i => (i.zero, i.size, i.bytes)) = some (some (.agg #[.int .i64 0, .int .i64 0, .int .i64 0, .int .i64 0, .int .i64 0, .int .i64 0, .int .i64 0, .int .i64 0, .int .i64 0, .int .i64 0, .int .i64 0, .int .i64 0, .int .i64 0, .int .i64 0, .int .i64 0, .int .i64 0, .int .i64 0, .int .i64 0, .int .i64 0]), 19, 152) := by kernel_rfl
theorem fillIns (x : Ins) : Instr.fill (fun i => some (i * 19, 19)) ((Array.range (1 * 19)).map ((Value.agg zIns).cells[· % (Value.agg zIns).cells.size]!)) [(0, .agg (insV x))] = some (insV x) := by kernel_rfl
theorem buildIns {ops : Array Oper} {rest : List Oper} {o : Oper} {a : Act} {w : World} {Q : Exit → Act → World → Prop} (hg : o.guard = none) (y : Operand) (ho : o.op = .buildSlice 34 1 #[(0, y)]) (d : Option Tmp) (hd : o.dst = d) (x : Ins) (v : Array Value) (hv : v = insV x) (hy : a.eval y = .agg v) (N : Nat) (hN : w.heap.size = N)
    (h : wpList Tryd.prog ops Q rest (a.put d (.slice (some ⟨N, 0, none⟩) 1 1)) (w.alloc (.cells v 29))) : wpList Tryd.prog ops Q (o :: rest) a w := by
  subst hd hv hN
  obtain ⟨i0, hi, hz0, hz1, hz2⟩ := info_parts rowIns
  refine wpList_buildSlice hg 34 29 1 _ ho (insV x) i0 _ Tryd.underlying34 hi hz0 (by rw [hz1]; decide) (by rw [hz1]; decide) ?_ h
  rw [hz1]
  have e : ((#[(0, y)] : Array (Nat × Operand)).map fun (i, x) => (i, a.eval x)).toList = [(0, .agg (insV x))] := by simp [hy]
  rw [e]
  exact fillIns x
theorem all_step {w W w2 : World} {u v' : Value} {l : List Ins} {x : Ins} {v : Array Value} (hv : v = insV x) (hB : Below w.heap.size w W) (hlt : ∀ k, u.ownBlock = some k → w.heap.size ≤ k)
    (ho : w2.ownsRow w.heap.size 29 19 v' (l.length + 1) (IV l ++ v.toList)) (hg : W.grownBy w2 u.ownBlock) : w2.ownsRow w.heap.size 29 19 v' (l ++ [x]).length (IV (l ++ [x])) ∧ Below w.heap.size w w2 := by
  subst hv
  refine ⟨?_, Below.grown hB hg hB.size hlt⟩
  rw [IV_app, IV_one1, List.length_append, List.length_singleton]
  exact ho
def AllOut (A : List Ins × Int × Int) (w : World) (e : Ending) (w' : World) : Prop :=
  ∃ v, e = .returned (.tuple #[v, .int .i64 A.2.1, .int .i64 A.2.2]) ∧ w'.ownsRow w.heap.size 29 19 v A.1.length (IV A.1) ∧ Below w.heap.size w w'
set_option maxRecDepth 100000 in
set_option maxHeartbeats 2000000 in
theorem allI (s : ByteArray) (w : World) (hs : s.size ≤ 65536)
    (C : Hid (∀ (n : Nat) W, n ≤ s.size → Below w.heap.size w W → Calls Tryd.prog 12 #[.string s, .int .i64 (n : Int)] W fun e w' => e = .returned (.tuple #[.agg (insV (decX s n).1), .int .i64 (decX s n).2]) ∧ Below W.heap.size W w')) :
    Calls Tryd.prog 15 #[.string s] w (AllOut (daD s s.size 0 []) w) := by
  obtain ⟨A, hA⟩ : ∃ A, A = daD s s.size 0 [] := ⟨_, rfl⟩
  rw [← hA]
  have HA := Lib.hid hA
  have hs' : (s.size : Int) ≤ 65536 := by omega
  clear hA
  go_enter Tryd.func15, Tryd.ntmps15
  go_wp2
  go_loopw [5, 6] (fun v i wr => ∃ (n f : Nat) (l : List Ins), i = .int .i64 (n : Int) ∧ n ≤ s.size ∧ l.length ≤ n ∧ Hid (s.size ≤ n + f) ∧ Hid (daD s f n l = A) ∧ Hid (wr.ownsRow w.heap.size 29 19 v l.length (IV l)) ∧ Hid (Below w.heap.size w wr)) (fun _ i _ => s.size - (intOf i).toNat)
  case atStart => exact ⟨0, s.size, [], rfl, Nat.zero_le _, Nat.le_refl _, Lib.hid (by omega), Lib.hid HA.out.symm, Lib.hid (World.ownsRow_nil _ _ _ _), Lib.hid (Below.refl _ _)⟩
  case round =>
    obtain ⟨n, f, l, rfl, hn, hln, HF, HD, HO, HB⟩ := hrel
    by_cases hlt : n < s.size
    · have hlt' : (n : Int) < (s.size : Int) := by omega
      obtain ⟨x, hx⟩ : ∃ x, x = (decX s n).1 := ⟨_, rfl⟩
      obtain ⟨c, hc⟩ : ∃ c, c = (decX s n).2 := ⟨_, rfl⟩
      obtain ⟨v, hv⟩ : ∃ v, v = insV x := ⟨_, rfl⟩
      have K := C.out n wr hn HB.out
      rw [← hx, ← hc, ← hv] at K
      have K := Lib.hid K
      have H1 : Hid (v.all (·.oneCell') = true) := Lib.hid (by rw [hv]; exact insV_one x)
      have HZ : Hid (some (19 : Nat) = some v.size) := Lib.hid (by rw [hv]; rfl)
      have HV := Lib.hid hv; have HX := Lib.hid hx; have HC := Lib.hid hc
      clear hv hx hc
      by_cases hc0 : c = 0
      · subst hc0
        go_wp2_with fail
        refine (K.out).mono ?_
        rintro e w1 ⟨rfl, hb1⟩
        have Z1 := Lib.hid (heap_alloc_new w1 (.cells zIns 29))
        have R1 := Lib.hid (setRow_heap _ _ _ v _ _ Z1.out)
        have B1 := Lib.hid (below_setRowB (cs := v) ((HB.out.trans (hb1.mono HB.out.size)).alloc (HB.out.trans (hb1.mono HB.out.size)).size (.cells zIns 29)) (HB.out.trans (hb1.mono HB.out.size)).size)
        have W1 : Below wr.heap.size wr (((w1.alloc (.cells zIns 29)).setRow w1.heap.size v).alloc (.cells v 29)) := (below_setRowB (cs := v) (hb1.alloc hb1.size _) hb1.size).alloc (by rw [setRow_size]; simp; have := hb1.size; omega) _
        have O1 := Lib.hid (own_belowI HO.out W1)
        have HG : Hid (w.heap.size ≤ (((w1.alloc (.cells zIns 29)).setRow w1.heap.size v).alloc (.cells v 29)).heap.size) := Lib.hid (by have h1 := W1.size; have h2 := HB.out.size; omega)
        have HNW : Hid (∀ (j : Nat) (u : Value), v.toList[j]? = some u → (((w1.alloc (.cells zIns 29)).setRow w1.heap.size v).alloc (.cells v 29)).cell? ((⟨w1.heap.size + 1, 0, none⟩ : Addr).add j) = some u) := Lib.hid (by
          intro j u hu
          have hb := heap_alloc_new ((w1.alloc (.cells zIns 29)).setRow w1.heap.size v) (.cells v 29)
          rw [setRow_size, World.size_alloc] at hb
          have := cell_of_row _ (w1.heap.size + 1) j _ _ _ hb
          have ea : (⟨w1.heap.size + 1, 0, none⟩ : Addr).add j = ⟨w1.heap.size + 1, j, none⟩ := by cases j <;> simp [Addr.add]
          rw [ea, this, ← Array.getElem?_toList]; exact hu)
        have HL : Hid (v.toList.length = 1 * 19) := Lib.hid (by have := HZ.out; simp at this; simp; exact this.symm)
        have H1' : Hid (∀ u, u ∈ v.toList → u.oneCell' = true) := Lib.hid (by rw [HV.out]; exact iv_one x)
        have hm1 : l.length + 1 ≤ maxLen := by unfold maxLen; omega
        have hm2 : (l.length + 1) * 152 ≤ 140737488355328 := by omega
        have HNE : Hid (u5.ownBlock ≠ some w1.heap.size) := Lib.hid (fun e => by have h1 := (HO.out.lt _ e).2; have h2 := hb1.size; omega)
        obtain ⟨m, hm, hm0, hnm⟩ := decX_len hn HC.out.symm
        have H18 : Hid (v[18]? = some (.int .i64 (m : Int))) := Lib.hid (by rw [HV.out, ← hm, ← HX.out]; rfl)
        have hnm' : (n : Int) + (m : Int) ≤ (s.size : Int) := by omega
        have HM := Lib.hid hm
        clear hm
        obtain ⟨i0, hi, hz0, hz1, hz2⟩ := info_parts rowIns
        go_wp2_with (first | (at_builtin; refine wpList_append_own _ rfl (.tmp 23) (.tmp 25) 34 rfl w.heap.size 29 i0 _ 19 152 Tryd.underlying34 hi hz0 hz1 hz2 rfl (by decide) _ _ _ rfl O1.out ⟨w1.heap.size + 1, 0, none⟩ 1 1 v.toList rfl HL.out HNW.out H1'.out hm1 hm2 HG.out ?_; intro v' w2 hown hgrow hnil; have c18 : w2.cell? ⟨w1.heap.size, 18, none⟩ = some (.int .i64 (m : Int)) := (cell_of_row _ _ 18 _ _ _ ((hgrow.block _ (by simp [setRow_size]; omega) (fun e => HNE.out e.symm)).trans ((Below.heap_alloc _ _ _ (by simp [setRow_size])).trans R1.out))).trans H18.out; have HO2 := Lib.hid hown; have HG2 := Lib.hid hgrow; clear hown hgrow hnil) | refine wpList_store_row rfl 29 (.tmp 7) (.tmp 17) rfl w1.heap.size v rfl rfl 29 _ Z1.out (by rw [← HZ.out]; kernel_rfl) (by have := HZ.out; simp at this; exact this) H1.out ?_ | refine buildIns rfl (.tmp 24) rfl (some 25) rfl x v HV.out rfl (w1.heap.size + 1) (by simp) ?_ | refine wpList_load_row rfl 29 (.tmp 7) rfl w1.heap.size rfl 29 v (0, 0) _ R1.out Tryd.underlying29 rfl (by rw [← HZ.out]; kernel_rfl) ?_)
        obtain ⟨f', HF', HD'⟩ := daD_ok (l := l) hlt HF.out HC.out.symm HM.out hm0
        have ST := all_step (x := x) HV.out (B1.out.alloc B1.out.size (.cells v 29)) (fun k hk => (HO.out.lt k hk).1) HO2.out HG2.out
        rw [HD.out, ← HX.out] at HD'
        go_roundw
        case rel => exact ⟨n + m, f', l ++ [x], by go_num, by omega, by simp; omega, Lib.hid HF', Lib.hid HD'.symm, Lib.hid ST.1, Lib.hid ST.2⟩
        case measure => simp [intOf]; omega
      · have hc1 : (c != 0) = true := bne_iff_ne.mpr hc0
        have HA2 := daD_bad (l := l) hlt HF.out (by rw [← HC.out]; exact hc0)
        rw [HD.out, ← HC.out] at HA2
        have HA3 := Lib.hid HA2
        clear HA2 hc0
        go_wp2_with fail
        refine (K.out).mono ?_
        rintro e w1 ⟨rfl, hb1⟩
        have Z1 := Lib.hid (heap_alloc_new w1 (.cells zIns 29))
        have B1 := Lib.hid (below_setRowB (cs := v) ((HB.out.trans (hb1.mono HB.out.size)).alloc (HB.out.trans (hb1.mono HB.out.size)).size (.cells zIns 29)) (HB.out.trans (hb1.mono HB.out.size)).size)
        go_wp2_with (refine wpList_store_row rfl 29 (.tmp 7) (.tmp 17) rfl w1.heap.size v rfl rfl 29 _ Z1.out (by rw [← HZ.out]; kernel_rfl) (by have := HZ.out; simp at this; exact this) H1.out ?_)
        go_ret3
        exact ⟨.slice none 0 0, by rw [HA3.out]; rfl, by rw [HA3.out]; exact World.ownsRow_nil _ _ _ _, B1.out⟩
    · obtain rfl : n = s.size := by omega
      have HA2 := daD_end (f := f) (l := l) hlt
      rw [HD.out] at HA2
      have HA3 := Lib.hid HA2
      clear HA2
      go_wp2
      go_ret3
      exact ⟨u5, by rw [HA3.out]; rfl, by rw [HA3.out]; exact HO.out, HB.out⟩
set_option maxRecDepth 100000 in
set_option maxHeartbeats 2000000 in
theorem allS (s : ByteArray) (w : World) (hs : s.size ≤ 65536)
    (C : Hid (∀ (n : Nat) W, n ≤ s.size → Calls Tryd.prog 31 #[.string s, .int .i64 (n : Int)] W fun e w' => e = .returned (.tuple #[.agg (insV (decX s n).1), .int .i64 (decX s n).2]) ∧ Below W.heap.size W w')) :
    Calls Tryd.prog 14 #[.string s] w (AllOut (daD s s.size 0 []) w) := by
  obtain ⟨A, hA⟩ : ∃ A, A = daD s s.size 0 [] := ⟨_, rfl⟩
  rw [← hA]
  have HA := Lib.hid hA
  have hs' : (s.size : Int) ≤ 65536 := by omega
  clear hA
  have OE := Lib.hid (World.ownsRow_lit (e := 29) (size := 19) w #[] 0 (Nat.le_refl _) (by decide) rfl)
  have BE := Lib.hid (bel_alloc w (.cells #[] 29))
  go_enter Tryd.func14, Tryd.ntmps14
  go_wp2
  go_loopw [5, 6] (fun v i wr => ∃ (n f : Nat) (l : List Ins), i = .int .i64 (n : Int) ∧ n ≤ s.size ∧ l.length ≤ n ∧ Hid (s.size ≤ n + f) ∧ Hid (daD s f n l = A) ∧ Hid (wr.ownsRow w.heap.size 29 19 v l.length (IV l)) ∧ Hid (Below w.heap.size w wr)) (fun _ i _ => s.size - (intOf i).toNat)
  case atStart => exact ⟨0, s.size, [], rfl, Nat.zero_le _, Nat.le_refl _, Lib.hid (by omega), Lib.hid HA.out.symm, Lib.hid OE.out, Lib.hid BE.out⟩
  case round =>
    obtain ⟨n, f, l, rfl, hn, hln, HF, HD, HO, HB⟩ := hrel
    by_cases hlt : n < s.size
    · have hlt' : (n : Int) < (s.size : Int) := by omega
      obtain ⟨x, hx⟩ : ∃ x, x = (decX s n).1 := ⟨_, rfl⟩
      obtain ⟨c, hc⟩ : ∃ c, c = (decX s n).2 := ⟨_, rfl⟩
      obtain ⟨v, hv⟩ : ∃ v, v = insV x := ⟨_, rfl⟩
      have K := C.out n wr hn
      rw [← hx, ← hc, ← hv] at K
      have K := Lib.hid K
      have H1 : Hid (v.all (·.oneCell') = true) := Lib.hid (by rw [hv]; exact insV_one x)
      have HZ : Hid (some (19 : Nat) = some v.size) := Lib.hid (by rw [hv]; rfl)
      have HV := Lib.hid hv; have HX := Lib.hid hx; have HC := Lib.hid hc
      clear hv hx hc
      by_cases hc0 : c = 0
      · subst hc0
        go_wp2_with fail
        refine (K.out).mono ?_
        rintro e w1 ⟨rfl, hb1⟩
        have Z1 := Lib.hid (heap_alloc_new w1 (.cells zIns 29))
        have R1 := Lib.hid (setRow_heap _ _ _ v _ _ Z1.out)
        have B1 := Lib.hid (below_setRowB (cs := v) ((HB.out.trans (hb1.mono HB.out.size)).alloc (HB.out.trans (hb1.mono HB.out.size)).size (.cells zIns 29)) (HB.out.trans (hb1.mono HB.out.size)).size)
        have W1 : Below wr.heap.size wr (((w1.alloc (.cells zIns 29)).setRow w1.heap.size v).alloc (.cells v 29)) := (below_setRowB (cs := v) (hb1.alloc hb1.size _) hb1.size).alloc (by rw [setRow_size]; simp; have := hb1.size; omega) _
        have O1 := Lib.hid (own_belowI HO.out W1)
        have HG : Hid (w.heap.size ≤ (((w1.alloc (.cells zIns 29)).setRow w1.heap.size v).alloc (.cells v 29)).heap.size) := Lib.hid (by have h1 := W1.size; have h2 := HB.out.size; omega)
        have HNW : Hid (∀ (j : Nat) (u : Value), v.toList[j]? = some u → (((w1.alloc (.cells zIns 29)).setRow w1.heap.size v).alloc (.cells v 29)).cell? ((⟨w1.heap.size + 1, 0, none⟩ : Addr).add j) = some u) := Lib.hid (by
          intro j u hu
          have hb := heap_alloc_new ((w1.alloc (.cells zIns 29)).setRow w1.heap.size v) (.cells v 29)
          rw [setRow_size, World.size_alloc] at hb
          have := cell_of_row _ (w1.heap.size + 1) j _ _ _ hb
          have ea : (⟨w1.heap.size + 1, 0, none⟩ : Addr).add j = ⟨w1.heap.size + 1, j, none⟩ := by cases j <;> simp [Addr.add]
          rw [ea, this, ← Array.getElem?_toList]; exact hu)
        have HL : Hid (v.toList.length = 1 * 19) := Lib.hid (by have := HZ.out; simp at this; simp; exact this.symm)
        have H1' : Hid (∀ u, u ∈ v.toList → u.oneCell' = true) := Lib.hid (by rw [HV.out]; exact iv_one x)
        have hm1 : l.length + 1 ≤ maxLen := by unfold maxLen; omega
        have hm2 : (l.length + 1) * 152 ≤ 140737488355328 := by omega
        have HNE : Hid (u5.ownBlock ≠ some w1.heap.size) := Lib.hid (fun e => by have h1 := (HO.out.lt _ e).2; have h2 := hb1.size; omega)
        obtain ⟨m, hm, hm0, hnm⟩ := decX_len hn HC.out.symm
        have H18 : Hid (v[18]? = some (.int .i64 (m : Int))) := Lib.hid (by rw [HV.out, ← hm, ← HX.out]; rfl)
        have hnm' : (n : Int) + (m : Int) ≤ (s.size : Int) := by omega
        have HM := Lib.hid hm
        clear hm
        obtain ⟨i0, hi, hz0, hz1, hz2⟩ := info_parts rowIns
        go_wp2_with (first | (at_builtin; refine wpList_append_own _ rfl (.tmp 29) (.tmp 31) 34 rfl w.heap.size 29 i0 _ 19 152 Tryd.underlying34 hi hz0 hz1 hz2 rfl (by decide) _ _ _ rfl O1.out ⟨w1.heap.size + 1, 0, none⟩ 1 1 v.toList rfl HL.out HNW.out H1'.out hm1 hm2 HG.out ?_; intro v' w2 hown hgrow hnil; have c18 : w2.cell? ⟨w1.heap.size, 18, none⟩ = some (.int .i64 (m : Int)) := (cell_of_row _ _ 18 _ _ _ ((hgrow.block _ (by simp [setRow_size]; omega) (fun e => HNE.out e.symm)).trans ((Below.heap_alloc _ _ _ (by simp [setRow_size])).trans R1.out))).trans H18.out; have HO2 := Lib.hid hown; have HG2 := Lib.hid hgrow; clear hown hgrow hnil) | refine wpList_store_row rfl 29 (.tmp 7) (.tmp 22) rfl w1.heap.size v rfl rfl 29 _ Z1.out (by rw [← HZ.out]; kernel_rfl) (by have := HZ.out; simp at this; exact this) H1.out ?_ | refine buildIns rfl (.tmp 30) rfl (some 31) rfl x v HV.out rfl (w1.heap.size + 1) (by simp) ?_ | refine wpList_load_row rfl 29 (.tmp 7) rfl w1.heap.size rfl 29 v (0, 0) _ R1.out Tryd.underlying29 rfl (by rw [← HZ.out]; kernel_rfl) ?_)
        obtain ⟨f', HF', HD'⟩ := daD_ok (l := l) hlt HF.out HC.out.symm HM.out hm0
        have ST := all_step (x := x) HV.out (B1.out.alloc B1.out.size (.cells v 29)) (fun k hk => (HO.out.lt k hk).1) HO2.out HG2.out
        rw [HD.out, ← HX.out] at HD'
        go_roundw
        case rel => exact ⟨n + m, f', l ++ [x], by go_num, by omega, by simp; omega, Lib.hid HF', Lib.hid HD'.symm, Lib.hid ST.1, Lib.hid ST.2⟩
        case measure => simp [intOf]; omega
      · have hc1 : (c != 0) = true := bne_iff_ne.mpr hc0
        have HA2 := daD_bad (l := l) hlt HF.out (by rw [← HC.out]; exact hc0)
        rw [HD.out, ← HC.out] at HA2
        have HA3 := Lib.hid HA2
        clear HA2 hc0
        go_wp2_with fail
        refine (K.out).mono ?_
        rintro e w1 ⟨rfl, hb1⟩
        have Z1 := Lib.hid (heap_alloc_new w1 (.cells zIns 29))
        have B1 := Lib.hid (below_setRowB (cs := v) ((HB.out.trans (hb1.mono HB.out.size)).alloc (HB.out.trans (hb1.mono HB.out.size)).size (.cells zIns 29)) (HB.out.trans (hb1.mono HB.out.size)).size)
        go_wp2_with (refine wpList_store_row rfl 29 (.tmp 7) (.tmp 22) rfl w1.heap.size v rfl rfl 29 _ Z1.out (by rw [← HZ.out]; kernel_rfl) (by have := HZ.out; simp at this; exact this) H1.out ?_)
        have OL := World.ownsRow_lit (e := 29) (size := 19) ((w1.alloc (.cells zIns 29)).setRow w1.heap.size v) #[] 0 B1.out.size (by decide) rfl
        rw [setRow_size, World.size_alloc] at OL
        go_ret3
        exact ⟨.slice (some ⟨w1.heap.size + 1, 0, none⟩) 0 0, by rw [HA3.out]; rfl, by rw [HA3.out]; exact OL, B1.out.alloc B1.out.size _⟩
    · obtain rfl : n = s.size := by omega
      have HA2 := daD_end (f := f) (l := l) hlt
      rw [HD.out] at HA2
      have HA3 := Lib.hid HA2
      clear HA2
      go_wp2
      go_ret3
      exact ⟨u5, by rw [HA3.out]; rfl, by rw [HA3.out]; exact HO.out, HB.out⟩
set_option maxHeartbeats 1000000 in
theorem allSLong (s : ByteArray) (w : World) (hs : 65536 < s.size) (hm : s.size ≤ maxLen) :
    Calls Tryd.prog 14 #[.string s] w (AllOut ([], 0, 2) w) := by
  unfold maxLen at hm
  have hs' : (65536 : Int) < s.size := by omega
  clear hs
  have OE := Lib.hid (World.ownsRow_lit (e := 29) (size := 19) w #[] 0 (Nat.le_refl _) (by decide) rfl)
  have BE := Lib.hid (bel_alloc w (.cells #[] 29))
  go_enter Tryd.func14, Tryd.ntmps14
  go_wp2
  go_ret3
  exact ⟨_, rfl, OE.out, BE.out⟩
set_option maxRecDepth 100000 in
set_option maxHeartbeats 2000000 in
theorem allILong (s : ByteArray) (w : World) (hs : 65536 < s.size) (hm : s.size ≤ maxLen)
    (C : Hid (Calls Tryd.prog 12 #[.string s, .int .i64 0] w fun e w' => e = .returned (.tuple #[.agg zIns, .int .i64 2]) ∧ Below w.heap.size w w')) :
    Calls Tryd.prog 15 #[.string s] w (AllOut ([], 0, 2) w) := by
  unfold maxLen at hm
  have hs' : (65536 : Int) < s.size := by omega
  have h0 : (0 : Int) < s.size := by omega
  clear hs
  go_enter Tryd.func15, Tryd.ntmps15
  go_wp2_with fail
  refine wp_loop_rounds 1 ?_
  rw [rounds_succ]
  go_wp2_with fail
  refine C.out.mono ?_
  rintro e w1 ⟨rfl, hb1⟩
  have Z1 := Lib.hid (heap_alloc_new w1 (.cells zIns 29))
  have B1 := Lib.hid (below_setRowB (cs := zIns) (hb1.alloc hb1.size (.cells zIns 29)) hb1.size)
  clear hb1
  go_wp2_with (refine wpList_store_row rfl 29 (.tmp 7) (.tmp 17) rfl w1.heap.size zIns rfl rfl 29 _ Z1.out (by kernel_rfl) rfl (insV_one ⟨0, 0, 0, 0, noOpd, noOpd, 0⟩) ?_)
  go_ret3
  exact ⟨.slice none 0 0, rfl, World.ownsRow_nil _ _ _ _, B1.out⟩
end Go.Proofs.YtinjpobepcenfaaDoor
namespace Go.Proofs.YtinjpobepcenfaaDoor
open Go.RowKit Go.Sort
set_option linter.unusedVariables false
set_option maxRecDepth 100000 in
set_option maxHeartbeats 2000000 in
theorem eqInsSC (p q : Option Addr) (c1 c2 : Nat) (l : List Ins) (w : World) (hn : l.length ≤ 65536) (hr : RdI w p l) (hq : RdI w q l) :
    Calls Tryd.prog 16 #[.slice p l.length c1, .slice q l.length c2] w fun e w' => e = .returned (.bool true) ∧ Below w.heap.size w w' := by
  have HR := Lib.hid hr; have HQ := Lib.hid hq
  have CE := Lib.hid eqInsC
  clear hr hq
  go_enter Tryd.func16, Tryd.ntmps16
  go_wp2
  go_loopw [5] (fun i wr => ∃ k : Nat, k ≤ l.length ∧ i = .int .i64 k ∧ Below w.heap.size w wr) (fun i _ => l.length - (intOf i).toNat)
  case atStart => exact ⟨0, Nat.zero_le _, rfl, Below.refl _ _⟩
  case round =>
    obtain ⟨k, hk, rfl, hb⟩ := hrel
    by_cases hlt : k < l.length
    · obtain ⟨x, hx⟩ : ∃ x, l[k]? = some x := ⟨_, List.getElem?_eq_getElem hlt⟩
      obtain ⟨b, rfl, h0, a0⟩ := HR.out k x hx
      obtain ⟨d, rfl, j0, b0⟩ := HQ.out k x hx
      have hlt' : (k : Int) < (l.length : Int) := by omega
      have A0 := Lib.hid a0; have B0 := Lib.hid b0; have HB := Lib.hid hb; have H0 := Lib.hid h0; have J0 := Lib.hid j0
      clear hx a0 b0 hb h0 j0
      go_upto_region 6 with fail
      refine wp_region_held_drew (S := fun W' => Below w.heap.size w W') (by kernel_rfl) (HB.out.drew) (fun (hH : Below w.heap.size w _) => ?_)
      refine takeTo 0 (v := ?_) rfl (some 17) rfl (by kernel_rfl) (by kernel_rfl) (by kernel_rfl) (fun _ _ _ h => h) (Or.inl ⟨by rfl, ?_⟩) hH ?_
      rotate_left
      · intro w' hS
        go_simp
        try (with_reducible rfl)
      simp only [Act.put, List.setIfInBounds_toArray, List.set_cons_zero, List.set_cons_succ]
      refine takeTo 1 (v := ?_) rfl (some 18) rfl (by kernel_rfl) (by kernel_rfl) (by kernel_rfl) (fun _ _ _ h => h) (Or.inl ⟨by rfl, ?_⟩) hH ?_
      rotate_left
      · intro w' hS
        go_simp
        try (with_reducible rfl)
      simp only [Act.put, List.setIfInBounds_toArray, List.set_cons_zero, List.set_cons_succ]
      refine takeTo 2 (v := ?_) rfl (some 19) rfl (by kernel_rfl) (by kernel_rfl) (by kernel_rfl) (fun _ _ _ h => h) (Or.inl ⟨by rfl, ?_⟩) hH ?_
      rotate_left
      · intro w' hS
        go_simp
        try (with_reducible rfl)
      simp only [Act.put, List.setIfInBounds_toArray, List.set_cons_zero, List.set_cons_succ]
      refine takeTo 3 (v := .agg (insV x)) rfl (some 20) rfl (by kernel_rfl) (by kernel_rfl) (by kernel_rfl) (fun _ _ _ h => h) (yieldsIf_load_mid (by rfl) 29 (.tmp 19) rfl b (k * 19) rfl (iv x) _ (fun W' hS j v hv => (hS.cell (p := ⟨b, k * 19 + j, none⟩) H0.out).trans (A0.out j v hv)) Tryd.underlying29 rfl (by kernel_rfl)) hH ?_
      simp only [Act.put, List.setIfInBounds_toArray, List.set_cons_zero, List.set_cons_succ]
      refine takeTo 4 (v := ?_) rfl (some 21) rfl (by kernel_rfl) (by kernel_rfl) (by kernel_rfl) (fun _ _ _ h => h) (Or.inl ⟨by rfl, ?_⟩) hH ?_
      rotate_left
      · intro w' hS
        go_simp
        try (with_reducible rfl)
      simp only [Act.put, List.setIfInBounds_toArray, List.set_cons_zero, List.set_cons_succ]
      refine takeTo 5 (v := ?_) rfl (some 22) rfl (by kernel_rfl) (by kernel_rfl) (by kernel_rfl) (fun _ _ _ h => h) (Or.inl ⟨by rfl, ?_⟩) hH ?_
      rotate_left
      · intro w' hS
        go_simp
        try (with_reducible rfl)
      simp only [Act.put, List.setIfInBounds_toArray, List.set_cons_zero, List.set_cons_succ]
      refine takeTo 6 (v := ?_) rfl (some 23) rfl (by kernel_rfl) (by kernel_rfl) (by kernel_rfl) (fun _ _ _ h => h) (Or.inl ⟨by rfl, ?_⟩) hH ?_
      rotate_left
      · intro w' hS
        go_simp
        try (with_reducible rfl)
      simp only [Act.put, List.setIfInBounds_toArray, List.set_cons_zero, List.set_cons_succ]
      refine takeTo 7 (v := .agg (insV x)) rfl (some 24) rfl (by kernel_rfl) (by kernel_rfl) (by kernel_rfl) (fun _ _ _ h => h) (yieldsIf_load_mid (by rfl) 29 (.tmp 23) rfl d (k * 19) rfl (iv x) _ (fun W' hS j v hv => (hS.cell (p := ⟨d, k * 19 + j, none⟩) J0.out).trans (B0.out j v hv)) Tryd.underlying29 rfl (by kernel_rfl)) hH ?_
      simp only [Act.put, List.setIfInBounds_toArray, List.set_cons_zero, List.set_cons_succ]
      refine wpAnyH_ready (rs := [8]) (by kernel_rfl) (by simp) ?_
      refine consCall rfl rfl (some 25) rfl 13 #[.agg (insV x), .agg (insV x)] (by first | (go_simp; done) | rfl) (CE.out x _) ?_ ?_
      · rintro e w1 ⟨rfl, hb1⟩
        have hH : Below w.heap.size w w1 := hH.trans (hb1.mono hH.size)
        refine ⟨_, rfl, hH, ?_⟩
        simp only [Act.put, List.setIfInBounds_toArray, List.set_cons_zero, List.set_cons_succ]
        refine takeTo 9 (v := ?_) rfl (some 26) rfl (by kernel_rfl) (by kernel_rfl) (by kernel_rfl) (fun _ _ _ h => h) (Or.inl ⟨by rfl, ?_⟩) hH ?_
        rotate_left
        · intro w' hS
          go_simp
          try (with_reducible rfl)
        simp only [Act.put, List.setIfInBounds_toArray, List.set_cons_zero, List.set_cons_succ]
        refine wpAnyH_done (by kernel_rfl) ?_ _
        have HB2 := Lib.hid hH
        clear hH hb1
        go_wp2
        go_roundw
        case rel => exact ⟨k + 1, by omega, by go_num, HB2.out⟩
        case measure => simp [intOf]; omega
      exact AllReadyH.nil
    · obtain rfl : k = l.length := by omega
      go_wp2
      go_ret
      exact ⟨rfl, hb⟩
theorem own_cellI {w : World} {B e s g n cap : Nat} {xs : List Value} (h : w.ownsRow B e s (.slice (some ⟨g, 0, none⟩) n cap) n xs) (j : Nat) (hj : j < n * s) : ∃ u, w.cell? ⟨g, j, none⟩ = some u := by
  rw [h.cellAt _ hj]
  exact ⟨_, List.getElem?_eq_getElem (by rw [h.1]; omega)⟩
theorem grown_setI {w w' : World} {g : Nat} (h : w.grownBy w' (some g)) (o : Nat) (v : Value) : w.grownBy (w'.setCell ⟨g, o, none⟩ v) (some g) :=
  ⟨h.os, h.tape, h.output, by simp only [World.size_setCell]; exact h.size, fun k hk hne => (Below.heap_setCell _ _ _ _ (fun e => hne (by simp [e]))).trans (h.block k hk hne)⟩
theorem mks_cells (K : Nat) : [Value.int .i64 ((K : Int)), Value.int .i64 ((K : Int) + 1), Value.int .i64 ((K : Int) + 1 + 1), Value.int .i64 ((K : Int) + 1 + 1 + 1), Value.int .i64 ((K : Int) + 1 + 1 + 1 + 1), Value.int .i64 ((K : Int) + 1 + 1 + 1 + 1 + 1), Value.int .i64 ((K : Int) + 1 + 1 + 1 + 1 + 1 + 1), Value.int .i64 ((K : Int) + 1 + 1 + 1 + 1 + 1 + 1 + 1), Value.int .i64 ((K : Int) + 1 + 1 + 1 + 1 + 1 + 1 + 1 + 1), Value.int .i64 ((K : Int) + 1 + 1 + 1 + 1 + 1 + 1 + 1 + 1 + 1), Value.int .i64 ((K : Int) + 1 + 1 + 1 + 1 + 1 + 1 + 1 + 1 + 1 + 1), Value.int .i64 ((K : Int) + 1 + 1 + 1 + 1 + 1 + 1 + 1 + 1 + 1 + 1 + 1), Value.int .i64 ((K : Int) + 1 + 1 + 1 + 1 + 1 + 1 + 1 + 1 + 1 + 1 + 1 + 1), Value.int .i64 ((K : Int) + 1 + 1 + 1 + 1 + 1 + 1 + 1 + 1 + 1 + 1 + 1 + 1 + 1), Value.int .i64 ((K : Int) + 1 + 1 + 1 + 1 + 1 + 1 + 1 + 1 + 1 + 1 + 1 + 1 + 1 + 1), Value.int .i64 ((K : Int) + 1 + 1 + 1 + 1 + 1 + 1 + 1 + 1 + 1 + 1 + 1 + 1 + 1 + 1 + 1), Value.int .i64 ((K : Int) + 1 + 1 + 1 + 1 + 1 + 1 + 1 + 1 + 1 + 1 + 1 + 1 + 1 + 1 + 1 + 1), Value.int .i64 ((K : Int) + 1 + 1 + 1 + 1 + 1 + 1 + 1 + 1 + 1 + 1 + 1 + 1 + 1 + 1 + 1 + 1 + 1), Value.int .i64 ((K : Int) + 1 + 1 + 1 + 1 + 1 + 1 + 1 + 1 + 1 + 1 + 1 + 1 + 1 + 1 + 1 + 1 + 1 + 1)] = iv (mks K) := by
  have e (j : Nat) (z : Int) (h : z = ((K + j : Nat) : Int)) : Value.int .i64 z = .int .i64 ((K + j : Nat) : Int) := by rw [h]
  show _ = [Value.int .i64 ((K + 0 : Nat) : Int), Value.int .i64 ((K + 1 : Nat) : Int), Value.int .i64 ((K + 2 : Nat) : Int), Value.int .i64 ((K + 3 : Nat) : Int), Value.int .i64 ((K + 4 : Nat) : Int), Value.int .i64 ((K + 5 : Nat) : Int), Value.int .i64 ((K + 6 : Nat) : Int), Value.int .i64 ((K + 7 : Nat) : Int), Value.int .i64 ((K + 8 : Nat) : Int), Value.int .i64 ((K + 9 : Nat) : Int), Value.int .i64 ((K + 10 : Nat) : Int), Value.int .i64 ((K + 11 : Nat) : Int), Value.int .i64 ((K + 12 : Nat) : Int), Value.int .i64 ((K + 13 : Nat) : Int), Value.int .i64 ((K + 14 : Nat) : Int), Value.int .i64 ((K + 15 : Nat) : Int), Value.int .i64 ((K + 16 : Nat) : Int), Value.int .i64 ((K + 17 : Nat) : Int), Value.int .i64 ((K + 18 : Nat) : Int)]
  rw [e 0 ((K : Int)) (by omega), e 1 ((K : Int) + 1) (by omega), e 2 ((K : Int) + 1 + 1) (by omega), e 3 ((K : Int) + 1 + 1 + 1) (by omega), e 4 ((K : Int) + 1 + 1 + 1 + 1) (by omega), e 5 ((K : Int) + 1 + 1 + 1 + 1 + 1) (by omega), e 6 ((K : Int) + 1 + 1 + 1 + 1 + 1 + 1) (by omega), e 7 ((K : Int) + 1 + 1 + 1 + 1 + 1 + 1 + 1) (by omega), e 8 ((K : Int) + 1 + 1 + 1 + 1 + 1 + 1 + 1 + 1) (by omega), e 9 ((K : Int) + 1 + 1 + 1 + 1 + 1 + 1 + 1 + 1 + 1) (by omega), e 10 ((K : Int) + 1 + 1 + 1 + 1 + 1 + 1 + 1 + 1 + 1 + 1) (by omega), e 11 ((K : Int) + 1 + 1 + 1 + 1 + 1 + 1 + 1 + 1 + 1 + 1 + 1) (by omega), e 12 ((K : Int) + 1 + 1 + 1 + 1 + 1 + 1 + 1 + 1 + 1 + 1 + 1 + 1) (by omega), e 13 ((K : Int) + 1 + 1 + 1 + 1 + 1 + 1 + 1 + 1 + 1 + 1 + 1 + 1 + 1) (by omega), e 14 ((K : Int) + 1 + 1 + 1 + 1 + 1 + 1 + 1 + 1 + 1 + 1 + 1 + 1 + 1 + 1) (by omega), e 15 ((K : Int) + 1 + 1 + 1 + 1 + 1 + 1 + 1 + 1 + 1 + 1 + 1 + 1 + 1 + 1 + 1) (by omega), e 16 ((K : Int) + 1 + 1 + 1 + 1 + 1 + 1 + 1 + 1 + 1 + 1 + 1 + 1 + 1 + 1 + 1 + 1) (by omega), e 17 ((K : Int) + 1 + 1 + 1 + 1 + 1 + 1 + 1 + 1 + 1 + 1 + 1 + 1 + 1 + 1 + 1 + 1 + 1) (by omega), e 18 ((K : Int) + 1 + 1 + 1 + 1 + 1 + 1 + 1 + 1 + 1 + 1 + 1 + 1 + 1 + 1 + 1 + 1 + 1 + 1) (by omega)]
set_option maxRecDepth 100000 in
set_option maxHeartbeats 4000000 in
theorem markInsSC (g cap B : Nat) (l : List Ins) (k : Nat) (w : World) (hn : l.length ≤ 65536) (hk : 1 ≤ k) (hk2 : k ≤ 100) (ho : w.ownsRow B 29 19 (.slice (some ⟨g, 0, none⟩) l.length cap) l.length (IV l)) :
    Calls Tryd.prog 17 #[.slice (some ⟨g, 0, none⟩) l.length cap, .int .i64 (k : Int)] w fun e w' => e = .returned (.int .i64 ((k + 19 * l.length : Nat) : Int)) ∧ w'.ownsRow B 29 19 (.slice (some ⟨g, 0, none⟩) l.length cap) l.length (IV (mkI l.length k)) ∧ w.grownBy w' (some g) := by
  have HO := Lib.hid ho
  clear ho
  go_enter Tryd.func17, Tryd.ntmps17
  go_wp2
  go_loopw [1, 5] (fun s t wr => ∃ i : Nat, i ≤ l.length ∧ s = .int .i64 ((k + 19 * i : Nat) : Int) ∧ t = .int .i64 (i : Int) ∧ Hid (wr.ownsRow B 29 19 (.slice (some ⟨g, 0, none⟩) l.length cap) l.length (IV (mixI l k i))) ∧ Hid (w.grownBy wr (some g))) (fun _ t _ => l.length - (intOf t).toNat)
  case atStart => exact ⟨0, Nat.zero_le _, rfl, rfl, Lib.hid (by rw [mixI_zero]; exact HO.out), Lib.hid (World.grownBy.refl _ _)⟩
  case round =>
    obtain ⟨i, hi, rfl, rfl, HR, HG⟩ := hrel
    by_cases hlt : i < l.length
    · have hlt2 : (i : Int) < (l.length : Int) := by omega
      obtain ⟨K, hK⟩ : ∃ K : Nat, K = k + 19 * i := ⟨_, rfl⟩
      rw [← hK]
      have hK2 : (K : Int) ≤ 1245284 := by omega
      have hK0 : (0 : Int) < (K : Int) := by omega
      have HK := Lib.hid hK
      have HI := Lib.hid hlt
      clear hK HO
      obtain ⟨L0, hL0⟩ : ∃ L, L = IV (mixI l k i) := ⟨_, rfl⟩
      rw [← hL0] at HR
      have E0 := Lib.hid hL0
      clear hL0
      obtain ⟨u, d⟩ := own_cellI HR.out (i * 19) (by have := HI.out; omega)
      have f := HR.out.frozenAt (i * 19)
      go_upto_region 6 with fail
      clear d f
      clear u
      obtain ⟨L1, hL⟩ : ∃ L, L = L0.set (i * 19) (.int .i64 ((K : Int))) := ⟨_, rfl⟩
      refine abs_world (T := fun W => W.ownsRow B 29 19 (.slice (some ⟨g, 0, none⟩) l.length cap) l.length L1 ∧ w.grownBy W (some g)) (G := fun W => Code.wp _ _ _ _ W) _ ⟨by rw [hL]; exact (HR.out.stored (i * 19) _).1, grown_setI HG.out _ _⟩ ?_
      have E1 := Lib.hid hL
      clear hL HR HG
      intro W1 ⟨ho, hg⟩
      have HR := Lib.hid ho; have HG := Lib.hid hg
      clear ho hg
      obtain ⟨u, d⟩ := own_cellI HR.out (i * 19 + 1) (by have := HI.out; omega)
      have f := HR.out.frozenAt (i * 19 + 1)
      go_upto_region 8 with fail
      clear d f
      clear u
      obtain ⟨L2, hL⟩ : ∃ L, L = L1.set (i * 19 + 1) (.int .i64 ((K : Int) + 1)) := ⟨_, rfl⟩
      refine abs_world (T := fun W => W.ownsRow B 29 19 (.slice (some ⟨g, 0, none⟩) l.length cap) l.length L2 ∧ w.grownBy W (some g)) (G := fun W => Code.wp _ _ _ _ W) _ ⟨by rw [hL]; exact (HR.out.stored (i * 19 + 1) _).1, grown_setI HG.out _ _⟩ ?_
      have E2 := Lib.hid hL
      clear hL HR HG
      intro W2 ⟨ho, hg⟩
      have HR := Lib.hid ho; have HG := Lib.hid hg
      clear ho hg
      obtain ⟨u, d⟩ := own_cellI HR.out (i * 19 + 2) (by have := HI.out; omega)
      have f := HR.out.frozenAt (i * 19 + 2)
      go_upto_region 10 with fail
      clear d f
      clear u
      obtain ⟨L3, hL⟩ : ∃ L, L = L2.set (i * 19 + 2) (.int .i64 ((K : Int) + 1 + 1)) := ⟨_, rfl⟩
      refine abs_world (T := fun W => W.ownsRow B 29 19 (.slice (some ⟨g, 0, none⟩) l.length cap) l.length L3 ∧ w.grownBy W (some g)) (G := fun W => Code.wp _ _ _ _ W) _ ⟨by rw [hL]; exact (HR.out.stored (i * 19 + 2) _).1, grown_setI HG.out _ _⟩ ?_
      have E3 := Lib.hid hL
      clear hL HR HG
      intro W3 ⟨ho, hg⟩
      have HR := Lib.hid ho; have HG := Lib.hid hg
      clear ho hg
      obtain ⟨u, d⟩ := own_cellI HR.out (i * 19 + 3) (by have := HI.out; omega)
      have f := HR.out.frozenAt (i * 19 + 3)
      go_upto_region 12 with fail
      clear d f
      clear u
      obtain ⟨L4, hL⟩ : ∃ L, L = L3.set (i * 19 + 3) (.int .i64 ((K : Int) + 1 + 1 + 1)) := ⟨_, rfl⟩
      refine abs_world (T := fun W => W.ownsRow B 29 19 (.slice (some ⟨g, 0, none⟩) l.length cap) l.length L4 ∧ w.grownBy W (some g)) (G := fun W => Code.wp _ _ _ _ W) _ ⟨by rw [hL]; exact (HR.out.stored (i * 19 + 3) _).1, grown_setI HG.out _ _⟩ ?_
      have E4 := Lib.hid hL
      clear hL HR HG
      intro W4 ⟨ho, hg⟩
      have HR := Lib.hid ho; have HG := Lib.hid hg
      clear ho hg
      obtain ⟨u, d⟩ := own_cellI HR.out (i * 19 + 4) (by have := HI.out; omega)
      have f := HR.out.frozenAt (i * 19 + 4)
      go_upto_region 14 with fail
      clear d f
      clear u
      obtain ⟨L5, hL⟩ : ∃ L, L = L4.set (i * 19 + 4) (.int .i64 ((K : Int) + 1 + 1 + 1 + 1)) := ⟨_, rfl⟩
      refine abs_world (T := fun W => W.ownsRow B 29 19 (.slice (some ⟨g, 0, none⟩) l.length cap) l.length L5 ∧ w.grownBy W (some g)) (G := fun W => Code.wp _ _ _ _ W) _ ⟨by rw [hL]; exact (HR.out.stored (i * 19 + 4) _).1, grown_setI HG.out _ _⟩ ?_
      have E5 := Lib.hid hL
      clear hL HR HG
      intro W5 ⟨ho, hg⟩
      have HR := Lib.hid ho; have HG := Lib.hid hg
      clear ho hg
      obtain ⟨u, d⟩ := own_cellI HR.out (i * 19 + 5) (by have := HI.out; omega)
      have f := HR.out.frozenAt (i * 19 + 5)
      go_upto_region 16 with fail
      clear d f
      clear u
      obtain ⟨L6, hL⟩ : ∃ L, L = L5.set (i * 19 + 5) (.int .i64 ((K : Int) + 1 + 1 + 1 + 1 + 1)) := ⟨_, rfl⟩
      refine abs_world (T := fun W => W.ownsRow B 29 19 (.slice (some ⟨g, 0, none⟩) l.length cap) l.length L6 ∧ w.grownBy W (some g)) (G := fun W => Code.wp _ _ _ _ W) _ ⟨by rw [hL]; exact (HR.out.stored (i * 19 + 5) _).1, grown_setI HG.out _ _⟩ ?_
      have E6 := Lib.hid hL
      clear hL HR HG
      intro W6 ⟨ho, hg⟩
      have HR := Lib.hid ho; have HG := Lib.hid hg
      clear ho hg
      obtain ⟨u, d⟩ := own_cellI HR.out (i * 19 + 6) (by have := HI.out; omega)
      have f := HR.out.frozenAt (i * 19 + 6)
      go_upto_region 18 with fail
      clear d f
      clear u
      obtain ⟨L7, hL⟩ : ∃ L, L = L6.set (i * 19 + 6) (.int .i64 ((K : Int) + 1 + 1 + 1 + 1 + 1 + 1)) := ⟨_, rfl⟩
      refine abs_world (T := fun W => W.ownsRow B 29 19 (.slice (some ⟨g, 0, none⟩) l.length cap) l.length L7 ∧ w.grownBy W (some g)) (G := fun W => Code.wp _ _ _ _ W) _ ⟨by rw [hL]; exact (HR.out.stored (i * 19 + 6) _).1, grown_setI HG.out _ _⟩ ?_
      have E7 := Lib.hid hL
      clear hL HR HG
      intro W7 ⟨ho, hg⟩
      have HR := Lib.hid ho; have HG := Lib.hid hg
      clear ho hg
      obtain ⟨u, d⟩ := own_cellI HR.out (i * 19 + 7) (by have := HI.out; omega)
      have f := HR.out.frozenAt (i * 19 + 7)
      go_upto_region 20 with fail
      clear d f
      clear u
      obtain ⟨L8, hL⟩ : ∃ L, L = L7.set (i * 19 + 7) (.int .i64 ((K : Int) + 1 + 1 + 1 + 1 + 1 + 1 + 1)) := ⟨_, rfl⟩
      refine abs_world (T := fun W => W.ownsRow B 29 19 (.slice (some ⟨g, 0, none⟩) l.length cap) l.length L8 ∧ w.grownBy W (some g)) (G := fun W => Code.wp _ _ _ _ W) _ ⟨by rw [hL]; exact (HR.out.stored (i * 19 + 7) _).1, grown_setI HG.out _ _⟩ ?_
      have E8 := Lib.hid hL
      clear hL HR HG
      intro W8 ⟨ho, hg⟩
      have HR := Lib.hid ho; have HG := Lib.hid hg
      clear ho hg
      obtain ⟨u, d⟩ := own_cellI HR.out (i * 19 + 8) (by have := HI.out; omega)
      have f := HR.out.frozenAt (i * 19 + 8)
      go_upto_region 22 with fail
      clear d f
      clear u
      obtain ⟨L9, hL⟩ : ∃ L, L = L8.set (i * 19 + 8) (.int .i64 ((K : Int) + 1 + 1 + 1 + 1 + 1 + 1 + 1 + 1)) := ⟨_, rfl⟩
      refine abs_world (T := fun W => W.ownsRow B 29 19 (.slice (some ⟨g, 0, none⟩) l.length cap) l.length L9 ∧ w.grownBy W (some g)) (G := fun W => Code.wp _ _ _ _ W) _ ⟨by rw [hL]; exact (HR.out.stored (i * 19 + 8) _).1, grown_setI HG.out _ _⟩ ?_
      have E9 := Lib.hid hL
      clear hL HR HG
      intro W9 ⟨ho, hg⟩
      have HR := Lib.hid ho; have HG := Lib.hid hg
      clear ho hg
      obtain ⟨u, d⟩ := own_cellI HR.out (i * 19 + 9) (by have := HI.out; omega)
      have f := HR.out.frozenAt (i * 19 + 9)
      go_upto_region 24 with fail
      clear d f
      clear u
      obtain ⟨L10, hL⟩ : ∃ L, L = L9.set (i * 19 + 9) (.int .i64 ((K : Int) + 1 + 1 + 1 + 1 + 1 + 1 + 1 + 1 + 1)) := ⟨_, rfl⟩
      refine abs_world (T := fun W => W.ownsRow B 29 19 (.slice (some ⟨g, 0, none⟩) l.length cap) l.length L10 ∧ w.grownBy W (some g)) (G := fun W => Code.wp _ _ _ _ W) _ ⟨by rw [hL]; exact (HR.out.stored (i * 19 + 9) _).1, grown_setI HG.out _ _⟩ ?_
      have E10 := Lib.hid hL
      clear hL HR HG
      intro W10 ⟨ho, hg⟩
      have HR := Lib.hid ho; have HG := Lib.hid hg
      clear ho hg
      obtain ⟨u, d⟩ := own_cellI HR.out (i * 19 + 10) (by have := HI.out; omega)
      have f := HR.out.frozenAt (i * 19 + 10)
      go_upto_region 26 with fail
      clear d f
      clear u
      obtain ⟨L11, hL⟩ : ∃ L, L = L10.set (i * 19 + 10) (.int .i64 ((K : Int) + 1 + 1 + 1 + 1 + 1 + 1 + 1 + 1 + 1 + 1)) := ⟨_, rfl⟩
      refine abs_world (T := fun W => W.ownsRow B 29 19 (.slice (some ⟨g, 0, none⟩) l.length cap) l.length L11 ∧ w.grownBy W (some g)) (G := fun W => Code.wp _ _ _ _ W) _ ⟨by rw [hL]; exact (HR.out.stored (i * 19 + 10) _).1, grown_setI HG.out _ _⟩ ?_
      have E11 := Lib.hid hL
      clear hL HR HG
      intro W11 ⟨ho, hg⟩
      have HR := Lib.hid ho; have HG := Lib.hid hg
      clear ho hg
      obtain ⟨u, d⟩ := own_cellI HR.out (i * 19 + 11) (by have := HI.out; omega)
      have f := HR.out.frozenAt (i * 19 + 11)
      go_upto_region 28 with fail
      clear d f
      clear u
      obtain ⟨L12, hL⟩ : ∃ L, L = L11.set (i * 19 + 11) (.int .i64 ((K : Int) + 1 + 1 + 1 + 1 + 1 + 1 + 1 + 1 + 1 + 1 + 1)) := ⟨_, rfl⟩
      refine abs_world (T := fun W => W.ownsRow B 29 19 (.slice (some ⟨g, 0, none⟩) l.length cap) l.length L12 ∧ w.grownBy W (some g)) (G := fun W => Code.wp _ _ _ _ W) _ ⟨by rw [hL]; exact (HR.out.stored (i * 19 + 11) _).1, grown_setI HG.out _ _⟩ ?_
      have E12 := Lib.hid hL
      clear hL HR HG
      intro W12 ⟨ho, hg⟩
      have HR := Lib.hid ho; have HG := Lib.hid hg
      clear ho hg
      obtain ⟨u, d⟩ := own_cellI HR.out (i * 19 + 12) (by have := HI.out; omega)
      have f := HR.out.frozenAt (i * 19 + 12)
      go_upto_region 30 with fail
      clear d f
      clear u
      obtain ⟨L13, hL⟩ : ∃ L, L = L12.set (i * 19 + 12) (.int .i64 ((K : Int) + 1 + 1 + 1 + 1 + 1 + 1 + 1 + 1 + 1 + 1 + 1 + 1)) := ⟨_, rfl⟩
      refine abs_world (T := fun W => W.ownsRow B 29 19 (.slice (some ⟨g, 0, none⟩) l.length cap) l.length L13 ∧ w.grownBy W (some g)) (G := fun W => Code.wp _ _ _ _ W) _ ⟨by rw [hL]; exact (HR.out.stored (i * 19 + 12) _).1, grown_setI HG.out _ _⟩ ?_
      have E13 := Lib.hid hL
      clear hL HR HG
      intro W13 ⟨ho, hg⟩
      have HR := Lib.hid ho; have HG := Lib.hid hg
      clear ho hg
      obtain ⟨u, d⟩ := own_cellI HR.out (i * 19 + 13) (by have := HI.out; omega)
      have f := HR.out.frozenAt (i * 19 + 13)
      go_upto_region 32 with fail
      clear d f
      clear u
      obtain ⟨L14, hL⟩ : ∃ L, L = L13.set (i * 19 + 13) (.int .i64 ((K : Int) + 1 + 1 + 1 + 1 + 1 + 1 + 1 + 1 + 1 + 1 + 1 + 1 + 1)) := ⟨_, rfl⟩
      refine abs_world (T := fun W => W.ownsRow B 29 19 (.slice (some ⟨g, 0, none⟩) l.length cap) l.length L14 ∧ w.grownBy W (some g)) (G := fun W => Code.wp _ _ _ _ W) _ ⟨by rw [hL]; exact (HR.out.stored (i * 19 + 13) _).1, grown_setI HG.out _ _⟩ ?_
      have E14 := Lib.hid hL
      clear hL HR HG
      intro W14 ⟨ho, hg⟩
      have HR := Lib.hid ho; have HG := Lib.hid hg
      clear ho hg
      obtain ⟨u, d⟩ := own_cellI HR.out (i * 19 + 14) (by have := HI.out; omega)
      have f := HR.out.frozenAt (i * 19 + 14)
      go_upto_region 34 with fail
      clear d f
      clear u
      obtain ⟨L15, hL⟩ : ∃ L, L = L14.set (i * 19 + 14) (.int .i64 ((K : Int) + 1 + 1 + 1 + 1 + 1 + 1 + 1 + 1 + 1 + 1 + 1 + 1 + 1 + 1)) := ⟨_, rfl⟩
      refine abs_world (T := fun W => W.ownsRow B 29 19 (.slice (some ⟨g, 0, none⟩) l.length cap) l.length L15 ∧ w.grownBy W (some g)) (G := fun W => Code.wp _ _ _ _ W) _ ⟨by rw [hL]; exact (HR.out.stored (i * 19 + 14) _).1, grown_setI HG.out _ _⟩ ?_
      have E15 := Lib.hid hL
      clear hL HR HG
      intro W15 ⟨ho, hg⟩
      have HR := Lib.hid ho; have HG := Lib.hid hg
      clear ho hg
      obtain ⟨u, d⟩ := own_cellI HR.out (i * 19 + 15) (by have := HI.out; omega)
      have f := HR.out.frozenAt (i * 19 + 15)
      go_upto_region 36 with fail
      clear d f
      clear u
      obtain ⟨L16, hL⟩ : ∃ L, L = L15.set (i * 19 + 15) (.int .i64 ((K : Int) + 1 + 1 + 1 + 1 + 1 + 1 + 1 + 1 + 1 + 1 + 1 + 1 + 1 + 1 + 1)) := ⟨_, rfl⟩
      refine abs_world (T := fun W => W.ownsRow B 29 19 (.slice (some ⟨g, 0, none⟩) l.length cap) l.length L16 ∧ w.grownBy W (some g)) (G := fun W => Code.wp _ _ _ _ W) _ ⟨by rw [hL]; exact (HR.out.stored (i * 19 + 15) _).1, grown_setI HG.out _ _⟩ ?_
      have E16 := Lib.hid hL
      clear hL HR HG
      intro W16 ⟨ho, hg⟩
      have HR := Lib.hid ho; have HG := Lib.hid hg
      clear ho hg
      obtain ⟨u, d⟩ := own_cellI HR.out (i * 19 + 16) (by have := HI.out; omega)
      have f := HR.out.frozenAt (i * 19 + 16)
      go_upto_region 38 with fail
      clear d f
      clear u
      obtain ⟨L17, hL⟩ : ∃ L, L = L16.set (i * 19 + 16) (.int .i64 ((K : Int) + 1 + 1 + 1 + 1 + 1 + 1 + 1 + 1 + 1 + 1 + 1 + 1 + 1 + 1 + 1 + 1)) := ⟨_, rfl⟩
      refine abs_world (T := fun W => W.ownsRow B 29 19 (.slice (some ⟨g, 0, none⟩) l.length cap) l.length L17 ∧ w.grownBy W (some g)) (G := fun W => Code.wp _ _ _ _ W) _ ⟨by rw [hL]; exact (HR.out.stored (i * 19 + 16) _).1, grown_setI HG.out _ _⟩ ?_
      have E17 := Lib.hid hL
      clear hL HR HG
      intro W17 ⟨ho, hg⟩
      have HR := Lib.hid ho; have HG := Lib.hid hg
      clear ho hg
      obtain ⟨u, d⟩ := own_cellI HR.out (i * 19 + 17) (by have := HI.out; omega)
      have f := HR.out.frozenAt (i * 19 + 17)
      go_upto_region 40 with fail
      clear d f
      clear u
      obtain ⟨L18, hL⟩ : ∃ L, L = L17.set (i * 19 + 17) (.int .i64 ((K : Int) + 1 + 1 + 1 + 1 + 1 + 1 + 1 + 1 + 1 + 1 + 1 + 1 + 1 + 1 + 1 + 1 + 1)) := ⟨_, rfl⟩
      refine abs_world (T := fun W => W.ownsRow B 29 19 (.slice (some ⟨g, 0, none⟩) l.length cap) l.length L18 ∧ w.grownBy W (some g)) (G := fun W => Code.wp _ _ _ _ W) _ ⟨by rw [hL]; exact (HR.out.stored (i * 19 + 17) _).1, grown_setI HG.out _ _⟩ ?_
      have E18 := Lib.hid hL
      clear hL HR HG
      intro W18 ⟨ho, hg⟩
      have HR := Lib.hid ho; have HG := Lib.hid hg
      clear ho hg
      obtain ⟨u, d⟩ := own_cellI HR.out (i * 19 + 18) (by have := HI.out; omega)
      have f := HR.out.frozenAt (i * 19 + 18)
      go_wp2
      go_roundw
      case rel =>
        refine ⟨i + 1, by have := HI.out; omega, ?_, by go_num, Lib.hid ?_, Lib.hid (grown_setI HG.out _ _)⟩
        · have := HK.out
          have e : (K : Int) + 1 + 1 + 1 + 1 + 1 + 1 + 1 + 1 + 1 + 1 + 1 + 1 + 1 + 1 + 1 + 1 + 1 + 1 + 1 = ((k + 19 * (i + 1) : Nat) : Int) := by omega
          rw [e]
        · rw [← mixI_set HI.out, ← IV_set _ _ _ (by rw [mixI_len (by have := HI.out; omega)]; exact HI.out), ← E0.out, ← HK.out, ← mks_cells]
          have h := (HR.out.stored (i * 19 + 18) (.int .i64 ((K : Int) + 1 + 1 + 1 + 1 + 1 + 1 + 1 + 1 + 1 + 1 + 1 + 1 + 1 + 1 + 1 + 1 + 1 + 1))).1
          rw [E18.out, E17.out, E16.out, E15.out, E14.out, E13.out, E12.out, E11.out, E10.out, E9.out, E8.out, E7.out, E6.out, E5.out, E4.out, E3.out, E2.out, E1.out] at h
          exact h
      case measure => simp [intOf]; omega
    · obtain rfl : i = l.length := by omega
      go_wp2
      go_ret
      exact ⟨rfl, by rw [← mixI_all]; exact HR.out, HG.out⟩
set_option maxRecDepth 100000 in
set_option maxHeartbeats 4000000 in
theorem heldInsSC (p : Option Addr) (cap : Nat) (l : List Ins) (k : Nat) (w : World) (hn : l.length ≤ 65536) (hk : 1 ≤ k) (hk2 : k ≤ 100) (hr : RdI w p (mkI l.length k)) :
    Calls Tryd.prog 18 #[.slice p l.length cap, .int .i64 (k : Int)] w fun e w' => e = .returned (.int .i64 ((k + 19 * l.length : Nat) : Int)) ∧ Below w.heap.size w w' := by
  have HR := Lib.hid hr
  clear hr
  go_enter Tryd.func18, Tryd.ntmps18
  go_wp2
  go_loopw [1, 5] (fun s t wr => ∃ i : Nat, i ≤ l.length ∧ s = .int .i64 ((k + 19 * i : Nat) : Int) ∧ t = .int .i64 (i : Int) ∧ Hid (Below w.heap.size w wr)) (fun _ t _ => l.length - (intOf t).toNat)
  case atStart => exact ⟨0, Nat.zero_le _, rfl, rfl, Lib.hid (Below.refl _ _)⟩
  case round =>
    obtain ⟨i, hi, rfl, rfl, HL⟩ := hrel
    by_cases hlt : i < l.length
    · obtain ⟨b, rfl, h0, a0⟩ := (HR.out.below HL.out) i _ (mkI_at hlt)
      have hlt2 : (i : Int) < (l.length : Int) := by omega
      obtain ⟨K, hK⟩ : ∃ K : Nat, K = k + 19 * i := ⟨_, rfl⟩
      rw [← hK] at a0 ⊢
      have hK2 : (K : Int) ≤ 1245284 := by omega
      have hK0 : (0 : Int) < (K : Int) := by omega
      have HK := Lib.hid hK
      rw [← mks_cells] at a0
      clear hK h0
      have d0 := a0 0 (.int .i64 ((K : Int))) rfl
      have d1 := a0 1 (.int .i64 ((K : Int) + 1)) rfl
      have d2 := a0 2 (.int .i64 ((K : Int) + 1 + 1)) rfl
      have d3 := a0 3 (.int .i64 ((K : Int) + 1 + 1 + 1)) rfl
      have d4 := a0 4 (.int .i64 ((K : Int) + 1 + 1 + 1 + 1)) rfl
      have d5 := a0 5 (.int .i64 ((K : Int) + 1 + 1 + 1 + 1 + 1)) rfl
      have d6 := a0 6 (.int .i64 ((K : Int) + 1 + 1 + 1 + 1 + 1 + 1)) rfl
      have d7 := a0 7 (.int .i64 ((K : Int) + 1 + 1 + 1 + 1 + 1 + 1 + 1)) rfl
      have d8 := a0 8 (.int .i64 ((K : Int) + 1 + 1 + 1 + 1 + 1 + 1 + 1 + 1)) rfl
      have d9 := a0 9 (.int .i64 ((K : Int) + 1 + 1 + 1 + 1 + 1 + 1 + 1 + 1 + 1)) rfl
      have d10 := a0 10 (.int .i64 ((K : Int) + 1 + 1 + 1 + 1 + 1 + 1 + 1 + 1 + 1 + 1)) rfl
      have d11 := a0 11 (.int .i64 ((K : Int) + 1 + 1 + 1 + 1 + 1 + 1 + 1 + 1 + 1 + 1 + 1)) rfl
      have d12 := a0 12 (.int .i64 ((K : Int) + 1 + 1 + 1 + 1 + 1 + 1 + 1 + 1 + 1 + 1 + 1 + 1)) rfl
      have d13 := a0 13 (.int .i64 ((K : Int) + 1 + 1 + 1 + 1 + 1 + 1 + 1 + 1 + 1 + 1 + 1 + 1 + 1)) rfl
      have d14 := a0 14 (.int .i64 ((K : Int) + 1 + 1 + 1 + 1 + 1 + 1 + 1 + 1 + 1 + 1 + 1 + 1 + 1 + 1)) rfl
      have d15 := a0 15 (.int .i64 ((K : Int) + 1 + 1 + 1 + 1 + 1 + 1 + 1 + 1 + 1 + 1 + 1 + 1 + 1 + 1 + 1)) rfl
      have d16 := a0 16 (.int .i64 ((K : Int) + 1 + 1 + 1 + 1 + 1 + 1 + 1 + 1 + 1 + 1 + 1 + 1 + 1 + 1 + 1 + 1)) rfl
      have d17 := a0 17 (.int .i64 ((K : Int) + 1 + 1 + 1 + 1 + 1 + 1 + 1 + 1 + 1 + 1 + 1 + 1 + 1 + 1 + 1 + 1 + 1)) rfl
      have d18 := a0 18 (.int .i64 ((K : Int) + 1 + 1 + 1 + 1 + 1 + 1 + 1 + 1 + 1 + 1 + 1 + 1 + 1 + 1 + 1 + 1 + 1 + 1)) rfl
      simp only [Nat.add_zero] at d0
      clear a0
      go_wp2
      go_roundw
      case rel =>
        refine ⟨i + 1, by omega, ?_, by go_num, HL⟩
        have := HK.out
        have e : (K : Int) + 1 + 1 + 1 + 1 + 1 + 1 + 1 + 1 + 1 + 1 + 1 + 1 + 1 + 1 + 1 + 1 + 1 + 1 + 1 = ((k + 19 * (i + 1) : Nat) : Int) := by omega
        rw [e]
      case measure => simp [intOf]; omega
    · obtain rfl : i = l.length := by omega
      go_wp2
      go_ret
      exact ⟨rfl, HL.out⟩
end Go.Proofs.YtinjpobepcenfaaDoor
