/-
  What the specification's decoder reads, step by step, with its code that stays, and that this is what the bytes are as an instruction (MathDec); no condition but those in each head.
  What the specification's decoder holds, and what its methods fail, number and byte do: they read bytes that are there, and keep a code where there are none; conditions: those in each head.
-/
import Derived.Test.YtinjpobepcenfaaDoorMathDec
import Derived.Test.YtinjpobepcenfaaDoorWalkRd3
namespace Go.Proofs.YtinjpobepcenfaaDoor
open Go.RowKit
set_option linter.unusedVariables false
set_option linter.unusedSimpArgs false
/-- what a decoder of the specification holds: text, place, REX, the byte 102, code -/
structure In where
  t : ByteArray
  n : Nat
  x : Nat
  w : Bool
  c : Int
/-- what a number of k bytes is there, and where the decoder stands then -/
def numV (I : In) (k : Nat) : Int := if I.c = 0 then if I.n + k ≤ I.t.size then sgV I.t I.n k else 0 else 0
def numI (I : In) (k : Nat) : In := if I.c = 0 then if I.n + k ≤ I.t.size then { I with n := I.n + k } else { I with c := 9 } else I
def byteV (I : In) : Nat := if I.c = 0 then if I.n + 1 ≤ I.t.size then nb I.t I.n else 0 else 0
theorem byteV_lt (I : In) : byteV I < 256 := by
  unfold byteV; split
  · split
    · exact nb_lt _ _
    · decide
  · decide
theorem numI_t (I : In) (k : Nat) : (numI I k).t = I.t := by unfold numI; split <;> (try split) <;> rfl
theorem numI_x (I : In) (k : Nat) : (numI I k).x = I.x := by unfold numI; split <;> (try split) <;> rfl
theorem numI_w (I : In) (k : Nat) : (numI I k).w = I.w := by unfold numI; split <;> (try split) <;> rfl
theorem numI_n (I : In) (k : Nat) (h : I.n ≤ I.t.size) : (numI I k).n ≤ I.t.size := by unfold numI; split <;> (try split) <;> simp_all
def failI (I : In) (c : Int) : In := if I.c = 0 then { I with c := c } else I
def dispS (I : In) (k : Nat) (b i c : Int) : Opd × In := (memOpd b i c (if k = 0 then 0 else numV I k), if k = 0 then I else numI I k)
def memS (I : In) (md rm : Nat) : Opd × In :=
  if rm = 4 then
    if md = 0 ∧ byteV I % 8 = 5 then dispS (numI I 1) 4 (-1) (sibI (byteV I) I.x) (sibS (byteV I) I.x)
    else dispS (numI I 1) (modK md) ((byteV I % 8 + extB I.x 0 : Nat) : Int) (sibI (byteV I) I.x) (sibS (byteV I) I.x)
  else if md = 0 ∧ rm = 5 then dispS I 4 16 (-1) 1
  else dispS I (modK md) ((rm + extB I.x 0 : Nat) : Int) (-1) 1
def placeS (I : In) (md rm : Nat) (sz : Int) : Opd × In := if md = 3 then (bReg (rm + extB I.x 0) sz I.x, I) else memS I md rm
def immS (I : In) (k : Nat) : Opd × In := (immOpd (numV I k), numI I k)
def immU (I : In) : Opd × In := (immOpd (byteV I), numI I 1)
/-- operands of forms that have ModRM -/
def mrS (I : In) (f op sz fr : Int) (md rg rm : Nat) : (Opd × Opd) × In :=
  let p := placeS I md rm (if f = 17 then fr else sz)
  let r := bReg (rg + extB I.x 2) sz I.x
  if f = 1 then ((p.1, r), p.2)
  else if f = 2 ∨ f = 17 then ((r, p.1), p.2)
  else if f = 4 then ((p.1, (immS p.2 1).1), (immS p.2 1).2)
  else if f = 5 then ((p.1, (immS p.2 (minK sz)).1), (immS p.2 (minK sz)).2)
  else if f = 11 then ((p.1, (immU p.2).1), (immU p.2).2)
  else if f = 12 then ((p.1, immOpd 1), p.2)
  else if f = 13 then ((p.1, regOpd 1), p.2)
  else if srcOp op then ((noOpd, p.1), p.2)
  else if op = 10 then ((p.1, (immS p.2 (minK sz)).1), (immS p.2 (minK sz)).2)
  else ((p.1, noOpd), p.2)
/-- operands of the other forms -/
def plS (I : In) (f op sz : Int) (b : Nat) : (Opd × Opd) × In :=
  if f = 3 then ((regOpd 0, (immS I (minK sz)).1), (immS I (minK sz)).2)
  else if f = 7 then if op = 29 then ((noOpd, regOpd ((b % 8 + extB I.x 0 : Nat) : Int)), I) else ((regOpd ((b % 8 + extB I.x 0 : Nat) : Int), noOpd), I)
  else if f = 8 then ((bReg (b % 8 + extB I.x 0) sz I.x, (immS I sz.toNat).1), (immS I sz.toNat).2)
  else if f = 9 then ((noOpd, (immS I 1).1), (immS I 1).2)
  else if f = 10 ∨ f = 16 then ((noOpd, (immS I 4).1), (immS I 4).2)
  else if f = 15 then if op = 44 then ((noOpd, (immU I).1), (immU I).2) else ((noOpd, (immS I 1).1), (immS I 1).2)
  else ((noOpd, noOpd), I)
/-- the step's outcome, as the two tell it -/
def Ok2 {α : Type} (r : Option (α × Nat)) (I : In) (p : α × In) : Prop := match r with | some (x, n) => p = (x, { I with n := n }) | none => p.2.c = 9
theorem num_ok {I : In} {k : Nat} (h : I.c = 0) : Ok2 (numD I.t I.n k) I (immS I k) := by
  unfold numD immS numV numI
  simp only [h, if_true]
  by_cases h1 : I.n + k ≤ I.t.size
  · simp only [if_pos h1]; simp [Ok2, h]
  · simp only [if_neg h1]; rfl
theorem numU_ok {I : In} (h : I.c = 0) : Ok2 (numU I.t I.n) I (immU I) := by
  unfold numU immU byteV numI
  simp only [h, if_true]
  by_cases h1 : I.n + 1 ≤ I.t.size
  · simp only [if_pos h1]; simp [Ok2, h]
  · simp only [if_neg h1]; rfl
theorem num_stuck {I : In} {k : Nat} (h : I.c ≠ 0) : numI I k = I := by unfold numI; rw [if_neg h]
theorem disp_ok {I : In} {k : Nat} {b i c : Int} (h : I.c = 0) (hn : I.n ≤ I.t.size) : Ok2 (dispD I.t I.n k b i c) I (dispS I k b i c) := by
  unfold dispD dispS numV numI
  simp only [h, if_true]
  by_cases h1 : I.n + k ≤ I.t.size
  · simp only [if_pos h1]
    by_cases h2 : k = 0
    · subst h2; simp only [if_true]; rfl
    · simp only [if_neg h2]; simp [Ok2, h]
  · have h2 : k ≠ 0 := by omega
    simp only [if_neg h1, if_neg h2]; rfl
theorem disp_stuck {I : In} {k : Nat} {b i c : Int} (h : I.c ≠ 0) : (dispS I k b i c).2 = I := by
  unfold dispS
  by_cases h2 : k = 0
  · simp only [if_pos h2]
  · simp only [if_neg h2]; exact num_stuck h
theorem mem_ok {I : In} {md rm : Nat} (h : I.c = 0) (hn : I.n ≤ I.t.size) : Ok2 (memD I.t I.n md rm I.x) I (memS I md rm) := by
  unfold memD memS
  by_cases h4 : rm = 4
  · simp only [if_pos h4]
    by_cases h1 : I.n < I.t.size
    · have e1 : numI I 1 = { I with n := I.n + 1 } := by unfold numI; rw [if_pos h, if_pos (by omega)]
      have e2 : byteV I = nb I.t I.n := by unfold byteV; rw [if_pos h, if_pos (by omega)]
      simp only [if_pos h1, e1, e2]
      by_cases h5 : md = 0 ∧ nb I.t I.n % 8 = 5
      · simp only [if_pos h5]
        exact disp_ok (I := { I with n := I.n + 1 }) h (by show I.n + 1 ≤ I.t.size; omega)
      · simp only [if_neg h5]
        exact disp_ok (I := { I with n := I.n + 1 }) h (by show I.n + 1 ≤ I.t.size; omega)
    · have e1 : numI I 1 = { I with c := 9 } := by unfold numI; rw [if_pos h, if_neg (by omega)]
      simp only [if_neg h1, e1]
      have hs : ∀ k b i c, (dispS { I with c := 9 } k b i c).2 = { I with c := 9 } := fun k b i c => disp_stuck (by show (9 : Int) ≠ 0; decide)
      by_cases h5 : md = 0 ∧ byteV I % 8 = 5
      · simp only [if_pos h5]; show (dispS _ _ _ _ _).2.c = 9; rw [hs]
      · simp only [if_neg h5]; show (dispS _ _ _ _ _).2.c = 9; rw [hs]
  · simp only [if_neg h4]
    by_cases h5 : md = 0 ∧ rm = 5
    · simp only [if_pos h5]; exact disp_ok h hn
    · simp only [if_neg h5]; exact disp_ok h hn
theorem mem_stuck {I : In} {md rm : Nat} (h : I.c ≠ 0) : (memS I md rm).2 = I := by
  unfold memS
  have e1 : numI I 1 = I := num_stuck h
  rw [e1]
  repeat' split
  all_goals exact disp_stuck h
theorem place_ok {I : In} {md rm : Nat} {sz : Int} (h : I.c = 0) (hn : I.n ≤ I.t.size) : Ok2 (placeD I.t I.n md rm I.x sz) I (placeS I md rm sz) := by
  unfold placeD placeS
  by_cases h3 : md = 3
  · simp only [if_pos h3]; rfl
  · simp only [if_neg h3]; exact mem_ok h hn
theorem then_ok {α β : Type} {a : Option (α × Nat)} {f : α → Nat → Option (β × Nat)} {I : In} {p : α × In} {q : β × In} (h : Ok2 a I p) (hf : ∀ x n, a = some (x, n) → p = (x, { I with n := n }) → Ok2 (f x n) I q) (hb : p.2.c = 9 → q.2.c = 9) : Ok2 (thenD a f) I q := by
  unfold thenD
  cases a with
  | none => exact hb h
  | some y => obtain ⟨x, n⟩ := y; exact hf x n rfl h
theorem ok2_c {α : Type} {x : α} {n : Nat} {I : In} {p : α × In} (h : Ok2 (some (x, n)) I p) : p.2.c = I.c := by rw [show p = (x, { I with n := n }) from h]
theorem imm_stuck {I : In} {k : Nat} (h : I.c = 9) : (immS I k).2.c = 9 := by show (numI I k).c = 9; rw [num_stuck (by rw [h]; decide)]; exact h
theorem immU_stuck {I : In} (h : I.c = 9) : (immU I).2.c = 9 := by show (numI I 1).c = 9; rw [num_stuck (by rw [h]; decide)]; exact h
theorem dispD_n {s : ByteArray} {n k : Nat} {b i c : Int} {x : Opd} {m : Nat} (h : dispD s n k b i c = some (x, m)) : m ≤ s.size := by
  unfold dispD at h; split at h
  · cases h; assumption
  · cases h
theorem memD_n {s : ByteArray} {n md rm rex : Nat} {x : Opd} {m : Nat} (h : memD s n md rm rex = some (x, m)) : m ≤ s.size := by
  unfold memD at h
  repeat' split at h
  all_goals first | exact dispD_n h | cases h
theorem placeD_n {s : ByteArray} {n md rm rex : Nat} {sz : Int} {x : Opd} {m : Nat} (h : placeD s n md rm rex sz = some (x, m)) (hn : n ≤ s.size) : m ≤ s.size := by
  unfold placeD at h
  split at h
  · cases h; exact hn
  · exact memD_n h
/-- what follows the place -/
theorem place_then {I : In} {md rm : Nat} {sz : Int} {β : Type} {f : Opd → Nat → Option (β × Nat)} {q : β × In} (h : I.c = 0) (hn : I.n ≤ I.t.size)
    (hf : ∀ x n, n ≤ I.t.size → placeS I md rm sz = (x, { I with n := n }) → Ok2 (f x n) I q) (hb : (placeS I md rm sz).2.c = 9 → q.2.c = 9) : Ok2 (thenD (placeD I.t I.n md rm I.x sz) f) I q :=
  then_ok (place_ok h hn) (fun x n e e2 => hf x n (placeD_n e hn) e2) hb
theorem num_then {I : In} {n k : Nat} {p : Opd} (h : I.c = 0) : Ok2 (thenD (numD I.t n k) fun x n => some ((p, x), n)) I ((p, (immS { I with n := n } k).1), (immS { I with n := n } k).2) := by
  refine then_ok (I := I) (p := immS { I with n := n } k) ?_ (fun x m e e2 => ?_) (fun e => e)
  · have := num_ok (I := { I with n := n }) (k := k) h
    unfold Ok2 at *
    split at this
    · rename_i x m e; rw [show numD I.t n k = some (x, m) from e]; exact this
    · rename_i e; rw [show numD I.t n k = none from e]; exact this
  · show ((p, (immS _ k).1), (immS _ k).2) = _; rw [e2]
theorem numU_then {I : In} {n : Nat} {p : Opd} (h : I.c = 0) : Ok2 (thenD (numU I.t n) fun x n => some ((p, x), n)) I ((p, (immU { I with n := n }).1), (immU { I with n := n }).2) := by
  refine then_ok (I := I) (p := immU { I with n := n }) ?_ (fun x m e e2 => ?_) (fun e => e)
  · have := numU_ok (I := { I with n := n }) h
    unfold Ok2 at *
    split at this
    · rename_i x m e; rw [show numU I.t n = some (x, m) from e]; exact this
    · rename_i e; rw [show numU I.t n = none from e]; exact this
  · show ((p, (immU _).1), (immU _).2) = _; rw [e2]
/-- ModRM's operands -/
theorem mrS_ok {I : In} {f op sz fr : Int} {md rg rm b : Nat} (h : I.c = 0) (hn : I.n ≤ I.t.size) (hf : hasM f) : Ok2 (operD I.t I.n f op sz fr md rg rm I.x b) I (mrS I f op sz fr md rg rm) := by
  unfold hasM at hf
  unfold operD mrS
  rcases hf with rfl | rfl | rfl | rfl | rfl | rfl | rfl | rfl | rfl
  case inr.inr.inr.inr.inl =>
    simp only [show ((6 : Int) = 1) = False from by decide, show ((6 : Int) = 2) = False from by decide, show ((6 : Int) = 17) = False from by decide, show ((6 : Int) = 3) = False from by decide, show ((6 : Int) = 5) = False from by decide, show ((6 : Int) = 4) = False from by decide, show ((6 : Int) = 11) = False from by decide, show ((6 : Int) = 12) = False from by decide, show ((6 : Int) = 13) = False from by decide, show ((6 : Int) = 8) = False from by decide, show ((6 : Int) = 9) = False from by decide, show ((6 : Int) = 15) = False from by decide, show ((6 : Int) = 10) = False from by decide, show ((6 : Int) = 16) = False from by decide, or_false, false_or, if_false, if_true]
    by_cases h1 : srcOp op
    · simp only [if_pos h1]
      exact place_then h hn (fun x n _ e => by rw [e]; rfl) (fun e => e)
    · simp only [if_neg h1]
      by_cases h2 : op = 10
      · simp only [if_pos h2]
        exact place_then h hn (fun x n hm e => by rw [e]; exact num_then h) (fun e => imm_stuck e)
      · simp only [if_neg h2]
        exact place_then h hn (fun x n _ e => by rw [e]; rfl) (fun e => e)
  all_goals simp (config := { decide := true }) only [if_true, if_false, or_true, true_or, or_false, false_or]
  · exact place_then h hn (fun x n _ e => by rw [e]; rfl) (fun e => e)
  · exact place_then h hn (fun x n _ e => by rw [e]; rfl) (fun e => e)
  · exact place_then h hn (fun x n _ e => by rw [e]; exact num_then h) (fun e => imm_stuck e)
  · exact place_then h hn (fun x n _ e => by rw [e]; exact num_then h) (fun e => imm_stuck e)
  · exact place_then h hn (fun x n _ e => by rw [e]; exact numU_then h) (fun e => immU_stuck e)
  · exact place_then h hn (fun x n _ e => by rw [e]; rfl) (fun e => e)
  · exact place_then h hn (fun x n _ e => by rw [e]; rfl) (fun e => e)
  · exact place_then h hn (fun x n _ e => by rw [e]; rfl) (fun e => e)
theorem ok2_none {α : Type} {I : In} {x : α} : Ok2 (some (x, I.n)) I (x, I) := rfl
/-- the other operands -/
theorem plS_ok {I : In} {f op sz fr : Int} {md rg rm b : Nat} (h : I.c = 0) (hn : I.n ≤ I.t.size) (hf : ¬ hasM f) : Ok2 (operD I.t I.n f op sz fr md rg rm I.x b) I (plS I f op sz b) := by
  unfold hasM at hf
  have n1 : ¬ f = 1 := fun e => hf (by simp [e])
  have n2 : ¬ f = 2 := fun e => hf (by simp [e])
  have n4 : ¬ f = 4 := fun e => hf (by simp [e])
  have n5 : ¬ f = 5 := fun e => hf (by simp [e])
  have n6 : ¬ f = 6 := fun e => hf (by simp [e])
  have n11 : ¬ f = 11 := fun e => hf (by simp [e])
  have n12 : ¬ f = 12 := fun e => hf (by simp [e])
  have n13 : ¬ f = 13 := fun e => hf (by simp [e])
  have n17 : ¬ f = 17 := fun e => hf (by simp [e])
  clear hf
  have N (k : Nat) (p : Opd) : Ok2 (thenD (numD I.t I.n k) fun x n => some ((p, x), n)) I ((p, (immS I k).1), (immS I k).2) := num_then (I := I) (n := I.n) (k := k) (p := p) h
  have U (p : Opd) : Ok2 (thenD (numU I.t I.n) fun x n => some ((p, x), n)) I ((p, (immU I).1), (immU I).2) := numU_then (I := I) (n := I.n) (p := p) h
  unfold operD plS
  simp only [if_neg n1, if_neg n2, if_neg n4, if_neg n5, if_neg n6, if_neg n11, if_neg n12, if_neg n13, if_neg n17]
  by_cases h3 : f = 3
  · simp only [if_pos h3]; exact N _ _
  simp only [if_neg h3]
  by_cases h7 : f = 7
  · subst h7
    simp (config := { decide := true }) only [if_true, if_false, or_false]
    by_cases h29 : op = 29
    · simp only [if_pos h29]; exact ok2_none
    · simp only [if_neg h29]; exact ok2_none
  simp only [if_neg h7]
  by_cases h8 : f = 8
  · simp only [if_pos h8]; exact N _ _
  simp only [if_neg h8]
  by_cases h9 : f = 9
  · simp only [if_pos h9]; exact N _ _
  simp only [if_neg h9]
  by_cases h15 : f = 15
  · subst h15
    simp (config := { decide := true }) only [if_true, if_false, or_false]
    by_cases h44 : op = 44
    · simp only [if_pos h44]; exact U _
    · simp only [if_neg h44]; exact N _ _
  simp only [if_neg h15]
  by_cases h10 : f = 10 ∨ f = 16
  · simp only [if_pos h10]; exact N _ _
  · simp only [if_neg h10]; exact ok2_none
end Go.Proofs.YtinjpobepcenfaaDoor
namespace Go.Proofs.YtinjpobepcenfaaDoor
open Go.RowKit Go.Sort
set_option linter.unusedVariables false
def inA (I : In) : Array Value := #[.string I.t, .int .i64 I.n, .int .i64 I.x, .bool I.w, .int .i64 I.c]
/-- block g holds the decoder -/
def IB (w : World) (g : Nat) (I : In) : Prop := w.heap[g]? = some (.cells (inA I) 64 (0, 0))
theorem IB.cell {w : World} {g : Nat} {I : In} (h : IB w g I) (i : Nat) : w.cell? ⟨g, i, none⟩ = (inA I)[i]? := cell_of_row w g i _ _ (0, 0) h
theorem IB.free {w : World} {g : Nat} {I : In} (h : IB w g I) (i : Nat) : w.frozen? ⟨g, i, none⟩ = false := by
  unfold IB at h; simp [World.frozen?, h]
theorem IB.lt {w : World} {g : Nat} {I : In} (h : IB w g I) : g < w.heap.size := lt_of_blk h
theorem IB.set {w : World} {g : Nat} {I I' : In} (h : IB w g I) (i : Nat) (v : Value) (e : (inA I).setIfInBounds i v = inA I') : IB (w.setCell ⟨g, i, none⟩ v) g I' := by
  unfold IB at *
  simp [World.setCell, Array.getElem?_modify, h, e]
theorem IB.below {w w' : World} {g : Nat} {I : In} (h : IB w g I) (hb : Below w.heap.size w w') : IB w' g I := (hb.block g h.lt).trans h
theorem IB.drewN {w : World} {g : Nat} {I : In} (h : IB w g I) (n : Nat) : IB (w.drewN n) g I := h
/-- the decoder at block g, within a call that began in world W0 -/
structure IAt (W0 w : World) (g : Nat) (I : In) : Prop where
  rb : IB w g I
  ge : W0.heap.size ≤ g
  be : Below W0.heap.size W0 w
  sz : I.t.size ≤ 65536
  le : I.n ≤ I.t.size
  x8 : I.x < 80
theorem IAt.next {W0 w w' : World} {g : Nat} {I I' : In} (h : IAt W0 w g I) (hc : Ch w w' g) (hr : IB w' g I') (ht : I'.t = I.t) (hn : I'.n ≤ I.t.size) (hx : I'.x < 80) : IAt W0 w' g I' :=
  ⟨hr, h.ge, below_ch h.be h.ge hc, by rw [ht]; exact h.sz, by rw [ht]; exact hn, hx⟩
theorem IAt.below {W0 w w' : World} {g : Nat} {I : In} (h : IAt W0 w g I) (hb : Below w.heap.size w w') : IAt W0 w' g I := h.next (Ch.of_below hb) (h.rb.below hb) rfl h.le h.x8
theorem IAt.lt {W0 w : World} {g : Nat} {I : In} (h : IAt W0 w g I) : g < w.heap.size := h.rb.lt
theorem IAt.alloc {W0 w : World} {g : Nat} {I : In} (h : IAt W0 w g I) (o : Obj) : IAt W0 (w.alloc o) g I := h.below (bel_alloc w o)
theorem IAt.same {W0 w w' : World} {g : Nat} {I : In} (h : IAt W0 w g I) (hc : Ch w w' g) (hr : IB w' g I) : IAt W0 w' g I := h.next hc hr rfl h.le h.x8
/-- a call that leaves the decoder as I' -/
def IWr (W0 w w' : World) (g : Nat) (I' : In) : Prop := IAt W0 w' g I' ∧ Ch w w' g
theorem IWr.pre {W0 w w1 w2 : World} {g : Nat} {I : In} (h1 : Below w.heap.size w w1) (h2 : IWr W0 w1 w2 g I) : IWr W0 w w2 g I := ⟨h2.1, (Ch.of_below h1).trans h2.2⟩
set_option maxHeartbeats 400000 in
theorem failC (g : Nat) (I : In) (c : Int) (W0 w : World) (h : IAt W0 w g I) :
    Calls Tryd.prog 50 #[.pointer (some ⟨g, 0, none⟩), .int .i64 c] w fun e w' => e = .returned (.tuple #[]) ∧ IWr W0 w w' g (failI I c) := by
  have c4 := h.rb.cell 4
  simp only [inA, List.getElem?_toArray, List.getElem?_cons_zero, List.getElem?_cons_succ] at c4
  have f4 := h.rb.free 4
  have H := Lib.hid h
  clear h
  unfold failI
  by_cases h0 : I.c = 0
  · rw [h0] at c4
    have HE := Lib.hid h0
    clear h0
    rw [if_pos HE.out]
    go_enter Tryd.func50, Tryd.ntmps50
    go_wp2
    go_end0
    have hc : Ch w (w.setCell ⟨g, 4, none⟩ (.int .i64 c)) g := (Ch.refl _ _).set 4 _
    exact ⟨rfl, H.out.next hc (H.out.rb.set (I' := { I with c := c }) 4 _ rfl) rfl H.out.le H.out.x8, hc⟩
  · rw [if_neg h0]
    have d0 : (I.c == 0) = false := beq_eq_false_iff_ne.mpr h0
    clear h0
    go_enter Tryd.func50, Tryd.ntmps50
    go_wp2
    go_end0
    exact ⟨rfl, H.out, Ch.refl _ _⟩
theorem sgS_eq (s : ByteArray) (n k : Nat) (hk : okSize (k : Int)) (w : World) :
    Calls Tryd.prog 114 #[.int .i64 (wrap64 (takeN s n k : Int)), .int .i64 (k : Int)] w fun e w' => e = .returned (.int .i64 (sgV s n k)) ∧ w = w' := by
  have h8 : k ≤ 8 := by rcases hk with h | h | h | h <;> omega
  have h1 : 1 ≤ k := by rcases hk with h | h | h | h <;> omega
  have hX : IntKind.u64.wrap (wrap64 (takeN s n k : Int)) = (takeN s n k : Int) := by
    have := lt64 (takeN_lt s n k) h8
    rw [wrapU]; unfold wrap64; omega
  exact specSignL _ _ k w hX h1 h8
set_option maxHeartbeats 1000000 in
theorem numC (g k : Nat) (I : In) (W0 w : World) (h : IAt W0 w g I) (hk : okSize (k : Int)) :
    Calls Tryd.prog 83 #[.pointer (some ⟨g, 0, none⟩), .int .i64 (k : Int)] w fun e w' => e = .returned (.int .i64 (numV I k)) ∧ IWr W0 w w' g (numI I k) := by
  have c0 := h.rb.cell 0; have c1 := h.rb.cell 1; have c4 := h.rb.cell 4
  simp only [inA, List.getElem?_toArray, List.getElem?_cons_zero, List.getElem?_cons_succ] at c0 c1 c4
  have f1 := h.rb.free 1
  have H := Lib.hid h
  have hm := h.sz
  have hl := h.le
  clear h
  unfold numV numI
  by_cases h0 : I.c = 0
  · rw [h0] at c4
    have HE := Lib.hid h0
    clear h0
    rw [if_pos HE.out, if_pos HE.out]
    by_cases h1 : I.n + k ≤ I.t.size
    · rw [if_pos h1, if_pos h1]
      have C1 := Lib.hid (fun w => specTakeL I.t I.n k w hm h1 (by rcases hk with h | h | h | h <;> omega))
      have C2 := Lib.hid (fun w => sgS_eq I.t I.n k hk w)
      have d1 : decide ((I.t.size : Int) - (I.n : Int) < (k : Int)) = false := decide_eq_false (by omega)
      have hb : (I.n : Int) + (k : Int) ≤ 65536 := by omega
      have hk8 : (k : Int) ≤ 8 := by rcases hk with h | h | h | h <;> omega
      have e1 : ((I.n + k : Nat) : Int) = (I.n : Int) + (k : Int) := by omega
      have HN := Lib.hid h1
      have hl' : (I.n : Int) ≤ I.t.size := by omega
      have hm' : (I.t.size : Int) ≤ 65536 := by omega
      clear h1 hk hm hl
      go_enter Tryd.func83, Tryd.ntmps83
      go_wp2_with fail
      go_quiet (fail)
      generalize nq = m0
      go_wp2_with fail
      go_quiet ((first | (go_at_call 115; exact Calls.quiet_of_same ((C1.out _).mono fun _ _ h => ⟨h.1, h.2.symm⟩)) | (go_at_call 114; exact Calls.quiet_of_same ((C2.out _).mono fun _ _ h => ⟨h.1, h.2.symm⟩))))
      go_wp2
      go_ret
      have hc : Ch w (((w.drewN m0).setCell ⟨g, 1, none⟩ (.int .i64 ((I.n : Int) + (k : Int)))).drewN nq) g := (((Ch.refl _ _).drewN m0).set 1 _).drewN nq
      exact ⟨rfl, H.out.next hc (((H.out.rb.drewN m0).set (I' := { I with n := I.n + k }) 1 _ rfl).drewN nq) rfl HN.out H.out.x8, hc⟩
    · rw [if_neg h1, if_neg h1]
      have d1 : decide ((I.t.size : Int) - (I.n : Int) < (k : Int)) = true := decide_eq_true (by omega)
      have hb : (I.n : Int) ≤ 65536 := by omega
      have hl' : (I.n : Int) ≤ I.t.size := by omega
      have hm' : (I.t.size : Int) ≤ 65536 := by omega
      have C := Lib.hid (fun w H => failC g I 9 W0 w H)
      have EF := Lib.hid (show failI I 9 = { I with c := 9 } from by unfold failI; rw [if_pos HE.out])
      clear h1 hk hm hl
      go_enter Tryd.func83, Tryd.ntmps83
      go_wp2_with fail
      go_quiet (fail)
      go_wp2_with fail
      refine Calls.mono (C.out _ (H.out.below (belQ w nq))) ?_
      rintro e w1 ⟨rfl, h1⟩
      rw [EF.out] at h1
      have h2 := IWr.pre (belQ w nq) h1
      clear h1
      go_wp2
      go_ret
      exact ⟨rfl, h2⟩
  · rw [if_neg h0, if_neg h0]
    have d0 : (I.c != 0) = true := bne_iff_ne.mpr h0
    clear h0 hk hm hl
    go_enter Tryd.func83, Tryd.ntmps83
    go_wp2
    go_ret
    exact ⟨rfl, H.out, Ch.refl _ _⟩
theorem zer1_eq (s : ByteArray) (n : Nat) (w : World) :
    Calls Tryd.prog 82 #[.int .i64 (sgV s n 1), .int .i64 1] w fun e w' => e = .returned (.int .i64 (nb s n : Int)) ∧ w = w' := by
  have hb := nb_lt s n
  have hX : IntKind.u64.wrap (sgV s n 1) = ((sgnU (takeN s n 1) 1 : Nat) : Int) := by
    have := sgnU_lt (takeN s n 1) 1
    unfold sgV; rw [wrapU]; unfold wrap64; omega
  have C := specZeroL (sgV s n 1) (sgnU (takeN s n 1) 1) 1 w hX (by decide) (by decide)
  have e : wrap64 ((sgnU (takeN s n 1) 1 % 2 ^ (8 * 1) : Nat) : Int) = (nb s n : Int) := by
    have e1 : takeN s n 1 = nb s n := by simp [takeN]
    have e2 := sgn_int (takeN s n 1) 1 (by decide)
    have hl := sgnU_lt (takeN s n 1) 1
    rw [e1] at *
    generalize sgnU (nb s n) 1 = U at *
    rw [show (2 ^ (8 * 1) : Nat) = 256 from rfl, Int.bmod_def] at e2
    rw [show (2 ^ (8 * 1) : Nat) = 256 from rfl]
    unfold wrap64 at *
    split at e2 <;> omega
  rw [e] at C
  exact C
theorem zer1_0 (w : World) : Calls Tryd.prog 82 #[.int .i64 0, .int .i64 1] w fun e w' => e = .returned (.int .i64 0) ∧ w = w' := by
  have C := specZeroL 0 0 1 w rfl (by decide) (by decide)
  rw [show wrap64 ((0 % 2 ^ (8 * 1) : Nat) : Int) = 0 from by simp [wrap64]] at C
  exact C
theorem zerV (I : In) (w : World) : Calls Tryd.prog 82 #[.int .i64 (numV I 1), .int .i64 1] w fun e w' => e = .returned (.int .i64 (byteV I : Int)) ∧ w = w' := by
  unfold numV byteV
  by_cases h0 : I.c = 0
  · rw [if_pos h0, if_pos h0]
    by_cases h1 : I.n + 1 ≤ I.t.size
    · rw [if_pos h1, if_pos h1]; exact zer1_eq _ _ w
    · rw [if_neg h1, if_neg h1]; exact zer1_0 w
  · rw [if_neg h0, if_neg h0]; exact zer1_0 w
set_option maxHeartbeats 1000000 in
theorem byteC (g : Nat) (I : In) (W0 w : World) (h : IAt W0 w g I) :
    Calls Tryd.prog 48 #[.pointer (some ⟨g, 0, none⟩)] w fun e w' => e = .returned (.int .i64 (byteV I : Int)) ∧ IWr W0 w w' g (numI I 1) := by
  have C1 := Lib.hid (numC g 1 I W0 w h ok1)
  have C2 := Lib.hid (zerV I)
  clear h
  go_enter Tryd.func48, Tryd.ntmps48
  go_wp2_with fail
  refine Calls.mono C1.out ?_
  rintro e w1 ⟨rfl, h1⟩
  go_wp2_with fail
  refine Calls.mono (C2.out _) ?_
  rintro e w2 ⟨rfl, rfl⟩
  go_wp2
  go_ret
  exact ⟨rfl, h1⟩
set_option maxHeartbeats 1000000 in
theorem sExtC (g k : Nat) (I : In) (W0 w : World) (h : IAt W0 w g I) (hk : k < 4) :
    Calls Tryd.prog 87 #[.pointer (some ⟨g, 0, none⟩), .int .i64 (k : Int)] w fun e w' => e = .returned (.int .i64 (extB I.x k : Int)) ∧ w = w' := by
  have c2 := h.rb.cell 2
  simp only [inA, List.getElem?_toArray, List.getElem?_cons_zero, List.getElem?_cons_succ] at c2
  have hX : IntKind.u64.wrap (I.x : Int) = (I.x : Int) := by have := h.x8; rw [wrapU]; omega
  have C := Lib.hid (bitC (I.x : Int) I.x k w hX (by omega))
  have hb : I.x / 2 ^ k % 2 ≤ 1 := by omega
  have HE := Lib.hid (show ((extB I.x k : Nat) : Int) = 8 * ((I.x / 2 ^ k % 2 : Nat) : Int) from by unfold extB; split <;> omega)
  obtain ⟨y, hy⟩ : ∃ y, y = I.x / 2 ^ k % 2 := ⟨_, rfl⟩
  rw [← hy] at C HE hb
  clear h hX hy hk
  have hb' : (y : Int) ≤ 1 := by omega
  clear hb
  go_enter Tryd.func87, Tryd.ntmps87
  go_wp2_with fail
  refine Calls.mono C.out ?_
  rintro e w1 ⟨rfl, rfl⟩
  go_wp2
  go_ret
  exact ⟨ret_in1 HE.out.symm, rfl⟩
theorem IAt.setRow {W0 w : World} {b g : Nat} {I : In} {cs : Array Value} (h : IAt W0 w g I) (hb : W0.heap.size ≤ b) (hne : b ≠ g) : IAt W0 (w.setRow b cs) g I :=
  ⟨(setRow_other _ _ _ _ (by omega)).trans h.rb, h.ge, ⟨h.be.os, h.be.tape, h.be.output, by rw [setRow_size]; exact h.be.size, fun i hi => by rw [setRow_other _ _ _ _ (by omega)]; exact h.be.block i hi⟩, h.sz, h.le, h.x8⟩
theorem izne {W0 w : World} {g : Nat} {I : In} (h : IAt W0 w g I) : w.heap.size ≠ g := by have := h.lt; omega
theorem IWr.trans {W0 w w1 w2 : World} {g : Nat} {I I2 : In} (h1 : IWr W0 w w1 g I) (h2 : IWr W0 w1 w2 g I2) : IWr W0 w w2 g I2 := ⟨h2.1, h1.2.trans h2.2⟩
theorem IWr.below {W0 w w1 w2 : World} {g : Nat} {I : In} (h1 : IWr W0 w w1 g I) (h2 : Below w1.heap.size w1 w2) : IWr W0 w w2 g I := ⟨h1.1.below h2, h1.2.trans (Ch.of_below h2)⟩
/-- the result is stored, too -/
theorem IWr.row {W0 w w1 : World} {g : Nat} {I I0 : In} {cs : Array Value} (h0 : IAt W0 w g I0) (h : IWr W0 w w1 g I) : IWr W0 w (w1.setRow w.heap.size cs) g I :=
  ⟨h.1.setRow h0.be.size (izne h0), ch_setRow h.2⟩
/-- within memory: the decoder, the operand that is made, all else as it was -/
structure IMS (W0 w00 W : World) (g gx : Nat) (I : In) (x : Opd) : Prop where
  at' : IAt W0 W g I
  eq : gx = w00.heap.size
  xb : XB W gx x
  ch : Ch w00 W g
  ge : W0.heap.size ≤ w00.heap.size
  ne : g < w00.heap.size
theorem IMS.set {W0 w00 W : World} {g gx : Nat} {I : In} {x y : Opd} (h : IMS W0 w00 W g gx I x) (i : Nat) (v : Value) (e : (opdL x).toArray.setIfInBounds i v = (opdL y).toArray) : IMS W0 w00 (W.setCell ⟨gx, i, none⟩ v) g gx I y := by
  have hne := h.ne
  have hge := h.ge
  have heq := h.eq
  have hb (k : Nat) (hk : k ≠ gx) : (W.setCell ⟨gx, i, none⟩ v).heap[k]? = W.heap[k]? := Below.heap_setCell _ _ _ _ (by simpa using hk)
  refine ⟨⟨(hb g (by omega)).trans h.at'.rb, h.at'.ge, h.at'.be.setCell (by show _ ≤ gx; omega) _, h.at'.sz, h.at'.le, h.at'.x8⟩, heq, h.xb.set i v e, ⟨h.ch.os, h.ch.tape, h.ch.output, by simp; exact h.ch.size, fun k hk hn => (hb k (by omega)).trans (h.ch.block k hk hn)⟩, h.ge, h.ne⟩
theorem IMS.wr {W0 w00 W W' : World} {g gx : Nat} {I I' : In} {x : Opd} (h : IMS W0 w00 W g gx I x) (hw : IWr W0 W W' g I') : IMS W0 w00 W' g gx I' x :=
  ⟨hw.1, h.eq, (hw.2.block _ (lt_of_blk h.xb) (fun e => by have := h.ne; have := h.eq; have := Option.some.inj e; omega)).trans h.xb, h.ch.trans hw.2, h.ge, h.ne⟩
theorem IMS.drewN {W0 w00 W : World} {g gx : Nat} {I : In} {x : Opd} (h : IMS W0 w00 W g gx I x) (q : Nat) : IMS W0 w00 (W.drewN q) g gx I x :=
  ⟨h.at'.below (belQ W q), h.eq, h.xb, h.ch.trans ((Ch.refl _ _).drewN q), h.ge, h.ne⟩
theorem IMS.drew {W0 w00 W : World} {g gx : Nat} {I : In} {x : Opd} (h : IMS W0 w00 W g gx I x) : IMS W0 w00 W.drew g gx I x := h.drewN 1
theorem IMS.new {W0 w : World} {g : Nat} {I : In} (h : IAt W0 w g I) (x : Opd) : IMS W0 w (w.alloc (.cells (opdL x).toArray 25)) g w.heap.size I x :=
  ⟨h.alloc _, rfl, heap_alloc_new w _, ch_alloc _ _ _, h.be.size, h.lt⟩
theorem IMS.fin {W0 w W : World} {g gx : Nat} {I I' : In} {x : Opd} {o : Obj} {cs : Array Value} (h : IAt W0 w g I) (M : IMS W0 (w.alloc o) W g gx I' x) : IWr W0 w (W.setRow w.heap.size cs) g I' :=
  IWr.row h ⟨M.at', (ch_alloc w o g).trans M.ch⟩
theorem IMS.zo {W0 w W : World} {g gx : Nat} {I I' : In} {x : Opd} (h : IAt W0 w g I) (M : IMS W0 (w.alloc (.cells #[.int .i64 0, .int .i64 0, .int .i64 0, .int .i64 0, .int .i64 0, .int .i64 0, .int .i64 0] 25)) W g gx I' x) : Zo W w.heap.size := (Zo.new w).ch M.ch (izne h)
theorem IMS.newX {W0 w : World} {g : Nat} {I : In} (h : IAt W0 w g I) (b i s d : Int) : IMS W0 (w.alloc (.cells #[.int .i64 0, .int .i64 0, .int .i64 0, .int .i64 0, .int .i64 0, .int .i64 0, .int .i64 0] 25)) ((w.alloc (.cells #[.int .i64 0, .int .i64 0, .int .i64 0, .int .i64 0, .int .i64 0, .int .i64 0, .int .i64 0] 25)).alloc (.cells #[.int .i64 2, .int .i64 0, .int .i64 b, .int .i64 i, .int .i64 s, .int .i64 d, .int .i64 0] 25)) g (w.heap.size + 1) I (memOpd b i s d) := by
  have e : (w.alloc (.cells #[.int .i64 0, .int .i64 0, .int .i64 0, .int .i64 0, .int .i64 0, .int .i64 0, .int .i64 0] 25)).heap.size = w.heap.size + 1 := by simp
  rw [← e]
  exact IMS.new (h.alloc _) (memOpd b i s d)
end Go.Proofs.YtinjpobepcenfaaDoor
