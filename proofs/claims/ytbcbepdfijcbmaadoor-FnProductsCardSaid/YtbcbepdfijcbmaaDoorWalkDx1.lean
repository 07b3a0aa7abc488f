/-
  Divide: joined halves, the signed quotient, and that both answer alike; conditions: those in each head.
-/
import Derived.Test.YtbcbepdfijcbmaaDoorMathDv
import Derived.Test.YtbcbepdfijcbmaaDoorWalkDw2
import Derived.Test.YtbcbepdfijcbmaaDoorWalkDw5
import Derived.Test.YtbcbepdfijcbmaaDoorWalkDw6
import Derived.Test.YtbcbepdfijcbmaaDoorWalkDs2
import Derived.Test.YtbcbepdfijcbmaaDoorWalkDs31
import Derived.Test.YtbcbepdfijcbmaaDoorWalkDs32
import Derived.Test.YtbcbepdfijcbmaaDoorWalkDs34
import Derived.Test.YtbcbepdfijcbmaaDoorWalkDs38
namespace Go.Proofs.YtbcbepdfijcbmaaDoor
open Go.RowKit
set_option linter.unusedVariables false
theorem dq_b {x l d : Int} (h0 : 0 ≤ x) (h1 : x < d) (h2 : 0 ≤ l) (h3 : l < 18446744073709551616) : (0 ≤ dq x l d ∧ dq x l d < 18446744073709551616) ∧ (0 ≤ dr x l d ∧ dr x l d < d) := by
  unfold dq dr
  have hd : 0 < d := by omega
  refine ⟨⟨Int.ediv_nonneg (by omega) (by omega), Int.ediv_lt_of_lt_mul hd ?_⟩, Int.emod_nonneg _ (by omega), Int.emod_lt_of_pos _ hd⟩
  have : (x + 1) * 18446744073709551616 ≤ d * 18446744073709551616 := Int.mul_le_mul_of_nonneg_right (by omega) (by decide)
  rw [Int.mul_comm 18446744073709551616 d]
  omega
theorem dwYes {x l y : Int} (h0 : 0 ≤ x) (h1 : x < y) (h2 : 0 ≤ l) (h3 : l < 18446744073709551616) (h4 : y < 18446744073709551616) (w : World) :
    Calls Tryd.prog 83 #[.int .i64 (wrap64 x), .int .i64 (wrap64 l), .int .i64 (wrap64 y)] w fun e w' => e = .returned (.tuple #[.int .i64 (wrap64 (dq x l y)), .int .i64 (wrap64 (dr x l y)), .int .i64 0]) ∧ Below w.heap.size w w' := by
  have ex := u_w64 h0 (show x < 18446744073709551616 by omega); have el := u_w64 h2 h3; have ey := u_w64 (show 0 ≤ y by omega) h4
  have := implDivide (wrap64 x) (wrap64 l) (wrap64 y) w (by rw [ex, ey]; exact h1)
  unfold dwQ dwR at this
  rw [ex, el, ey] at this
  exact this
theorem dwNo {x l y : Int} (h0 : 0 ≤ x) (hx : x < 18446744073709551616) (h1 : ¬ x < y) (hy : 0 ≤ y) (h4 : y < 18446744073709551616) (w : World) :
    Calls Tryd.prog 83 #[.int .i64 (wrap64 x), .int .i64 (wrap64 l), .int .i64 (wrap64 y)] w fun e w' => e = .returned (.tuple #[.int .i64 0, .int .i64 0, .int .i64 16]) ∧ Below w.heap.size w w' := by
  have ex := u_w64 h0 hx; have ey := u_w64 hy h4
  exact implDivideNo (wrap64 x) (wrap64 l) (wrap64 y) w (by rw [ex, ey]; exact h1)
theorem w00 : wrap64 0 = 0 := by unfold wrap64; omega
theorem wm1 : wrap64 18446744073709551615 = -1 := by unfold wrap64; omega
theorem negC {H L : Int} (h0 : 0 ≤ H) (h1 : H < 18446744073709551616) (h2 : 0 ≤ L) (h3 : L < 18446744073709551616) (w : World) :
    Calls Tryd.prog 84 #[.agg #[.int .i64 (wrap64 H), .int .i64 (wrap64 L)]] w fun e w' => e = .returned (.agg #[.int .i64 (wrap64 (negH H L)), .int .i64 (wrap64 (negL L))]) ∧ Below w.heap.size w w' := by
  by_cases hL : L = 0
  · subst hL
    have e1 : wrap64 (-(wrap64 H)) = wrap64 (negH H 0) := by unfold negH; rw [if_pos rfl, w64_neg]; unfold wrap64; omega
    have e2 : wrap64 (negL 0) = 0 := by unfold negL wrap64; omega
    have := negX0 (wrap64 H) (wrap64 0) (by rw [w00]; rfl) w
    rw [e1] at this; rw [e2]; exact this
  · have e1 : bits .xor .i64 (-1) (wrap64 H) = wrap64 (negH H L) := by unfold negH; rw [if_neg hL, xor_w64]
    have e2 : wrap64 (-(wrap64 L)) = wrap64 (negL L) := by unfold negL; rw [w64_neg]; unfold wrap64; omega
    have := negX1 (wrap64 H) (wrap64 L) (beq_eq_false_iff_ne.mpr (by unfold wrap64; omega)) w
    rw [e1, e2] at this; exact this
/-- the quotient's halves with the sign that is due -/
def qH (turn : Bool) (q : Int) : Int := if turn && q != 0 then -1 else 0
def qL (turn : Bool) (q : Int) : Int := if turn then wrap64 (-q) else wrap64 q
theorem negQ {q : Int} (h2 : 0 ≤ q) (h3 : q < 18446744073709551616) (w : World) :
    Calls Tryd.prog 84 #[.agg #[.int .i64 0, .int .i64 (wrap64 q)]] w fun e w' => e = .returned (.agg #[.int .i64 (qH true q), .int .i64 (qL true q)]) ∧ Below w.heap.size w w' := by
  have := negC (H := 0) (L := q) (by decide) (by decide) h2 h3 w
  have e0 := w00
  have e1 : wrap64 (negH 0 q) = qH true q := by
    unfold negH qH
    by_cases hq : q = 0
    · subst hq; rw [if_pos rfl]; simp; unfold wrap64; omega
    · rw [if_neg hq]; simp [hq]; exact wm1
  have e2 : wrap64 (negL q) = qL true q := by unfold negL qL; simp only [if_true]; unfold wrap64; omega
  rw [e0, e1, e2] at this; exact this
theorem negQ0 (w : World) :
    Calls Tryd.prog 84 #[.agg #[.int .i64 0, .int .i64 0]] w fun e w' => e = .returned (.agg #[.int .i64 (qH true 0), .int .i64 (qL true 0)]) ∧ Below w.heap.size w w' := by
  have := negQ (q := 0) (by decide) (by decide) w
  rw [w00] at this; exact this
theorem absP {s : Int} (h : ¬ s < 0) : absU s = s := by unfold absU; omega
theorem absN {s : Int} (h : s < 0) : absU s = -s := by unfold absU; omega
theorem w64_in {s : Int} (h0 : -9223372036854775808 ≤ s) (h1 : s ≤ 9223372036854775807) : wrap64 s = s := by unfold wrap64; omega
theorem negS {s : Int} (h : s < 0) (w : World) :
    Calls Tryd.prog 84 #[.agg #[.int .i64 (s / 9223372036854775808), .int .i64 s]] w fun e w' => e = .returned (.agg #[.int .i64 (bits .xor .i64 (-1) (s / 9223372036854775808)), .int .i64 (wrap64 (absU s))]) ∧ Below w.heap.size w w' := by
  rw [absN h]
  exact negX1 _ s (beq_eq_false_iff_ne.mpr (by omega)) w
theorem dsYesFF {H L s : Int} (h0 : 0 ≤ H) (h1 : H < 18446744073709551616) (h2 : 0 ≤ L) (h3 : L < 18446744073709551616) (s0 : -9223372036854775808 ≤ s) (s1 : s ≤ 9223372036854775807)
    (hm : decide (9223372036854775808 ≤ H) = false) (hn : decide (s < 0) = false) (hlt : H < absU s) (w : World) :
    Calls Tryd.prog 52 #[.agg #[.int .i64 (wrap64 H), .int .i64 (wrap64 L)], .agg #[.int .i64 (s / 9223372036854775808), .int .i64 s]] w fun e w' => e = .returned (.tuple #[.agg #[.int .i64 0, .int .i64 (wrap64 (dq H L (absU s)))], .int .i64 (wrap64 (dr H L (absU s))), .int .i64 0]) ∧ Below w.heap.size w w' := by
  have hmp := of_decide_eq_false hm
  have hnp := of_decide_eq_false hn
  have hb : decide (wrap64 H < 0) = false := decide_eq_false (by unfold wrap64; omega)
  have hd : decide (s / 9223372036854775808 < 0) = false := decide_eq_false (by omega)
  have ha : absU s < 18446744073709551616 ∧ 0 ≤ absU s := by unfold absU; omega
  have qb := dq_b h0 hlt h2 h3
  have es : wrap64 (absU s) = s := by rw [absP hnp]; exact w64_in s0 s1
  have dw := fun w => dwYes h0 hlt h2 h3 ha.1 w
  simp only [es] at dw
  have pl := fun w => plainX (wrap64 H) (wrap64 L) (s / 9223372036854775808) s _ _ _ dw w
  exact dsXFF (wrap64 H) (wrap64 L) (s / 9223372036854775808) s _ _ _ hb hd pl w
theorem dsYesFT {H L s : Int} (h0 : 0 ≤ H) (h1 : H < 18446744073709551616) (h2 : 0 ≤ L) (h3 : L < 18446744073709551616) (s0 : -9223372036854775808 ≤ s) (s1 : s ≤ 9223372036854775807)
    (hm : decide (9223372036854775808 ≤ H) = false) (hn : decide (s < 0) = true) (hlt : H < absU s) (w : World) :
    Calls Tryd.prog 52 #[.agg #[.int .i64 (wrap64 H), .int .i64 (wrap64 L)], .agg #[.int .i64 (s / 9223372036854775808), .int .i64 s]] w fun e w' => e = .returned (.tuple #[.agg #[.int .i64 (qH true (dq H L (absU s))), .int .i64 (qL true (dq H L (absU s)))], .int .i64 (wrap64 (dr H L (absU s))), .int .i64 0]) ∧ Below w.heap.size w w' := by
  have hmp := of_decide_eq_false hm
  have hnp := of_decide_eq_true hn
  have hb : decide (wrap64 H < 0) = false := decide_eq_false (by unfold wrap64; omega)
  have hd : decide (s / 9223372036854775808 < 0) = true := decide_eq_true (by omega)
  have ha : absU s < 18446744073709551616 ∧ 0 ≤ absU s := by unfold absU; omega
  have qb := dq_b h0 hlt h2 h3
  have pl := fun w => plainX (wrap64 H) (wrap64 L) (bits .xor .i64 (-1) (s / 9223372036854775808)) (wrap64 (absU s)) _ _ _ (fun w => dwYes h0 hlt h2 h3 ha.1 w) w
  exact dsXFT (wrap64 H) (wrap64 L) (s / 9223372036854775808) s _ _ _ _ _ _ _ hb hd (negS hnp) pl (negQ qb.1.1 qb.1.2) w
theorem dsYesTF {H L s : Int} (h0 : 0 ≤ H) (h1 : H < 18446744073709551616) (h2 : 0 ≤ L) (h3 : L < 18446744073709551616) (s0 : -9223372036854775808 ≤ s) (s1 : s ≤ 9223372036854775807)
    (hm : decide (9223372036854775808 ≤ H) = true) (hn : decide (s < 0) = false) (hlt : (negH H L) < absU s) (w : World) :
    Calls Tryd.prog 52 #[.agg #[.int .i64 (wrap64 H), .int .i64 (wrap64 L)], .agg #[.int .i64 (s / 9223372036854775808), .int .i64 s]] w fun e w' => e = .returned (.tuple #[.agg #[.int .i64 (qH true (dq (negH H L) (negL L) (absU s))), .int .i64 (qL true (dq (negH H L) (negL L) (absU s)))], .int .i64 (wrap64 (-(wrap64 (dr (negH H L) (negL L) (absU s))))), .int .i64 0]) ∧ Below w.heap.size w w' := by
  have hmp := of_decide_eq_true hm
  have hnp := of_decide_eq_false hn
  have hb : decide (wrap64 H < 0) = true := decide_eq_true (by unfold wrap64; omega)
  have hd : decide (s / 9223372036854775808 < 0) = false := decide_eq_false (by omega)
  have ha : absU s < 18446744073709551616 ∧ 0 ≤ absU s := by unfold absU; omega
  have nb := negH_b (L := L) h0 h1
  have lb := negL_b L
  have qb := dq_b nb.1 hlt lb.1 lb.2
  have es : wrap64 (absU s) = s := by rw [absP hnp]; exact w64_in s0 s1
  have dw := fun w => dwYes nb.1 hlt lb.1 lb.2 ha.1 w
  simp only [es] at dw
  have pl := fun w => plainX (wrap64 (negH H L)) (wrap64 (negL L)) (s / 9223372036854775808) s _ _ _ dw w
  exact dsXTF (wrap64 H) (wrap64 L) (s / 9223372036854775808) s _ _ _ _ _ _ _ hb hd (negC h0 h1 h2 h3) pl (negQ qb.1.1 qb.1.2) w
theorem dsYesTT {H L s : Int} (h0 : 0 ≤ H) (h1 : H < 18446744073709551616) (h2 : 0 ≤ L) (h3 : L < 18446744073709551616) (s0 : -9223372036854775808 ≤ s) (s1 : s ≤ 9223372036854775807)
    (hm : decide (9223372036854775808 ≤ H) = true) (hn : decide (s < 0) = true) (hlt : (negH H L) < absU s) (w : World) :
    Calls Tryd.prog 52 #[.agg #[.int .i64 (wrap64 H), .int .i64 (wrap64 L)], .agg #[.int .i64 (s / 9223372036854775808), .int .i64 s]] w fun e w' => e = .returned (.tuple #[.agg #[.int .i64 0, .int .i64 (wrap64 (dq (negH H L) (negL L) (absU s)))], .int .i64 (wrap64 (-(wrap64 (dr (negH H L) (negL L) (absU s))))), .int .i64 0]) ∧ Below w.heap.size w w' := by
  have hmp := of_decide_eq_true hm
  have hnp := of_decide_eq_true hn
  have hb : decide (wrap64 H < 0) = true := decide_eq_true (by unfold wrap64; omega)
  have hd : decide (s / 9223372036854775808 < 0) = true := decide_eq_true (by omega)
  have ha : absU s < 18446744073709551616 ∧ 0 ≤ absU s := by unfold absU; omega
  have nb := negH_b (L := L) h0 h1
  have lb := negL_b L
  have qb := dq_b nb.1 hlt lb.1 lb.2
  have pl := fun w => plainX (wrap64 (negH H L)) (wrap64 (negL L)) (bits .xor .i64 (-1) (s / 9223372036854775808)) (wrap64 (absU s)) _ _ _ (fun w => dwYes nb.1 hlt lb.1 lb.2 ha.1 w) w
  exact dsXTT (wrap64 H) (wrap64 L) (s / 9223372036854775808) s _ _ _ _ _ _ _ hb hd (negC h0 h1 h2 h3) (negS hnp) pl w
theorem dsNoFF {H L s : Int} (h0 : 0 ≤ H) (h1 : H < 18446744073709551616) (h2 : 0 ≤ L) (h3 : L < 18446744073709551616) (s0 : -9223372036854775808 ≤ s) (s1 : s ≤ 9223372036854775807)
    (hm : decide (9223372036854775808 ≤ H) = false) (hn : decide (s < 0) = false) (hlt : ¬ H < absU s) (w : World) :
    Calls Tryd.prog 52 #[.agg #[.int .i64 (wrap64 H), .int .i64 (wrap64 L)], .agg #[.int .i64 (s / 9223372036854775808), .int .i64 s]] w fun e w' => e = .returned (.tuple #[.agg #[.int .i64 0, .int .i64 0], .int .i64 0, .int .i64 16]) ∧ Below w.heap.size w w' := by
  have hmp := of_decide_eq_false hm
  have hnp := of_decide_eq_false hn
  have hb : decide (wrap64 H < 0) = false := decide_eq_false (by unfold wrap64; omega)
  have hd : decide (s / 9223372036854775808 < 0) = false := decide_eq_false (by omega)
  have ha : absU s < 18446744073709551616 ∧ 0 ≤ absU s := by unfold absU; omega
  have es : wrap64 (absU s) = s := by rw [absP hnp]; exact w64_in s0 s1
  have dw := fun w => dwNo (l := L) h0 h1 hlt ha.2 ha.1 w
  simp only [es] at dw
  have pl := fun w => plainX (wrap64 H) (wrap64 L) (s / 9223372036854775808) s _ _ _ dw w
  exact dsXFF (wrap64 H) (wrap64 L) (s / 9223372036854775808) s _ _ _ hb hd pl w
theorem dsNoFT {H L s : Int} (h0 : 0 ≤ H) (h1 : H < 18446744073709551616) (h2 : 0 ≤ L) (h3 : L < 18446744073709551616) (s0 : -9223372036854775808 ≤ s) (s1 : s ≤ 9223372036854775807)
    (hm : decide (9223372036854775808 ≤ H) = false) (hn : decide (s < 0) = true) (hlt : ¬ H < absU s) (w : World) :
    Calls Tryd.prog 52 #[.agg #[.int .i64 (wrap64 H), .int .i64 (wrap64 L)], .agg #[.int .i64 (s / 9223372036854775808), .int .i64 s]] w fun e w' => e = .returned (.tuple #[.agg #[.int .i64 (qH true 0), .int .i64 (qL true 0)], .int .i64 0, .int .i64 16]) ∧ Below w.heap.size w w' := by
  have hmp := of_decide_eq_false hm
  have hnp := of_decide_eq_true hn
  have hb : decide (wrap64 H < 0) = false := decide_eq_false (by unfold wrap64; omega)
  have hd : decide (s / 9223372036854775808 < 0) = true := decide_eq_true (by omega)
  have ha : absU s < 18446744073709551616 ∧ 0 ≤ absU s := by unfold absU; omega
  have pl := fun w => plainX (wrap64 H) (wrap64 L) (bits .xor .i64 (-1) (s / 9223372036854775808)) (wrap64 (absU s)) _ _ _ (fun w => dwNo (l := L) h0 h1 hlt ha.2 ha.1 w) w
  exact dsXFT (wrap64 H) (wrap64 L) (s / 9223372036854775808) s _ _ _ _ _ _ _ hb hd (negS hnp) pl negQ0 w
theorem dsNoTF {H L s : Int} (h0 : 0 ≤ H) (h1 : H < 18446744073709551616) (h2 : 0 ≤ L) (h3 : L < 18446744073709551616) (s0 : -9223372036854775808 ≤ s) (s1 : s ≤ 9223372036854775807)
    (hm : decide (9223372036854775808 ≤ H) = true) (hn : decide (s < 0) = false) (hlt : ¬ (negH H L) < absU s) (w : World) :
    Calls Tryd.prog 52 #[.agg #[.int .i64 (wrap64 H), .int .i64 (wrap64 L)], .agg #[.int .i64 (s / 9223372036854775808), .int .i64 s]] w fun e w' => e = .returned (.tuple #[.agg #[.int .i64 (qH true 0), .int .i64 (qL true 0)], .int .i64 (wrap64 (-0)), .int .i64 16]) ∧ Below w.heap.size w w' := by
  have hmp := of_decide_eq_true hm
  have hnp := of_decide_eq_false hn
  have hb : decide (wrap64 H < 0) = true := decide_eq_true (by unfold wrap64; omega)
  have hd : decide (s / 9223372036854775808 < 0) = false := decide_eq_false (by omega)
  have ha : absU s < 18446744073709551616 ∧ 0 ≤ absU s := by unfold absU; omega
  have nb := negH_b (L := L) h0 h1
  have lb := negL_b L
  have es : wrap64 (absU s) = s := by rw [absP hnp]; exact w64_in s0 s1
  have dw := fun w => dwNo (l := (negL L)) nb.1 nb.2 hlt ha.2 ha.1 w
  simp only [es] at dw
  have pl := fun w => plainX (wrap64 (negH H L)) (wrap64 (negL L)) (s / 9223372036854775808) s _ _ _ dw w
  exact dsXTF (wrap64 H) (wrap64 L) (s / 9223372036854775808) s _ _ _ _ _ _ _ hb hd (negC h0 h1 h2 h3) pl negQ0 w
theorem dsNoTT {H L s : Int} (h0 : 0 ≤ H) (h1 : H < 18446744073709551616) (h2 : 0 ≤ L) (h3 : L < 18446744073709551616) (s0 : -9223372036854775808 ≤ s) (s1 : s ≤ 9223372036854775807)
    (hm : decide (9223372036854775808 ≤ H) = true) (hn : decide (s < 0) = true) (hlt : ¬ (negH H L) < absU s) (w : World) :
    Calls Tryd.prog 52 #[.agg #[.int .i64 (wrap64 H), .int .i64 (wrap64 L)], .agg #[.int .i64 (s / 9223372036854775808), .int .i64 s]] w fun e w' => e = .returned (.tuple #[.agg #[.int .i64 0, .int .i64 0], .int .i64 (wrap64 (-0)), .int .i64 16]) ∧ Below w.heap.size w w' := by
  have hmp := of_decide_eq_true hm
  have hnp := of_decide_eq_true hn
  have hb : decide (wrap64 H < 0) = true := decide_eq_true (by unfold wrap64; omega)
  have hd : decide (s / 9223372036854775808 < 0) = true := decide_eq_true (by omega)
  have ha : absU s < 18446744073709551616 ∧ 0 ≤ absU s := by unfold absU; omega
  have nb := negH_b (L := L) h0 h1
  have lb := negL_b L
  have pl := fun w => plainX (wrap64 (negH H L)) (wrap64 (negL L)) (bits .xor .i64 (-1) (s / 9223372036854775808)) (wrap64 (absU s)) _ _ _ (fun w => dwNo (l := (negL L)) nb.1 nb.2 hlt ha.2 ha.1 w) w
  exact dsXTT (wrap64 H) (wrap64 L) (s / 9223372036854775808) s _ _ _ _ _ _ _ hb hd (negC h0 h1 h2 h3) (negS hnp) pl w
end Go.Proofs.YtbcbepdfijcbmaaDoor
