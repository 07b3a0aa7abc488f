/-
  What slices.Equal answers of two lists of segments, and what impl.SameImage answers; conditions: those in each head.
-/
import Derived.Test.YtmoemhnmiabppaaWalkImT
import Derived.BigQuiet
import Derived.Deep.QuietTactic
namespace Go.Proofs.Ytmoemhnmiabppaa
open Go.RowKit
set_option linter.unusedVariables false
set_option linter.unusedSimpArgs false
theorem byt_eq (a b : ByteArray) : (a.toList == b.toList) = true ↔ a = b := by
  rw [beq_iff_eq, ByteArray.toList_eq, ByteArray.toList_eq]
  refine ⟨fun h => ?_, fun h => by rw [h]⟩
  apply ByteArray.ext
  exact Array.ext' h
set_option maxHeartbeats 1000000 in
theorem neqSg (x y : Sg) (b : Bool) (hb : b = true ↔ x = y) (w : World) : (binOp .neq 51 (.agg #[.int .i64 x.f, .int .i64 x.v, .int .i64 x.m, .string x.d]) (.agg #[.int .i64 y.f, .int .i64 y.v, .int .i64 y.m, .string y.d])).run Try.prog w = .ok (.bool (!b)) w := by
  have u3 := Try.underlying3
  have a3 := Try.isAgg3
  have z3 := Try.sizeOf3
  have u9 := Try.underlying9
  have a9 := Try.isAgg9
  have z9 := Try.sizeOf9
  have hS : Try.prog.underlying 51 = some (.struct (Try.prog.fieldsOf 51)) := by kernel_rfl
  have hp : Try.prog.stoodInHeld 51 = false := by kernel_rfl
  have e : b = (x.f == y.f && (x.v == y.v && (x.m == y.m && x.d.toList == y.d.toList))) := by
    have hd := byt_eq x.d y.d
    cases x with | mk a1 a2 a3 a4 => cases y with | mk b1 b2 b3 b4 =>
    simp only at hd
    have hi : ((a1 == b1 && (a2 == b2 && (a3 == b3 && a4.toList == b4.toList))) = true) ↔ (⟨a1, a2, a3, a4⟩ : Sg) = ⟨b1, b2, b3, b4⟩ := by
      simp only [Bool.and_eq_true, hd, beq_iff_eq (α := Int), Sg.mk.injEq]
    exact Bool.eq_iff_iff.2 (hb.trans hi.symm)
  rw [e]
  rw [run_neq_struct, show (10000 : Nat) = 9999 + 1 from rfl, run_equalIn_agg w 9999 51 _ _ hS hp]
  simp only [Program.fieldsOf, Try.underlying51]
  go_simp
  by_cases h0 : x.f = y.f <;> by_cases h1 : x.v = y.v <;> by_cases h2 : x.m = y.m <;> by_cases h3 : x.d.toList = y.d.toList <;> simp [h0, h1, h2, h3]
theorem list_diff {a b : List Sg} (hl : a.length = b.length) (h : ∀ (k : Nat) x y, a[k]? = some x → b[k]? = some y → x = y) : a = b := by
  apply List.ext_getElem hl
  intro k h1 h2
  exact h k _ _ (List.getElem?_eq_getElem h1) (List.getElem?_eq_getElem h2)
set_option maxHeartbeats 2000000 in
theorem equalC (p q : Option Addr) (ca cb : Nat) (la lb : List Sg) (w : World) (h4 : la.length ≤ 4) (h4b : lb.length ≤ 4) (ra : RdS w p la) (rb : RdS w q lb) (b : Bool) (hb : b = true ↔ la = lb) :
    Calls Try.prog 28 #[.slice p la.length ca, .slice q lb.length cb] w fun e w' => e = .returned (.bool b) ∧ Below w.heap.size w w' := by
  have HB := Lib.hid hb; have RA := Lib.hid ra; have RB := Lib.hid rb
  clear hb ra rb
  by_cases hl : la.length = lb.length
  · have hne : ((la.length : Int) != (lb.length : Int)) = false := by simp [hl]
    have HL := Lib.hid hl
    go_enter Try.func28, Try.ntmps28
    go_wp2
    go_loopw [13] (fun i wr => ∃ (k : Nat), k ≤ la.length ∧ i = .int .i64 k ∧ Hid (∀ (j : Nat) x y, j < k → la[j]? = some x → lb[j]? = some y → x = y) ∧ Below w.heap.size w wr) (fun i _ => la.length - (intOf i).toNat)
    case atStart => exact ⟨0, Nat.zero_le _, rfl, Lib.hid (fun j x y h => by omega), Below.refl _ _⟩
    case round =>
      obtain ⟨k, hk, rfl, HE, hbw⟩ := hrel
      by_cases hlt : k < la.length
      · have hltb : k < lb.length := by omega
        obtain ⟨x, hx⟩ : ∃ x, la[k]? = some x := ⟨_, List.getElem?_eq_getElem hlt⟩
        obtain ⟨y, hy⟩ : ∃ y, lb[k]? = some y := ⟨_, List.getElem?_eq_getElem hltb⟩
        obtain ⟨b1, o1, rfl, h0, a0, a1, a2, a3⟩ := RA.out k x hx
        obtain ⟨b2, o2, rfl, j0, d0, d1, d2, d3⟩ := RB.out k y hy
        have g0 := (hbw.cell (p := ⟨b1, o1 + k * 4, none⟩) h0).trans a0
        have g1 := (hbw.cell (p := ⟨b1, o1 + k * 4 + 1, none⟩) h0).trans a1
        have g2 := (hbw.cell (p := ⟨b1, o1 + k * 4 + 2, none⟩) h0).trans a2
        have g3 := (hbw.cell (p := ⟨b1, o1 + k * 4 + 3, none⟩) h0).trans a3
        have i0 := (hbw.cell (p := ⟨b2, o2 + k * 4, none⟩) j0).trans d0
        have i1 := (hbw.cell (p := ⟨b2, o2 + k * 4 + 1, none⟩) j0).trans d1
        have i2 := (hbw.cell (p := ⟨b2, o2 + k * 4 + 2, none⟩) j0).trans d2
        have i3 := (hbw.cell (p := ⟨b2, o2 + k * 4 + 3, none⟩) j0).trans d3
        have HX := Lib.hid hx; have HY := Lib.hid hy
        have k1 : (0 : Int) ≤ (k : Int) := by omega
        have k2 : (k : Int) < (la.length : Int) := by omega
        have k3 : (k : Int) < (lb.length : Int) := by omega
        have hxy : x = y ∨ x ≠ y := Classical.em _
        clear hx hy a0 a1 a2 a3 d0 d1 d2 d3 h0 j0
        rcases hxy with e | e
        · have hE := neqSg x y true (by simp [e])
          have HEQ := Lib.hid e
          clear e
          go_wp2_with fail
          go_quiet (fail)
          clear g0 g1 g2 g3 i0 i1 i2 i3 hE
          go_wp2
          go_roundw
          case rel =>
            refine ⟨k + 1, by omega, by go_num, Lib.hid (fun j u v hj hu hv => ?_), belowN hbw _⟩
            by_cases ej : j = k
            · subst ej
              rw [HX.out] at hu; rw [HY.out] at hv; cases hu; cases hv; exact HEQ.out
            · exact HE.out j u v (by omega) hu hv
          case measure => simp [intOf]; omega
        · have hE := neqSg x y false (by simp [e])
          obtain rfl : b = false := by
            cases b with
            | false => rfl
            | true => have := HB.out.1 rfl; subst this; rw [HX.out] at HY; exact absurd (Option.some.inj HY.out) e
          clear e
          go_wp2_with fail
          go_quiet (fail)
          clear g0 g1 g2 g3 i0 i1 i2 i3 hE
          go_wp2
          go_ret
          exact ⟨rfl, belowN hbw _⟩
      · obtain rfl : k = la.length := by omega
        obtain rfl : b = true := HB.out.2 (list_diff HL.out (fun k x y hx hy => HE.out k x y (List.getElem?_eq_some_iff.1 hx).1 hx hy))
        go_wp2
        go_ret
        exact ⟨rfl, hbw⟩
  · have hne : ((la.length : Int) != (lb.length : Int)) = true := bne_iff_ne.2 (by omega)
    obtain rfl : b = false := by
      cases b with
      | false => rfl
      | true => exact absurd (by rw [HB.out.1 rfl]) hl
    clear hl
    go_enter Try.func28, Try.ntmps28
    go_wp2
    go_ret
    exact ⟨rfl, Below.refl _ _⟩
end Go.Proofs.Ytmoemhnmiabppaa
