/-
  What slices.Equal answers of two lists of segments, and what impl.SameImage answers; conditions: those in each head.
-/
import Derived.Test.YtcchcinnjahghaaDoorWalkImT
import Derived.BigQuiet
import Derived.Deep.QuietTactic
namespace Go.Proofs.YtcchcinnjahghaaDoor
open Go.RowKit
set_option linter.unusedVariables false
set_option linter.unusedSimpArgs false
theorem byt_eq (a b : ByteArray) : (a.toList == b.toList) = true ↔ a = b := by
  rw [beq_iff_eq, ByteArray.toList_eq, ByteArray.toList_eq]
  refine ⟨fun h => ?_, fun h => by rw [h]⟩
  apply ByteArray.ext
  exact Array.ext' h
set_option maxHeartbeats 1000000 in
theorem neqSg (x y : Sg) (b : Bool) (hb : b = true ↔ x = y) (w : World) : (binOp .neq 61 (.agg #[.int .i64 x.f, .int .i64 x.v, .int .i64 x.m, .string x.d]) (.agg #[.int .i64 y.f, .int .i64 y.v, .int .i64 y.m, .string y.d])).run Tryd.prog w = .ok (.bool (!b)) w := by
  have u3 := Tryd.underlying3
  have a3 := Tryd.isAgg3
  have z3 := Tryd.sizeOf3
  have u9 := Tryd.underlying9
  have a9 := Tryd.isAgg9
  have z9 := Tryd.sizeOf9
  have hS : Tryd.prog.underlying 61 = some (.struct (Tryd.prog.fieldsOf 61)) := by kernel_rfl
  have hp : Tryd.prog.stoodInHeld 61 = false := by kernel_rfl
  have e : b = (x.f == y.f && (x.v == y.v && (x.m == y.m && x.d.toList == y.d.toList))) := by
    have hd := byt_eq x.d y.d
    cases x with | mk a1 a2 a3 a4 => cases y with | mk b1 b2 b3 b4 =>
    simp only at hd
    have hi : ((a1 == b1 && (a2 == b2 && (a3 == b3 && a4.toList == b4.toList))) = true) ↔ (⟨a1, a2, a3, a4⟩ : Sg) = ⟨b1, b2, b3, b4⟩ := by
      simp only [Bool.and_eq_true, hd, beq_iff_eq (α := Int), Sg.mk.injEq]
    exact Bool.eq_iff_iff.2 (hb.trans hi.symm)
  rw [e]
  rw [run_neq_struct, show (10000 : Nat) = 9999 + 1 from rfl, run_equalIn_agg w 9999 61 _ _ hS hp]
  simp only [Program.fieldsOf, Tryd.underlying61]
  go_simp
  by_cases h0 : x.f = y.f <;> by_cases h1 : x.v = y.v <;> by_cases h2 : x.m = y.m <;> by_cases h3 : x.d.toList = y.d.toList <;> simp [h0, h1, h2, h3]
theorem list_diff {a b : List Sg} (hl : a.length = b.length) (h : ∀ (k : Nat) x y, a[k]? = some x → b[k]? = some y → x = y) : a = b := by
  apply List.ext_getElem hl
  intro k h1 h2
  exact h k _ _ (List.getElem?_eq_getElem h1) (List.getElem?_eq_getElem h2)
end Go.Proofs.YtcchcinnjahghaaDoor
