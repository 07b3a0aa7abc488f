/-
  What spec.l10Magic answers of a text of at least 64 bytes; condition: that.
-/
import Derived.Test.YtcchcinnjahghaaDoorMathHead
import Derived.Test.YtcchcinnjahghaaDoorWalkEq4
namespace Go.Proofs.YtcchcinnjahghaaDoor
open Go.RowKit
set_option linter.unusedVariables false
set_option linter.unusedSimpArgs false
set_option maxRecDepth 20000 in
set_option maxHeartbeats 2000000 in
theorem magicC (t : ByteArray) (w : World) (h : 64 ≤ t.size) (hm : t.size ≤ 65536) : Calls Tryd.prog 38 #[.string t] w fun e w' => e = .returned (.bool (magicB t)) ∧ Below w.heap.size w w' := by
  obtain ⟨b, hb⟩ : ∃ b, b = magicB t := ⟨_, rfl⟩
  rw [← hb]
  have hw : (((t.extract 0 24).toList == ((headT 0 0).extract 0 24).toList) = false ∧ b = false) ∨ (((t.extract 0 24).toList == ((headT 0 0).extract 0 24).toList) = true ∧ ((t.extract 32 56).toList == ((headT 0 0).extract 32 56).toList) = false ∧ b = false) ∨ (((t.extract 0 24).toList == ((headT 0 0).extract 0 24).toList) = true ∧ ((t.extract 32 56).toList == ((headT 0 0).extract 32 56).toList) = true ∧ ((t.extract 58 64).toList == ((headT 0 0).extract 58 64).toList) = b) := by
    have e1 := byt_eq (t.extract 0 24) ((headT 0 0).extract 0 24)
    have e2 := byt_eq (t.extract 32 56) ((headT 0 0).extract 32 56)
    have e3 := byt_eq (t.extract 58 64) ((headT 0 0).extract 58 64)
    have em : b = true ↔ (t.extract 0 24 = (headT 0 0).extract 0 24 ∧ t.extract 32 56 = (headT 0 0).extract 32 56 ∧ t.extract 58 64 = (headT 0 0).extract 58 64) := by rw [hb]; unfold magicB; exact decide_eq_true_iff
    rw [← e1, ← e2, ← e3] at em
    generalize ((t.extract 0 24).toList == ((headT 0 0).extract 0 24).toList) = x1 at em ⊢
    generalize ((t.extract 32 56).toList == ((headT 0 0).extract 32 56).toList) = x2 at em ⊢
    generalize ((t.extract 58 64).toList == ((headT 0 0).extract 58 64).toList) = x3 at em ⊢
    cases x1 <;> cases x2 <;> cases x3 <;> cases b <;> simp_all
  have C := Lib.hid (headC 0 0 w)
  have hz : (headT 0 0).size = 64 := headT_size 0 0
  generalize headT 0 0 = H at C hz hw
  have HW := Lib.hid hw
  clear hw hb
  have k1 : (64 : Int) ≤ (t.size : Int) := by omega
  go_enter Tryd.func38, Tryd.ntmps38
  go_wp2_with fail
  refine (C.out).mono ?_
  rintro e w1 ⟨rfl, b1⟩
  have B1 := Lib.hid b1
  clear b1 C
  go_wp2_with fail
  rcases HW.out with ⟨e1, rfl⟩ | ⟨e1, e2, rfl⟩ | ⟨e1, e2, e3⟩
  all_goals
    go_quiet (fail)
    go_wp2
    go_ret
    exact ⟨rfl, belowNr B1.out _⟩
end Go.Proofs.YtcchcinnjahghaaDoor
