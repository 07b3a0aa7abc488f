/-
  What the method call of impl.widths does: it asks size and flags, and goes on to the function of the size; conditions: those in each head.
-/
import Derived.Test.YtbcbepdfijcbmaaDoorWalkFlA
import Derived.Stop.LaidErr
import Derived.Stop.LaidTwo
import Derived.LaidSub
namespace Go.Proofs.YtbcbepdfijcbmaaDoor
open Go.RowKit
set_option linter.unusedVariables false
set_option linter.unusedSimpArgs false
theorem belW (w : World) (o : Obj) : Below w.heap.size w (w.alloc o) := (Below.refl _ _).alloc (Nat.le_refl _) _
/-- the sentinel of ranges -/
def SentF (w : World) (aR : Addr) : Prop := w.cell? ⟨5, 0, none⟩ = some (.iface 134 (.pointer (some aR)))
theorem SentF.below {w w' : World} {aR : Addr} (h : SentF w aR) (hb : Below w.heap.size w w') : SentF w' aR := (hb.cell (p := ⟨5, 0, none⟩) (lt_of_cell h)).trans h
theorem sentF_of_laid {W : World} {q : List (String × DataW Unit)} (hq : (q.filter fun x => x.1 == "loop.example/g00664/impl.errRange") = [("loop.example/g00664/impl.errRange", Rows.laid_loop_example_g00664_impl_errRange)]) (h : laidMetH Tryd.prog q W) : ∃ aR, SentF W aR := by
  have h1 := h.filter (fun x => x.1 == "loop.example/g00664/impl.errRange")
  rw [hq, MakeChecks.laidMetH_plain _ _ _ (by kernel_rfl)] at h1
  obtain ⟨a, s, hv, _, _, _⟩ := Go.laid_sentinel h1 gRange tRange Tryd.underlying71 rowES Tryd.underlying134 Tryd.underlying158 rfl rfl Tryd.underlying9 cES cStrE
  exact ⟨a, World.var?_cell gRange hv 0⟩
set_option maxHeartbeats 400000 in
theorem noSizeF (n : Int) (w : World) (aR : Addr) (h : SentF w aR) :
    Calls Tryd.prog 77 #[.int .i64 n] w fun e w' => e = .returned (bErr sizeT n aR) ∧ w = w' := by
  have h1 : w.cell? ⟨5, 0, none⟩ = some (.iface 134 (.pointer (some aR))) := h
  clear h
  go_enter Tryd.func77, Tryd.ntmps77
  go_wp2
  go_ret
  exact ⟨rfl, rfl⟩
set_option maxHeartbeats 400000 in
theorem checkNoF (n : Int) (w : World) (aR : Addr) (hs : SentF w aR) (h : ¬ okSize n) : Calls Tryd.prog 50 #[.int .i64 n] w fun e w' => e = .returned (bErr sizeT n aR) ∧ w = w' := by
  have h1 : (n == 1) = false := beq_eq_false_iff_ne.mpr fun e => h (.inl e)
  have h2 : (n == 2) = false := beq_eq_false_iff_ne.mpr fun e => h (.inr (.inl e))
  have h4 : (n == 4) = false := beq_eq_false_iff_ne.mpr fun e => h (.inr (.inr (.inl e)))
  have h8 : (n == 8) = false := beq_eq_false_iff_ne.mpr fun e => h (.inr (.inr (.inr e)))
  have C := Lib.hid (noSizeF n w aR hs)
  clear h hs
  go_enter Tryd.func50, Tryd.ntmps50
  go_wp2_with (go_at_call 77; refine (C.out).mono ?_; rintro e w' ⟨rfl, rfl⟩)
  go_ret
  exact ⟨rfl, rfl⟩
set_option maxHeartbeats 400000 in
theorem checkYesF (n : Int) (w : World) (h : okSize n) : Calls Tryd.prog 50 #[.int .i64 n] w fun e w' => e = .returned .nilIface ∧ w = w' := by
  rcases h with rfl | rfl | rfl | rfl
  all_goals
    go_enter Tryd.func50, Tryd.ntmps50
    go_wp2
    go_ret
    exact ⟨rfl, rfl⟩
end Go.Proofs.YtbcbepdfijcbmaaDoor
