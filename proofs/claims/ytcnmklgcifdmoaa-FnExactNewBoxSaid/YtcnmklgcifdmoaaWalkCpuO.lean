/-
  impl.CpuOK and spec.CpuOK tell whether the flags are some; conditions: those in each head.
-/
import Derived.Test.YtcnmklgcifdmoaaWalkCpuT
import Derived.Test.YtcnmklgcifdmoaaWalkHolds
namespace Go.Proofs.Ytcnmklgcifdmoaa
open Go.RowKit
set_option linter.unusedVariables false
theorem cpuBox (w : World) (c : Cp) : (w.alloc (.cells (cpV c) 33)).cell? ⟨w.heap.size, 17, none⟩ = some (.int .i64 c.fl) := (cell_of_row _ _ 17 _ _ _ (heap_alloc_new w _)).trans rfl
set_option maxRecDepth 100000 in
set_option maxHeartbeats 1000000 in
theorem cpuOKI (c : Cp) (v : Bool) (hF : ∀ w, Calls Try.prog 72 #[.int .i64 c.fl] w fun e w' => e = .returned (.bool v) ∧ w' = w) (w : World) :
    Calls Try.prog 46 #[.agg (cpV c)] w fun e w' => e = .returned (.bool v) ∧ Below w.heap.size w w' := by
  have CF := Lib.hid (fun w => (hF w).mono fun _ _ h => (⟨h.1, h.2.symm⟩ : _ ∧ w = _))
  have h17 := cpuBox w c
  clear hF
  generalize cpV c = V at *
  go_enter Try.func46, Try.ntmps46
  go_wp2_with fail
  refine (CF.out _).mono ?_
  rintro e w1 ⟨rfl, rfl⟩
  go_wp2
  go_ret
  exact ⟨rfl, (Below.refl _ _).alloc (Nat.le_refl _) _⟩
set_option maxRecDepth 100000 in
set_option maxHeartbeats 1000000 in
theorem cpuOKS (c : Cp) (v : Bool) (hF : ∀ w, Calls Try.prog 68 #[.int .i64 c.fl] w fun e w' => e = .returned (.bool v) ∧ w' = w) (w : World) :
    Calls Try.prog 42 #[.agg (cpV c)] w fun e w' => e = .returned (.bool v) ∧ Below w.heap.size w w' := by
  have CF := Lib.hid (fun w => (hF w).mono fun _ _ h => (⟨h.1, h.2.symm⟩ : _ ∧ w = _))
  have h17 := cpuBox w c
  clear hF
  generalize cpV c = V at *
  go_enter Try.func42, Try.ntmps42
  go_wp2_with fail
  refine (CF.out _).mono ?_
  rintro e w1 ⟨rfl, rfl⟩
  go_wp2
  go_ret
  exact ⟨rfl, (Below.refl _ _).alloc (Nat.le_refl _) _⟩
/-- are the flags some? -/
theorem cpuI (c : Cp) (hw : CpW c) : ∃ v : Bool, (v = true ↔ FlOK c.fl) ∧ (∀ w, Calls Try.prog 46 #[.agg (cpV c)] w fun e w' => e = .returned (.bool v) ∧ Below w.heap.size w w') ∧
    (∀ w, Calls Try.prog 42 #[.agg (cpV c)] w fun e w' => e = .returned (.bool v) ∧ Below w.heap.size w w') := by
  by_cases h : FlOK c.fl
  · refine ⟨true, ⟨fun _ => h, fun _ => rfl⟩, cpuOKI c true ?_, cpuOKS c true ?_⟩
    · obtain ⟨cc, p, z, s, o, e⟩ := h; rw [e]; exact flagsYesI cc p z s o
    · obtain ⟨cc, p, z, s, o, e⟩ := h; rw [e]; exact flagsYesS cc p z s o
  · exact ⟨false, ⟨(fun e => by cases e), (fun e => absurd e h)⟩, cpuOKI c false (fun w => flagsNoI _ w hw.fl h), cpuOKS c false (fun w => flagsNoS _ w hw.fl h)⟩
end Go.Proofs.Ytcnmklgcifdmoaa
