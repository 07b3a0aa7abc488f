/-
  What spec.l00Digits does for numbers from 0 to 99: it returns the one or two digits, changing nothing that was there; no condition but those in each head.
-/
import Derived.Test.YtdfmchknpiodkaaDoorProg
import Derived.WalkKit
import Derived.WalkSpells
import Derived.WalkLawsBesides
import Derived.Lib.Hide
import Derived.Laws.IdiomStrings
import Derived.Deep.RegionWith
import Derived.IntWalk
namespace Go.Proofs.YtdfmchknpiodkaaDoor.Dg
open Go.RowKit
def dig (d : Nat) : UInt8 := UInt8.ofNat (48 + d)
theorem dig_val {d : Nat} (h : d < 10) : ((dig d).toNat : Int) = 48 + d := by
  unfold dig
  rw [UInt8.toNat_ofNat']; omega
/-- a slice of one byte as a text -/
theorem str1 (w : World) (g : Nat) (b : UInt8) (h : w.cell? ⟨g, 0, none⟩ = some (.int .u8 (b.toNat : Int))) :
    (convert 22 9 (.slice (some ⟨g, 0, none⟩) 1 1)).run Tryd.prog w = .ok (.string ⟨#[b]⟩) w :=
  run_convert_bytes_back w _ _ 5 ⟨g, 0, none⟩ 1 [b] Tryd.underlying22 Tryd.underlying5 Tryd.underlying9 fun j hj => by
    have : j = 0 := by simp at hj; omega
    subst this; exact h
set_option maxHeartbeats 400000 in
theorem digits1 (d : Nat) (w : World) (h : d < 10) :
    Calls Tryd.prog 51 #[.int .i64 (d : Int)] w fun e w' => e = .returned (.string ⟨#[dig d]⟩) ∧ Below w.heap.size w w' := by
  have h1 : ((d : Int) == -9223372036854775808) = false := beq_eq_false_iff_ne.mpr (by omega)
  have h2 : decide ((d : Int) < 0) = false := decide_eq_false (by omega)
  have h3 : (d : Int) < 10 := by omega
  have hv := dig_val h
  have e1 : IntKind.u8.wrap (48 + (d : Int)) = ((dig d).toNat : Int) := by rw [hv, IntKind.wrap_u8]; omega
  have hs := str1 (w.alloc (.cells #[.int .u8 ((dig d).toNat : Int)] 5)) w.heap.size (dig d) (cell_of_row _ _ 0 _ _ (0, 0) (heap_alloc_new w _))
  clear hv
  go_enter Tryd.func51, Tryd.ntmps51
  go_wp2
  go_ret
  exact ⟨rfl, (Below.refl _ _).alloc (Nat.le_refl _) _⟩
theorem drew1 (w : World) : Below w.heap.size w w.drew := ⟨rfl, rfl, rfl, Nat.le_refl _, fun _ _ => rfl⟩
theorem bl1 {w w1 : World} {o : Obj} (hb : Below w.drew.heap.size w.drew w1) : Below w.heap.size w (w1.alloc o) :=
  have h := (drew1 w).trans (hb.mono (Nat.le_refl _))
  h.alloc h.size o
theorem bl2 {w w1 : World} {o : Obj} (hb : Below (w.alloc o).drew.heap.size (w.alloc o).drew w1) : Below w.heap.size w w1 :=
  have h := ((Below.refl w.heap.size w).alloc (Nat.le_refl _) o).trans ((drew1 (w.alloc o)).mono (by simp))
  h.trans (hb.mono h.size)
set_option maxHeartbeats 1000000 in
theorem digits2 (d : Nat) (w : World) (h : d < 10) :
    Calls Tryd.prog 51 #[.int .i64 (10 + d : Int)] w fun e w' => e = .returned (.string ⟨#[dig 1, dig d]⟩) ∧ Below w.heap.size w w' := by
  have h1 : ((10 + d : Int) == -9223372036854775808) = false := beq_eq_false_iff_ne.mpr (by omega)
  have h2 : decide ((10 + d : Int) < 0) = false := decide_eq_false (by omega)
  have h3 : decide ((10 + d : Int) < 10) = false := decide_eq_false (by omega)
  have hv := dig_val h
  have q1 : (10 + d : Int).tdiv 10 = 1 := by rw [Int.tdiv_eq_ediv_of_nonneg (by omega)]; omega
  have q2 : (10 + d : Int).tmod 10 = d := by rw [Int.tmod_eq_emod_of_nonneg (by omega)]; omega
  have q3 : IntKind.i64.wrap (48 + (d : Int)) = 48 + d := IntWalk.i64_in _ (by omega)
  have e1 : IntKind.u8.wrap (48 + (d : Int)) = ((dig d).toNat : Int) := by rw [hv, IntKind.wrap_u8]; omega
  have hs := fun (w : World) => str1 (w.alloc (.cells #[.int .u8 ((dig d).toNat : Int)] 5)) w.heap.size (dig d) (cell_of_row _ _ 0 _ _ (0, 0) (heap_alloc_new w _))
  have C := Lib.hid (fun w => (show Calls Tryd.prog 51 #[.int .i64 1] w (fun e w' => e = .returned (.string ⟨#[dig 1]⟩) ∧ Below w.heap.size w w') from digits1 1 w (by omega)))
  have q0 : IntKind.i64.wrap 1 = 1 := by decide
  have hs3 := str1 (w.alloc (.cells #[.int .u8 ((dig d).toNat : Int)] 5)).drew w.heap.size (dig d) (cell_of_row _ _ 0 _ _ (0, 0) (heap_alloc_new w _))
  clear hv
  go_enter Tryd.func51, Tryd.ntmps51
  go_wp2
  go_region_with (first | (go_at_call 51; (with_reducible refine (C.out _).mono ?_); rintro e w1 ⟨rfl, hb⟩; (try have hs2 := str1 w1 w.heap.size (dig d) ((hb.cell (p := ⟨w.heap.size, 0, none⟩) (by simp)).trans (cell_of_row _ _ 0 _ _ (0, 0) (heap_alloc_new w.drew _))))))
  all_goals
    go_wp2
    go_ret
    exact ⟨rfl, by first | exact bl1 hb | exact bl2 hb⟩
end Go.Proofs.YtdfmchknpiodkaaDoor.Dg
