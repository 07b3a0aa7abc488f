/-
  The rest of the drawing functions: wide numbers, texts, drawn numbers and texts of some bytes; each returns a value within its bounds and keeps all memory that was there; conditions: the bytes can be read, and few draws have been made.
-/
import Derived.Test.YtifpcfhfglkbcaaSrc2
import Derived.OpenShut
namespace Go.Proofs.Ytifpcfhfglkbcaa
open Go.RowKit
theorem Rdb.more {w : World} {B B' : Nat} {A : Option Addr} {len : Nat} (h : Rdb w B A len) (hB : B ≤ B') : Rdb w B' A len := fun hl => by
  obtain ⟨b, off, h1, h2, h3⟩ := h hl
  exact ⟨b, off, h1, by omega, h3⟩
theorem wf_small {r : Int} (h1 : -4294967296 ≤ r) (h2 : r ≤ 4294967296) : (Lit.int .i64 r).wf = true := WalkArith.wf_i64 ⟨by omega, by omega⟩
set_option maxHeartbeats 400000 in
theorem src_new (len cap : Nat) (A : Option Addr) (w : World) (hl : len ≤ 140737488355328) :
    Calls Try.prog 15 #[.slice A len cap] w fun e w' => e = .returned (.pointer (some ⟨w.heap.size, 0, none⟩)) ∧ Src w' w.heap.size (.slice A len cap) 0 ∧ Below w.heap.size w w' := by
  go_enter Try.func15, Try.ntmps15
  go_wp2
  go_ret
  refine ⟨rfl, ⟨0, (len : Int) % 1000, ?_, by omega, by omega, by omega, by omega⟩, (Below.refl _ _).alloc (Nat.le_refl _) _⟩
  exact heap_alloc_new w _
/-- a call that makes a text of n bytes and keeps all memory below block B -/
def TextOut (n : Nat) (B : Nat) (w : World) (e : Ending) (w' : World) : Prop := ∃ t : ByteArray, t.size = n ∧ e = .returned (.string t) ∧ Below B w w'
theorem Below.of_grown {B g : Nat} {w w' : World} (hg : w.grownBy w' (some g)) (hB : B ≤ g) (hw : B ≤ w.heap.size) : Below B w w' :=
  (Below.refl _ _).grown hg hw (fun k hk => by cases hk; exact hB)
/-- a call that returns some number of kind int and keeps all memory below block B -/
def IntOut (B : Nat) (w : World) (e : Ending) (w' : World) : Prop := ∃ r : Int, (Lit.int .i64 r).wf = true ∧ e = .returned (.int .i64 r) ∧ Below B w w'
end Go.Proofs.Ytifpcfhfglkbcaa
