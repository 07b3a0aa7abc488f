/-
  Facts for walks of laws over memories: a variable that holds a memory whose pages lie in memory, carried from call to call; no condition but those in each head.
-/
import Derived.Test.YtbkgmpkednkbcaaGreatDoorWalkOpen2
namespace Go.Proofs.YtbkgmpkednkbcaaGreatDoor
open Go.RowKit
/-- block b holds a memory, whose pages are l -/
def Bx (W : World) (b : Nat) (p : Option Addr) (c : Nat) (l : List Pg) : Prop := b < W.heap.size ∧ W.cell? ⟨b, 0, none⟩ = some (.slice p l.length c) ∧ Rd W p l
theorem Bx.next {W W' : World} {b : Nat} {p : Option Addr} {c : Nat} {l : List Pg} (h : Bx W b p c l) (hb : Below W.heap.size W W') : Bx W' b p c l :=
  ⟨by have := hb.size; have := h.1; omega, (hb.cell (p := ⟨b, 0, none⟩) h.1).trans h.2.1, h.2.2.below hb⟩
theorem below_drew1 (W : World) : Below W.heap.size W W.drew := ⟨rfl, rfl, rfl, Nat.le_refl _, fun _ _ => rfl⟩
theorem Bx.new {w : World} {p : Option Addr} {c : Nat} {l : List Pg} (t : TypeId) (hr : Rd w p l) : Bx (w.alloc (.cells #[.slice p l.length c] t)) w.heap.size p c l :=
  ⟨by simp, cell_of_one (heap_alloc_new w _), hr.below ((Below.refl _ _).alloc (Nat.le_refl _) _)⟩
theorem bthen {w W W' : World} (h : Below w.heap.size w W) (hb : Below W.heap.size W W') : Below w.heap.size w W' := h.trans (hb.mono h.size)
theorem bbox {w W : World} (h : Below w.heap.size w W) (o : Obj) : Below w.heap.size w (W.alloc o) := h.alloc h.size o
theorem below1 (W : World) (o : Obj) : Below W.heap.size W (W.alloc o) := (Below.refl _ _).alloc (Nat.le_refl _) _
/-- what is known behind laws.szMemory -/
theorem sz_small {l : List Pg} {r left : Int} (h : -1 ≤ r ∧ r ≤ left ∧ (0 ≤ r → Small l)) (hr : ¬ r < 0) : Small l := h.2.2 (by omega)
theorem Small.fits {l : List Pg} (h : Small l) : Fits l := ⟨by have := h.1; omega, fun k x hk => by have := h.2 k x hk; omega⟩
theorem Ad.own (g : Nat) : Ad (some ⟨g, 0, none⟩) := .inr ⟨g, 0, rfl⟩
end Go.Proofs.YtbkgmpkednkbcaaGreatDoor
