/-
  What spec.l00Digits does for numbers from 0 to 99: it returns the one or two digits, changing nothing that was there; no condition but those in each head.
-/
import Derived.Test.YtjnjlgaemmdkhaaGreatDoorProg
import Derived.WalkKit
import Derived.WalkSpells
import Derived.WalkLawsBesides
import Derived.Lib.Hide
import Derived.Laws.IdiomStrings
import Derived.Deep.RegionWith
import Derived.IntWalk
namespace Go.Proofs.YtjnjlgaemmdkhaaGreatDoor.Dg
open Go.RowKit
def dig (d : Nat) : UInt8 := UInt8.ofNat (48 + d)
theorem dig_val {d : Nat} (h : d < 10) : ((dig d).toNat : Int) = 48 + d := by
  unfold dig
  rw [UInt8.toNat_ofNat']; omega
/-- a slice of one byte as a text -/
theorem str1 (w : World) (g : Nat) (b : UInt8) (h : w.cell? ⟨g, 0, none⟩ = some (.int .u8 (b.toNat : Int))) :
    (convert 85 9 (.slice (some ⟨g, 0, none⟩) 1 1)).run Tryz.prog w = .ok (.string ⟨#[b]⟩) w :=
  run_convert_bytes_back w _ _ 5 ⟨g, 0, none⟩ 1 [b] Tryz.underlying85 Tryz.underlying5 Tryz.underlying9 fun j hj => by
    have : j = 0 := by simp at hj; omega
    subst this; exact h
theorem drew1 (w : World) : Below w.heap.size w w.drew := ⟨rfl, rfl, rfl, Nat.le_refl _, fun _ _ => rfl⟩
theorem bl1 {w w1 : World} {o : Obj} (hb : Below w.drew.heap.size w.drew w1) : Below w.heap.size w (w1.alloc o) :=
  have h := (drew1 w).trans (hb.mono (Nat.le_refl _))
  h.alloc h.size o
theorem bl2 {w w1 : World} {o : Obj} (hb : Below (w.alloc o).drew.heap.size (w.alloc o).drew w1) : Below w.heap.size w w1 :=
  have h := ((Below.refl w.heap.size w).alloc (Nat.le_refl _) o).trans ((drew1 (w.alloc o)).mono (by simp))
  h.trans (hb.mono h.size)
end Go.Proofs.YtjnjlgaemmdkhaaGreatDoor.Dg
