/-
  What impl.ShapeOf and spec.ShapeOf do: the shape of a byte and a code, changing nothing that was there; condition: the program's table of the first shapes holds what its text lays there.
-/
import Derived.Test.YtjnjlgaemmdkhaaGreatDoorWalkShape3
import Derived.Laws.ResultCell
namespace Go.Proofs.YtjnjlgaemmdkhaaGreatDoor
open Go.RowKit
theorem results_cell_row2 {P : Program} {fn : Func} {p u : Tmp} {ty : TypeId} (h : fn.results = #[.cell p ty, .tmp u]) (tmps : Array Value) (w : World) (g : Nat) (t : TypeId) (cs : Array Value) (fr : Nat × Nat) (d : TypeDesc)
    (hp : tmps.getD p undef = .pointer (some ⟨g, 0, none⟩)) (hg : w.heap[g]? = some (.cells cs t fr))
    (hu : P.underlying ty = some d) (hd : (match d with | .struct _ | .array _ _ => true | _ => false) = true) (hi : (P.info? ty).map (·.size) = some cs.size) :
    (results fn tmps).run P w = .ok (.tuple #[.agg cs, tmps.getD u undef]) w := by
  rw [results_cell_tmp h, hp]
  simp [asAddr, run_loadVar_row w g t ty cs fr d hg hu hd hi]
/-- the shape of a byte in one of the two tables -/
def shapeT (s : Bool) (b : Nat) : Shp := if s then shape2 b else shape1 b
/-- the code beside a shape, and the shape that is answered -/
def shpCode (s : Shp) : Int := if s.f = 0 then 11 else 0
def shpRes (s : Shp) : Shp := if s.f = 0 then noShp else s
def ShpOut (s : Shp) (e : Ending) : Prop := e = .returned (.tuple #[shpV (shpRes s), .int .i64 (shpCode s)])
theorem shpNo {s : Shp} (h : s.f = 0) : ShpOut s (.returned (.tuple #[.agg (shpL noShp).toArray, .int .i64 11])) := by unfold ShpOut shpCode shpRes; rw [if_pos h, if_pos h]; rfl
theorem shpYes {s : Shp} (h : s.f ≠ 0) : ShpOut s (.returned (.tuple #[.agg (shpL s).toArray, .int .i64 0])) := by unfold ShpOut shpCode shpRes; rw [if_neg h, if_neg h]; rfl
end Go.Proofs.YtjnjlgaemmdkhaaGreatDoor
