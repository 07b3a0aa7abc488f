/-
  DERIVED. GIVEN WITH THE SEED: THE CARDS: each row of YtifpcfhfglkbcabDoorRows.lean that lists a variable, with what it lists TIED to the program's text (the seventh form; the later family's looks); each row that meets fmt, with fmt's text TOLD by the authors' own Lean function (tested against real Go, not proved from fmt's source: count such statements apart). THE CARD IS WHAT COUNTS. Prove the row's statement (the work); the ties are given (YtifpcfhfglkbcabDoorTie.lean); close each card by the builder's one call (the guide's Derived/Test/ToyasCard.lean, 'card_holds'). Laid BY PROGRAM, IN A SANDBOX (cutbox-door.mjs). By AI agents, Wed Nov 11 2026. No macro, syntax, notation, axiom, sorry.
-/
import Derived.Test.YtifpcfhfglkbcabDoorRows
import GoSem.ClaimSeven
namespace Go.Proofs.YtifpcfhfglkbcabDoor
namespace Rows

/-- THE TIED CARD OF 'laws.FnExactInstrOK'. -/
def fnExactInstrOKCard : Claim7 := { stood := { row := fnExactInstrOKRow, standIns := [], harness := (true, "ec6d867bd929531d447456e87b36e3b2f0826352ee03dd443716f97a9f0fc843"), looks := false }, kinds := [], alts := [], laidByText := true, laidKinds := [.sentinel, .data, .data, .data, .data, .data], laidTests := true, laidLooks := .later }
def FnExactInstrOKCardSaid : Prop := Claim7.holds Tryd.pinned (.plain (OpenSpec.ofChange fnExactInstrOKSpec)) fnExactInstrOKCard

/-- THE SECOND FORM's CARD OF 'laws.FnExactInstrOK'. -/
def fnExactInstrOKUptoCard : Claim7 := { stood := { row := fnExactInstrOKUptoRow, standIns := [], harness := (true, "ec6d867bd929531d447456e87b36e3b2f0826352ee03dd443716f97a9f0fc843"), looks := false }, kinds := [], alts := [], laidByText := true, laidKinds := [.sentinel, .data, .data, .data, .data, .data], laidTests := true, laidLooks := .later }
def FnExactInstrOKUptoCardSaid : Prop := Claim7.holds Tryd.pinned (.plain (OpenSpec.upto fnExactInstrOKSpec)) fnExactInstrOKUptoCard
end Rows
end Go.Proofs.YtifpcfhfglkbcabDoor
