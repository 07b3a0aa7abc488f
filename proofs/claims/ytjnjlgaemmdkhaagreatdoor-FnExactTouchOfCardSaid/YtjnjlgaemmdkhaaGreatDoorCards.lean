/-
  DERIVED. GIVEN WITH THE SEED: THE CARDS: each row of YtjnjlgaemmdkhaaGreatDoorRows.lean that lists a variable, with what it lists TIED to the program's text (the seventh form; the later family's looks); each row that meets fmt, with fmt's text TOLD by the authors' own Lean function (tested against real Go, not proved from fmt's source: count such statements apart). THE CARD IS WHAT COUNTS. Prove the row's statement (the work); the ties are given (YtjnjlgaemmdkhaaGreatDoorTie.lean); close each card by the builder's one call (the guide's Derived/Test/ToyasCard.lean, 'card_holds'). Laid BY PROGRAM, IN A SANDBOX (cutbox-door.mjs). By AI agents, Wed Nov 11 2026. No macro, syntax, notation, axiom, sorry.
-/
import Derived.Test.YtjnjlgaemmdkhaaGreatDoorRows
import GoSem.ClaimSeven
namespace Go.Proofs.YtjnjlgaemmdkhaaGreatDoor
namespace Rows

/-- THE TIED CARD OF 'laws.FnExactTouchOf'. -/
def fnExactTouchOfCard : Claim7 := { stood := { row := fnExactTouchOfRow, standIns := [], harness := (true, "fcb3ba077188f8c825290bdfe897adbddd56433670287bab9f53b783309635b4"), looks := false }, kinds := [], alts := [], laidByText := true, laidKinds := [.sentinel, .data, .data, .data, .data, .data], laidTests := true, laidLooks := .later }
def FnExactTouchOfCardSaid : Prop := Claim7.holds Tryz.pinned (.plain (OpenSpec.ofChange fnExactTouchOfSpec)) fnExactTouchOfCard

/-- THE SECOND FORM's CARD OF 'laws.FnExactTouchOf'. -/
def fnExactTouchOfUptoCard : Claim7 := { stood := { row := fnExactTouchOfUptoRow, standIns := [], harness := (true, "fcb3ba077188f8c825290bdfe897adbddd56433670287bab9f53b783309635b4"), looks := false }, kinds := [], alts := [], laidByText := true, laidKinds := [.sentinel, .data, .data, .data, .data, .data], laidTests := true, laidLooks := .later }
def FnExactTouchOfUptoCardSaid : Prop := Claim7.holds Tryz.pinned (.plain (OpenSpec.upto fnExactTouchOfSpec)) fnExactTouchOfUptoCard
end Rows
end Go.Proofs.YtjnjlgaemmdkhaaGreatDoor
