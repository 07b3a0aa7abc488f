/-
  DERIVED. GIVEN WITH THE SEED: THE CARDS: each row of YtcchcinnjahghaaDoorRows.lean that lists a variable, with what it lists TIED to the program's text (the seventh form; the later family's looks); each row that meets fmt, with fmt's text TOLD by the authors' own Lean function (tested against real Go, not proved from fmt's source: count such statements apart). THE CARD IS WHAT COUNTS. Prove the row's statement (the work); the ties are given (YtcchcinnjahghaaDoorTie.lean); close each card by the builder's one call (the guide's Derived/Test/ToyasCard.lean, 'card_holds'). Laid BY PROGRAM, IN A SANDBOX (cutbox-door.mjs). By AI agents, Wed Nov 11 2026. No macro, syntax, notation, axiom, sorry.
-/
import Derived.Test.YtcchcinnjahghaaDoorRows
import GoSem.ClaimSeven
namespace Go.Proofs.YtcchcinnjahghaaDoor
namespace Rows

/-- THE TIED CARD OF 'laws.FnExactReadElf'. -/
def fnExactReadElfCard : Claim7 := { stood := { row := fnExactReadElfRow, standIns := [], harness := (true, "fdd8cd25b5fb57092406b42a2900263a851ce44e6011fe585568c297d11c265d"), looks := true }, kinds := [], alts := [], laidByText := true, laidKinds := [.handle, .sentinel, .sentinel], laidTests := true, laidLooks := .later }
def FnExactReadElfCardSaid : Prop := Claim7.holds Tryd.pinned (.plain (OpenSpec.ofChange fnExactReadElfSpec)) fnExactReadElfCard

/-- THE TIED CARD OF 'laws.FnExactMapImage'. -/
def fnExactMapImageCard : Claim7 := { stood := { row := fnExactMapImageRow, standIns := [], harness := (true, "fdd8cd25b5fb57092406b42a2900263a851ce44e6011fe585568c297d11c265d"), looks := true }, kinds := [], alts := [], laidByText := true, laidKinds := [.handle], laidTests := true, laidLooks := .later }
def FnExactMapImageCardSaid : Prop := Claim7.holds Tryd.pinned (.plain (OpenSpec.ofChange fnExactMapImageSpec)) fnExactMapImageCard

/-- THE SECOND FORM's CARD OF 'laws.FnExactReadElf'. -/
def fnExactReadElfUptoCard : Claim7 := { stood := { row := fnExactReadElfUptoRow, standIns := [], harness := (true, "fdd8cd25b5fb57092406b42a2900263a851ce44e6011fe585568c297d11c265d"), looks := true }, kinds := [], alts := [], laidByText := true, laidKinds := [.handle, .sentinel, .sentinel], laidTests := true, laidLooks := .later }
def FnExactReadElfUptoCardSaid : Prop := Claim7.holds Tryd.pinned (.plain (OpenSpec.upto fnExactReadElfSpec)) fnExactReadElfUptoCard

/-- THE SECOND FORM's CARD OF 'laws.FnExactMapImage'. -/
def fnExactMapImageUptoCard : Claim7 := { stood := { row := fnExactMapImageUptoRow, standIns := [], harness := (true, "fdd8cd25b5fb57092406b42a2900263a851ce44e6011fe585568c297d11c265d"), looks := true }, kinds := [], alts := [], laidByText := true, laidKinds := [.handle], laidTests := true, laidLooks := .later }
def FnExactMapImageUptoCardSaid : Prop := Claim7.holds Tryd.pinned (.plain (OpenSpec.upto fnExactMapImageSpec)) fnExactMapImageUptoCard
end Rows
end Go.Proofs.YtcchcinnjahghaaDoor
