/-
  DERIVED. GIVEN WITH THE SEED: THE CARDS: each row of YtbkgmpkednkbcaaGreatDoorRows.lean that lists a variable, with what it lists TIED to the program's text (the seventh form; the later family's looks); each row that meets fmt, with fmt's text TOLD by the authors' own Lean function (tested against real Go, not proved from fmt's source: count such statements apart). THE CARD IS WHAT COUNTS. Prove the row's statement (the work); the ties are given (YtbkgmpkednkbcaaGreatDoorTie.lean); close each card by the builder's one call (the guide's Derived/Test/ToyasCard.lean, 'card_holds'). Laid BY PROGRAM, IN A SANDBOX (cutbox-door.mjs). By AI agents, Wed Nov 11 2026. No macro, syntax, notation, axiom, sorry.
-/
import Derived.Test.YtbkgmpkednkbcaaGreatDoorRows
import GoSem.ClaimSeven
namespace Go.Proofs.YtbkgmpkednkbcaaGreatDoor
namespace Rows

/-- THE TIED CARD OF 'laws.FnExactAnswer'. -/
def fnExactAnswerCard : Claim7 := { stood := { row := fnExactAnswerRow, standIns := [], harness := (true, "057c5b1ca62c3f46ccb704416e8bd2796d330ea0ff8d37824357ec5e8a5cf132"), looks := true }, kinds := [], alts := [], laidByText := true, laidKinds := [.sentinel], laidTests := true, laidLooks := .later }
def FnExactAnswerCardSaid : Prop := Claim7.holds Tryz.pinned (.plain (OpenSpec.ofChange fnExactAnswerSpec)) fnExactAnswerCard

/-- THE TIED CARD OF 'laws.FnExactServe'. -/
def fnExactServeCard : Claim7 := { stood := { row := fnExactServeRow, standIns := [], harness := (true, "057c5b1ca62c3f46ccb704416e8bd2796d330ea0ff8d37824357ec5e8a5cf132"), looks := true }, kinds := [], alts := [], laidByText := true, laidKinds := [.sentinel, .sentinel], laidTests := true, laidLooks := .later }
def FnExactServeCardSaid : Prop := Claim7.holds Tryz.pinned (.plain (OpenSpec.ofChange fnExactServeSpec)) fnExactServeCard

/-- THE SECOND FORM's CARD OF 'laws.FnExactAnswer'. -/
def fnExactAnswerUptoCard : Claim7 := { stood := { row := fnExactAnswerUptoRow, standIns := [], harness := (true, "057c5b1ca62c3f46ccb704416e8bd2796d330ea0ff8d37824357ec5e8a5cf132"), looks := true }, kinds := [], alts := [], laidByText := true, laidKinds := [.sentinel], laidTests := true, laidLooks := .later }
def FnExactAnswerUptoCardSaid : Prop := Claim7.holds Tryz.pinned (.plain (OpenSpec.upto fnExactAnswerSpec)) fnExactAnswerUptoCard

/-- THE SECOND FORM's CARD OF 'laws.FnExactServe'. -/
def fnExactServeUptoCard : Claim7 := { stood := { row := fnExactServeUptoRow, standIns := [], harness := (true, "057c5b1ca62c3f46ccb704416e8bd2796d330ea0ff8d37824357ec5e8a5cf132"), looks := true }, kinds := [], alts := [], laidByText := true, laidKinds := [.sentinel, .sentinel], laidTests := true, laidLooks := .later }
def FnExactServeUptoCardSaid : Prop := Claim7.holds Tryz.pinned (.plain (OpenSpec.upto fnExactServeSpec)) fnExactServeUptoCard
end Rows
end Go.Proofs.YtbkgmpkednkbcaaGreatDoor
