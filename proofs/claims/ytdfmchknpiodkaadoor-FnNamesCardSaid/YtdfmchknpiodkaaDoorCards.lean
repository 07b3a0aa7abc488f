/-
  DERIVED. GIVEN WITH THE SEED: THE CARDS: each row of YtdfmchknpiodkaaDoorRows.lean that lists a variable, with what it lists TIED to the program's text (the seventh form; the later family's looks); each row that meets fmt, with fmt's text TOLD by the authors' own Lean function (tested against real Go, not proved from fmt's source: count such statements apart). THE CARD IS WHAT COUNTS. Prove the row's statement (the work); the ties are given (YtdfmchknpiodkaaDoorTie.lean); close each card by the builder's one call (the guide's Derived/Test/ToyasCard.lean, 'card_holds'). Laid BY PROGRAM, IN A SANDBOX (cutbox-door.mjs). By AI agents, Wed Nov 11 2026. No macro, syntax, notation, axiom, sorry.
-/
import Derived.Test.YtdfmchknpiodkaaDoorRows
import GoSem.ClaimSeven
namespace Go.Proofs.YtdfmchknpiodkaaDoor
namespace Rows

/-- THE TIED CARD OF 'laws.FnNames'. -/
def fnNamesCard : Claim7 := { stood := { row := fnNamesRow, standIns := [], harness := (true, "f5aadfa954e873fd9caf7896c9ec357b45704971ccf8bc49dcf8b6b22e33a4d5"), looks := false }, kinds := [], alts := [], laidByText := true, laidKinds := [.data, .data, .data, .data, .data, .data, .data, .data], laidTests := true, laidLooks := .later }
def FnNamesCardSaid : Prop := Claim7.holds Tryd.pinned (.plain (OpenSpec.ofChange fnNamesSpec)) fnNamesCard

/-- THE TIED CARD OF 'laws.FnExactShapeOf'. -/
def fnExactShapeOfCard : Claim7 := { stood := { row := fnExactShapeOfRow, standIns := [], harness := (true, "f5aadfa954e873fd9caf7896c9ec357b45704971ccf8bc49dcf8b6b22e33a4d5"), looks := false }, kinds := [], alts := [], laidByText := true, laidKinds := [.data], laidTests := true, laidLooks := .later }
def FnExactShapeOfCardSaid : Prop := Claim7.holds Tryd.pinned (.plain (OpenSpec.ofChange fnExactShapeOfSpec)) fnExactShapeOfCard

/-- THE TIED CARD OF 'laws.FnExactGroupOp'. -/
def fnExactGroupOpCard : Claim7 := { stood := { row := fnExactGroupOpRow, standIns := [], harness := (true, "f5aadfa954e873fd9caf7896c9ec357b45704971ccf8bc49dcf8b6b22e33a4d5"), looks := false }, kinds := [], alts := [], laidByText := true, laidKinds := [.data], laidTests := true, laidLooks := .later }
def FnExactGroupOpCardSaid : Prop := Claim7.holds Tryd.pinned (.plain (OpenSpec.ofChange fnExactGroupOpSpec)) fnExactGroupOpCard

/-- THE TIED CARD OF 'laws.FnExactOpName'. -/
def fnExactOpNameCard : Claim7 := { stood := { row := fnExactOpNameRow, standIns := [], harness := (true, "f5aadfa954e873fd9caf7896c9ec357b45704971ccf8bc49dcf8b6b22e33a4d5"), looks := false }, kinds := [], alts := [], laidByText := true, laidKinds := [.data], laidTests := true, laidLooks := .later }
def FnExactOpNameCardSaid : Prop := Claim7.holds Tryd.pinned (.plain (OpenSpec.ofChange fnExactOpNameSpec)) fnExactOpNameCard

/-- THE TIED CARD OF 'laws.FnExactOpOf'. -/
def fnExactOpOfCard : Claim7 := { stood := { row := fnExactOpOfRow, standIns := [], harness := (true, "f5aadfa954e873fd9caf7896c9ec357b45704971ccf8bc49dcf8b6b22e33a4d5"), looks := false }, kinds := [], alts := [], laidByText := true, laidKinds := [.data], laidTests := true, laidLooks := .later }
def FnExactOpOfCardSaid : Prop := Claim7.holds Tryd.pinned (.plain (OpenSpec.ofChange fnExactOpOfSpec)) fnExactOpOfCard

/-- THE TIED CARD OF 'laws.FnExactCondName'. -/
def fnExactCondNameCard : Claim7 := { stood := { row := fnExactCondNameRow, standIns := [], harness := (true, "f5aadfa954e873fd9caf7896c9ec357b45704971ccf8bc49dcf8b6b22e33a4d5"), looks := false }, kinds := [], alts := [], laidByText := true, laidKinds := [.data], laidTests := true, laidLooks := .later }
def FnExactCondNameCardSaid : Prop := Claim7.holds Tryd.pinned (.plain (OpenSpec.ofChange fnExactCondNameSpec)) fnExactCondNameCard

/-- THE TIED CARD OF 'laws.FnExactCondOf'. -/
def fnExactCondOfCard : Claim7 := { stood := { row := fnExactCondOfRow, standIns := [], harness := (true, "f5aadfa954e873fd9caf7896c9ec357b45704971ccf8bc49dcf8b6b22e33a4d5"), looks := false }, kinds := [], alts := [], laidByText := true, laidKinds := [.data], laidTests := true, laidLooks := .later }
def FnExactCondOfCardSaid : Prop := Claim7.holds Tryd.pinned (.plain (OpenSpec.ofChange fnExactCondOfSpec)) fnExactCondOfCard

/-- THE TIED CARD OF 'laws.FnExactRegName'. -/
def fnExactRegNameCard : Claim7 := { stood := { row := fnExactRegNameRow, standIns := [], harness := (true, "f5aadfa954e873fd9caf7896c9ec357b45704971ccf8bc49dcf8b6b22e33a4d5"), looks := false }, kinds := [], alts := [], laidByText := true, laidKinds := [.data, .data, .data, .data], laidTests := true, laidLooks := .later }
def FnExactRegNameCardSaid : Prop := Claim7.holds Tryd.pinned (.plain (OpenSpec.ofChange fnExactRegNameSpec)) fnExactRegNameCard

/-- THE TIED CARD OF 'laws.FnExactRegOf'. -/
def fnExactRegOfCard : Claim7 := { stood := { row := fnExactRegOfRow, standIns := [], harness := (true, "f5aadfa954e873fd9caf7896c9ec357b45704971ccf8bc49dcf8b6b22e33a4d5"), looks := false }, kinds := [], alts := [], laidByText := true, laidKinds := [.data, .data, .data, .data], laidTests := true, laidLooks := .later }
def FnExactRegOfCardSaid : Prop := Claim7.holds Tryd.pinned (.plain (OpenSpec.ofChange fnExactRegOfSpec)) fnExactRegOfCard

/-- THE SECOND FORM's CARD OF 'laws.FnNames'. -/
def fnNamesUptoCard : Claim7 := { stood := { row := fnNamesUptoRow, standIns := [], harness := (true, "f5aadfa954e873fd9caf7896c9ec357b45704971ccf8bc49dcf8b6b22e33a4d5"), looks := false }, kinds := [], alts := [], laidByText := true, laidKinds := [.data, .data, .data, .data, .data, .data, .data, .data], laidTests := true, laidLooks := .later }
def FnNamesUptoCardSaid : Prop := Claim7.holds Tryd.pinned (.plain (OpenSpec.upto fnNamesSpec)) fnNamesUptoCard

/-- THE SECOND FORM's CARD OF 'laws.FnExactShapeOf'. -/
def fnExactShapeOfUptoCard : Claim7 := { stood := { row := fnExactShapeOfUptoRow, standIns := [], harness := (true, "f5aadfa954e873fd9caf7896c9ec357b45704971ccf8bc49dcf8b6b22e33a4d5"), looks := false }, kinds := [], alts := [], laidByText := true, laidKinds := [.data], laidTests := true, laidLooks := .later }
def FnExactShapeOfUptoCardSaid : Prop := Claim7.holds Tryd.pinned (.plain (OpenSpec.upto fnExactShapeOfSpec)) fnExactShapeOfUptoCard

/-- THE SECOND FORM's CARD OF 'laws.FnExactGroupOp'. -/
def fnExactGroupOpUptoCard : Claim7 := { stood := { row := fnExactGroupOpUptoRow, standIns := [], harness := (true, "f5aadfa954e873fd9caf7896c9ec357b45704971ccf8bc49dcf8b6b22e33a4d5"), looks := false }, kinds := [], alts := [], laidByText := true, laidKinds := [.data], laidTests := true, laidLooks := .later }
def FnExactGroupOpUptoCardSaid : Prop := Claim7.holds Tryd.pinned (.plain (OpenSpec.upto fnExactGroupOpSpec)) fnExactGroupOpUptoCard

/-- THE SECOND FORM's CARD OF 'laws.FnExactOpName'. -/
def fnExactOpNameUptoCard : Claim7 := { stood := { row := fnExactOpNameUptoRow, standIns := [], harness := (true, "f5aadfa954e873fd9caf7896c9ec357b45704971ccf8bc49dcf8b6b22e33a4d5"), looks := false }, kinds := [], alts := [], laidByText := true, laidKinds := [.data], laidTests := true, laidLooks := .later }
def FnExactOpNameUptoCardSaid : Prop := Claim7.holds Tryd.pinned (.plain (OpenSpec.upto fnExactOpNameSpec)) fnExactOpNameUptoCard

/-- THE SECOND FORM's CARD OF 'laws.FnExactOpOf'. -/
def fnExactOpOfUptoCard : Claim7 := { stood := { row := fnExactOpOfUptoRow, standIns := [], harness := (true, "f5aadfa954e873fd9caf7896c9ec357b45704971ccf8bc49dcf8b6b22e33a4d5"), looks := false }, kinds := [], alts := [], laidByText := true, laidKinds := [.data], laidTests := true, laidLooks := .later }
def FnExactOpOfUptoCardSaid : Prop := Claim7.holds Tryd.pinned (.plain (OpenSpec.upto fnExactOpOfSpec)) fnExactOpOfUptoCard

/-- THE SECOND FORM's CARD OF 'laws.FnExactCondName'. -/
def fnExactCondNameUptoCard : Claim7 := { stood := { row := fnExactCondNameUptoRow, standIns := [], harness := (true, "f5aadfa954e873fd9caf7896c9ec357b45704971ccf8bc49dcf8b6b22e33a4d5"), looks := false }, kinds := [], alts := [], laidByText := true, laidKinds := [.data], laidTests := true, laidLooks := .later }
def FnExactCondNameUptoCardSaid : Prop := Claim7.holds Tryd.pinned (.plain (OpenSpec.upto fnExactCondNameSpec)) fnExactCondNameUptoCard

/-- THE SECOND FORM's CARD OF 'laws.FnExactCondOf'. -/
def fnExactCondOfUptoCard : Claim7 := { stood := { row := fnExactCondOfUptoRow, standIns := [], harness := (true, "f5aadfa954e873fd9caf7896c9ec357b45704971ccf8bc49dcf8b6b22e33a4d5"), looks := false }, kinds := [], alts := [], laidByText := true, laidKinds := [.data], laidTests := true, laidLooks := .later }
def FnExactCondOfUptoCardSaid : Prop := Claim7.holds Tryd.pinned (.plain (OpenSpec.upto fnExactCondOfSpec)) fnExactCondOfUptoCard

/-- THE SECOND FORM's CARD OF 'laws.FnExactRegName'. -/
def fnExactRegNameUptoCard : Claim7 := { stood := { row := fnExactRegNameUptoRow, standIns := [], harness := (true, "f5aadfa954e873fd9caf7896c9ec357b45704971ccf8bc49dcf8b6b22e33a4d5"), looks := false }, kinds := [], alts := [], laidByText := true, laidKinds := [.data, .data, .data, .data], laidTests := true, laidLooks := .later }
def FnExactRegNameUptoCardSaid : Prop := Claim7.holds Tryd.pinned (.plain (OpenSpec.upto fnExactRegNameSpec)) fnExactRegNameUptoCard

/-- THE SECOND FORM's CARD OF 'laws.FnExactRegOf'. -/
def fnExactRegOfUptoCard : Claim7 := { stood := { row := fnExactRegOfUptoRow, standIns := [], harness := (true, "f5aadfa954e873fd9caf7896c9ec357b45704971ccf8bc49dcf8b6b22e33a4d5"), looks := false }, kinds := [], alts := [], laidByText := true, laidKinds := [.data, .data, .data, .data], laidTests := true, laidLooks := .later }
def FnExactRegOfUptoCardSaid : Prop := Claim7.holds Tryd.pinned (.plain (OpenSpec.upto fnExactRegOfSpec)) fnExactRegOfUptoCard
end Rows
end Go.Proofs.YtdfmchknpiodkaaDoor
