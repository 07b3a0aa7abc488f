/-
  DERIVED. GIVEN WITH THE SEED: THE CARDS: each row of YtifpcfhfglkbcaaDoorRows.lean that lists a variable, with what it lists TIED to the program's text (the seventh form; the later family's looks); each row that meets fmt, with fmt's text TOLD by the authors' own Lean function (tested against real Go, not proved from fmt's source: count such statements apart). THE CARD IS WHAT COUNTS. Prove the row's statement (the work); the ties are given (YtifpcfhfglkbcaaDoorTie.lean); close each card by the builder's one call (the guide's Derived/Test/ToyasCard.lean, 'card_holds'). Laid BY PROGRAM, IN A SANDBOX (cutbox-door.mjs). By AI agents, Wed Nov 11 2026. No macro, syntax, notation, axiom, sorry.
-/
import Derived.Test.YtifpcfhfglkbcaaDoorRows
import GoSem.ClaimSeven
namespace Go.Proofs.YtifpcfhfglkbcaaDoor
namespace Rows

/-- THE TIED CARD OF 'laws.FnExactFlagsOf'. -/
def fnExactFlagsOfCard : Claim7 := { stood := { row := fnExactFlagsOfRow, standIns := [], harness := (true, "e75a034f651cfe8ce929187d0768e7a5e2fdae7a8248f9e8590aeaf01857c0ae"), looks := false }, kinds := [], alts := [], laidByText := true, laidKinds := [.sentinel], laidTests := true, laidLooks := .later }
def FnExactFlagsOfCardSaid : Prop := Claim7.holds Tryd.pinned (.plain (OpenSpec.ofChange fnExactFlagsOfSpec)) fnExactFlagsOfCard

/-- THE TIED CARD OF 'laws.FnExactAlu'. -/
def fnExactAluCard : Claim7 := { stood := { row := fnExactAluRow, standIns := [], harness := (true, "e75a034f651cfe8ce929187d0768e7a5e2fdae7a8248f9e8590aeaf01857c0ae"), looks := false }, kinds := [], alts := [], laidByText := true, laidKinds := [.sentinel], laidTests := true, laidLooks := .later }
def FnExactAluCardSaid : Prop := Claim7.holds Tryd.pinned (.plain (OpenSpec.ofChange fnExactAluSpec)) fnExactAluCard

/-- THE TIED CARD OF 'laws.FnExactOne'. -/
def fnExactOneCard : Claim7 := { stood := { row := fnExactOneRow, standIns := [], harness := (true, "e75a034f651cfe8ce929187d0768e7a5e2fdae7a8248f9e8590aeaf01857c0ae"), looks := false }, kinds := [], alts := [], laidByText := true, laidKinds := [.sentinel], laidTests := true, laidLooks := .later }
def FnExactOneCardSaid : Prop := Claim7.holds Tryd.pinned (.plain (OpenSpec.ofChange fnExactOneSpec)) fnExactOneCard

/-- THE TIED CARD OF 'laws.FnExactShift'. -/
def fnExactShiftCard : Claim7 := { stood := { row := fnExactShiftRow, standIns := [], harness := (true, "e75a034f651cfe8ce929187d0768e7a5e2fdae7a8248f9e8590aeaf01857c0ae"), looks := false }, kinds := [], alts := [], laidByText := true, laidKinds := [.sentinel], laidTests := true, laidLooks := .later }
def FnExactShiftCardSaid : Prop := Claim7.holds Tryd.pinned (.plain (OpenSpec.ofChange fnExactShiftSpec)) fnExactShiftCard

/-- THE TIED CARD OF 'laws.FnExactMultiply'. -/
def fnExactMultiplyCard : Claim7 := { stood := { row := fnExactMultiplyRow, standIns := [], harness := (true, "e75a034f651cfe8ce929187d0768e7a5e2fdae7a8248f9e8590aeaf01857c0ae"), looks := false }, kinds := [], alts := [], laidByText := true, laidKinds := [.sentinel], laidTests := true, laidLooks := .later }
def FnExactMultiplyCardSaid : Prop := Claim7.holds Tryd.pinned (.plain (OpenSpec.ofChange fnExactMultiplySpec)) fnExactMultiplyCard

/-- THE TIED CARD OF 'laws.FnExactDivide'. -/
def fnExactDivideCard : Claim7 := { stood := { row := fnExactDivideRow, standIns := [], harness := (true, "e75a034f651cfe8ce929187d0768e7a5e2fdae7a8248f9e8590aeaf01857c0ae"), looks := false }, kinds := [], alts := [], laidByText := true, laidKinds := [.sentinel], laidTests := true, laidLooks := .later }
def FnExactDivideCardSaid : Prop := Claim7.holds Tryd.pinned (.plain (OpenSpec.ofChange fnExactDivideSpec)) fnExactDivideCard

/-- THE TIED CARD OF 'laws.FnShifts'. -/
def fnShiftsCard : Claim7 := { stood := { row := fnShiftsRow, standIns := [], harness := (true, "e75a034f651cfe8ce929187d0768e7a5e2fdae7a8248f9e8590aeaf01857c0ae"), looks := false }, kinds := [], alts := [], laidByText := true, laidKinds := [.sentinel], laidTests := true, laidLooks := .later }
def FnShiftsCardSaid : Prop := Claim7.holds Tryd.pinned (.plain (OpenSpec.ofChange fnShiftsSpec)) fnShiftsCard

/-- THE TIED CARD OF 'laws.FnProducts'. -/
def fnProductsCard : Claim7 := { stood := { row := fnProductsRow, standIns := [], harness := (true, "e75a034f651cfe8ce929187d0768e7a5e2fdae7a8248f9e8590aeaf01857c0ae"), looks := false }, kinds := [], alts := [], laidByText := true, laidKinds := [.sentinel], laidTests := true, laidLooks := .later }
def FnProductsCardSaid : Prop := Claim7.holds Tryd.pinned (.plain (OpenSpec.ofChange fnProductsSpec)) fnProductsCard

/-- THE SECOND FORM's CARD OF 'laws.FnExactFlagsOf'. -/
def fnExactFlagsOfUptoCard : Claim7 := { stood := { row := fnExactFlagsOfUptoRow, standIns := [], harness := (true, "e75a034f651cfe8ce929187d0768e7a5e2fdae7a8248f9e8590aeaf01857c0ae"), looks := false }, kinds := [], alts := [], laidByText := true, laidKinds := [.sentinel], laidTests := true, laidLooks := .later }
def FnExactFlagsOfUptoCardSaid : Prop := Claim7.holds Tryd.pinned (.plain (OpenSpec.upto fnExactFlagsOfSpec)) fnExactFlagsOfUptoCard

/-- THE SECOND FORM's CARD OF 'laws.FnExactAlu'. -/
def fnExactAluUptoCard : Claim7 := { stood := { row := fnExactAluUptoRow, standIns := [], harness := (true, "e75a034f651cfe8ce929187d0768e7a5e2fdae7a8248f9e8590aeaf01857c0ae"), looks := false }, kinds := [], alts := [], laidByText := true, laidKinds := [.sentinel], laidTests := true, laidLooks := .later }
def FnExactAluUptoCardSaid : Prop := Claim7.holds Tryd.pinned (.plain (OpenSpec.upto fnExactAluSpec)) fnExactAluUptoCard

/-- THE SECOND FORM's CARD OF 'laws.FnExactOne'. -/
def fnExactOneUptoCard : Claim7 := { stood := { row := fnExactOneUptoRow, standIns := [], harness := (true, "e75a034f651cfe8ce929187d0768e7a5e2fdae7a8248f9e8590aeaf01857c0ae"), looks := false }, kinds := [], alts := [], laidByText := true, laidKinds := [.sentinel], laidTests := true, laidLooks := .later }
def FnExactOneUptoCardSaid : Prop := Claim7.holds Tryd.pinned (.plain (OpenSpec.upto fnExactOneSpec)) fnExactOneUptoCard

/-- THE SECOND FORM's CARD OF 'laws.FnExactShift'. -/
def fnExactShiftUptoCard : Claim7 := { stood := { row := fnExactShiftUptoRow, standIns := [], harness := (true, "e75a034f651cfe8ce929187d0768e7a5e2fdae7a8248f9e8590aeaf01857c0ae"), looks := false }, kinds := [], alts := [], laidByText := true, laidKinds := [.sentinel], laidTests := true, laidLooks := .later }
def FnExactShiftUptoCardSaid : Prop := Claim7.holds Tryd.pinned (.plain (OpenSpec.upto fnExactShiftSpec)) fnExactShiftUptoCard

/-- THE SECOND FORM's CARD OF 'laws.FnExactMultiply'. -/
def fnExactMultiplyUptoCard : Claim7 := { stood := { row := fnExactMultiplyUptoRow, standIns := [], harness := (true, "e75a034f651cfe8ce929187d0768e7a5e2fdae7a8248f9e8590aeaf01857c0ae"), looks := false }, kinds := [], alts := [], laidByText := true, laidKinds := [.sentinel], laidTests := true, laidLooks := .later }
def FnExactMultiplyUptoCardSaid : Prop := Claim7.holds Tryd.pinned (.plain (OpenSpec.upto fnExactMultiplySpec)) fnExactMultiplyUptoCard

/-- THE SECOND FORM's CARD OF 'laws.FnExactDivide'. -/
def fnExactDivideUptoCard : Claim7 := { stood := { row := fnExactDivideUptoRow, standIns := [], harness := (true, "e75a034f651cfe8ce929187d0768e7a5e2fdae7a8248f9e8590aeaf01857c0ae"), looks := false }, kinds := [], alts := [], laidByText := true, laidKinds := [.sentinel], laidTests := true, laidLooks := .later }
def FnExactDivideUptoCardSaid : Prop := Claim7.holds Tryd.pinned (.plain (OpenSpec.upto fnExactDivideSpec)) fnExactDivideUptoCard

/-- THE SECOND FORM's CARD OF 'laws.FnShifts'. -/
def fnShiftsUptoCard : Claim7 := { stood := { row := fnShiftsUptoRow, standIns := [], harness := (true, "e75a034f651cfe8ce929187d0768e7a5e2fdae7a8248f9e8590aeaf01857c0ae"), looks := false }, kinds := [], alts := [], laidByText := true, laidKinds := [.sentinel], laidTests := true, laidLooks := .later }
def FnShiftsUptoCardSaid : Prop := Claim7.holds Tryd.pinned (.plain (OpenSpec.upto fnShiftsSpec)) fnShiftsUptoCard

/-- THE SECOND FORM's CARD OF 'laws.FnProducts'. -/
def fnProductsUptoCard : Claim7 := { stood := { row := fnProductsUptoRow, standIns := [], harness := (true, "e75a034f651cfe8ce929187d0768e7a5e2fdae7a8248f9e8590aeaf01857c0ae"), looks := false }, kinds := [], alts := [], laidByText := true, laidKinds := [.sentinel], laidTests := true, laidLooks := .later }
def FnProductsUptoCardSaid : Prop := Claim7.holds Tryd.pinned (.plain (OpenSpec.upto fnProductsSpec)) fnProductsUptoCard
end Rows
end Go.Proofs.YtifpcfhfglkbcaaDoor
