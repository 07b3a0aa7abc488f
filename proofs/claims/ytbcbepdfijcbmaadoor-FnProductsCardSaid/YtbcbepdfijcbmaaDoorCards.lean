/-
  DERIVED. GIVEN WITH THE SEED: THE CARDS: each row of YtbcbepdfijcbmaaDoorRows.lean that lists a variable, with what it lists TIED to the program's text (the seventh form; the later family's looks); each row that meets fmt, with fmt's text TOLD by the authors' own Lean function (tested against real Go, not proved from fmt's source: count such statements apart). THE CARD IS WHAT COUNTS. Prove the row's statement (the work); the ties are given (YtbcbepdfijcbmaaDoorTie.lean); close each card by the builder's one call (the guide's Derived/Test/ToyasCard.lean, 'card_holds'). Laid BY PROGRAM, IN A SANDBOX (cutbox-door.mjs). By AI agents, Wed Nov 11 2026. No macro, syntax, notation, axiom, sorry.
-/
import Derived.Test.YtbcbepdfijcbmaaDoorRows
import GoSem.ClaimSeven
namespace Go.Proofs.YtbcbepdfijcbmaaDoor
namespace Rows

/-- THE TIED CARD OF 'laws.FnExactGetReg'. -/
def fnExactGetRegCard : Claim7 := { stood := { row := fnExactGetRegRow, standIns := [], harness := (true, "21df654a6bf1861b06f3fef4d0e9b126dbbad0b5d2c8fc87d15aefbaa0735e0d"), looks := true }, kinds := [], alts := [], laidByText := true, laidKinds := [.sentinel, .data, .data, .data, .data], laidTests := true, laidLooks := .later }
def FnExactGetRegCardSaid : Prop := Claim7.holds Tryd.pinned (.plain (OpenSpec.ofChange fnExactGetRegSpec)) fnExactGetRegCard

/-- THE TIED CARD OF 'laws.FnExactSetReg'. -/
def fnExactSetRegCard : Claim7 := { stood := { row := fnExactSetRegRow, standIns := [], harness := (true, "21df654a6bf1861b06f3fef4d0e9b126dbbad0b5d2c8fc87d15aefbaa0735e0d"), looks := true }, kinds := [], alts := [], laidByText := true, laidKinds := [.sentinel, .data, .data, .data, .data], laidTests := true, laidLooks := .later }
def FnExactSetRegCardSaid : Prop := Claim7.holds Tryd.pinned (.plain (OpenSpec.ofChange fnExactSetRegSpec)) fnExactSetRegCard

/-- THE TIED CARD OF 'laws.FnExactAddressOf'. -/
def fnExactAddressOfCard : Claim7 := { stood := { row := fnExactAddressOfRow, standIns := [], harness := (true, "21df654a6bf1861b06f3fef4d0e9b126dbbad0b5d2c8fc87d15aefbaa0735e0d"), looks := true }, kinds := [], alts := [], laidByText := true, laidKinds := [.sentinel, .data, .data, .data, .data], laidTests := true, laidLooks := .later }
def FnExactAddressOfCardSaid : Prop := Claim7.holds Tryd.pinned (.plain (OpenSpec.ofChange fnExactAddressOfSpec)) fnExactAddressOfCard

/-- THE TIED CARD OF 'laws.FnRegs'. -/
def fnRegsCard : Claim7 := { stood := { row := fnRegsRow, standIns := [], harness := (true, "21df654a6bf1861b06f3fef4d0e9b126dbbad0b5d2c8fc87d15aefbaa0735e0d"), looks := true }, kinds := [], alts := [], laidByText := true, laidKinds := [.sentinel, .sentinel, .data, .data, .data, .data], laidTests := true, laidLooks := .later }
def FnRegsCardSaid : Prop := Claim7.holds Tryd.pinned (.plain (OpenSpec.ofChange fnRegsSpec)) fnRegsCard

/-- THE TIED CARD OF 'laws.FnExactDivide'. -/
def fnExactDivideCard : Claim7 := { stood := { row := fnExactDivideRow, standIns := [], harness := (true, "21df654a6bf1861b06f3fef4d0e9b126dbbad0b5d2c8fc87d15aefbaa0735e0d"), looks := true }, kinds := [], alts := [], laidByText := true, laidKinds := [.sentinel], laidTests := true, laidLooks := .later }
def FnExactDivideCardSaid : Prop := Claim7.holds Tryd.pinned (.plain (OpenSpec.ofChange fnExactDivideSpec)) fnExactDivideCard

/-- THE TIED CARD OF 'laws.FnProducts'. -/
def fnProductsCard : Claim7 := { stood := { row := fnProductsRow, standIns := [], harness := (true, "21df654a6bf1861b06f3fef4d0e9b126dbbad0b5d2c8fc87d15aefbaa0735e0d"), looks := true }, kinds := [], alts := [], laidByText := true, laidKinds := [.sentinel], laidTests := true, laidLooks := .later }
def FnProductsCardSaid : Prop := Claim7.holds Tryd.pinned (.plain (OpenSpec.ofChange fnProductsSpec)) fnProductsCard

/-- THE SECOND FORM's CARD OF 'laws.FnExactGetReg'. -/
def fnExactGetRegUptoCard : Claim7 := { stood := { row := fnExactGetRegUptoRow, standIns := [], harness := (true, "21df654a6bf1861b06f3fef4d0e9b126dbbad0b5d2c8fc87d15aefbaa0735e0d"), looks := true }, kinds := [], alts := [], laidByText := true, laidKinds := [.sentinel, .data, .data, .data, .data], laidTests := true, laidLooks := .later }
def FnExactGetRegUptoCardSaid : Prop := Claim7.holds Tryd.pinned (.plain (OpenSpec.upto fnExactGetRegSpec)) fnExactGetRegUptoCard

/-- THE SECOND FORM's CARD OF 'laws.FnExactSetReg'. -/
def fnExactSetRegUptoCard : Claim7 := { stood := { row := fnExactSetRegUptoRow, standIns := [], harness := (true, "21df654a6bf1861b06f3fef4d0e9b126dbbad0b5d2c8fc87d15aefbaa0735e0d"), looks := true }, kinds := [], alts := [], laidByText := true, laidKinds := [.sentinel, .data, .data, .data, .data], laidTests := true, laidLooks := .later }
def FnExactSetRegUptoCardSaid : Prop := Claim7.holds Tryd.pinned (.plain (OpenSpec.upto fnExactSetRegSpec)) fnExactSetRegUptoCard

/-- THE SECOND FORM's CARD OF 'laws.FnExactAddressOf'. -/
def fnExactAddressOfUptoCard : Claim7 := { stood := { row := fnExactAddressOfUptoRow, standIns := [], harness := (true, "21df654a6bf1861b06f3fef4d0e9b126dbbad0b5d2c8fc87d15aefbaa0735e0d"), looks := true }, kinds := [], alts := [], laidByText := true, laidKinds := [.sentinel, .data, .data, .data, .data], laidTests := true, laidLooks := .later }
def FnExactAddressOfUptoCardSaid : Prop := Claim7.holds Tryd.pinned (.plain (OpenSpec.upto fnExactAddressOfSpec)) fnExactAddressOfUptoCard

/-- THE SECOND FORM's CARD OF 'laws.FnRegs'. -/
def fnRegsUptoCard : Claim7 := { stood := { row := fnRegsUptoRow, standIns := [], harness := (true, "21df654a6bf1861b06f3fef4d0e9b126dbbad0b5d2c8fc87d15aefbaa0735e0d"), looks := true }, kinds := [], alts := [], laidByText := true, laidKinds := [.sentinel, .sentinel, .data, .data, .data, .data], laidTests := true, laidLooks := .later }
def FnRegsUptoCardSaid : Prop := Claim7.holds Tryd.pinned (.plain (OpenSpec.upto fnRegsSpec)) fnRegsUptoCard

/-- THE SECOND FORM's CARD OF 'laws.FnExactDivide'. -/
def fnExactDivideUptoCard : Claim7 := { stood := { row := fnExactDivideUptoRow, standIns := [], harness := (true, "21df654a6bf1861b06f3fef4d0e9b126dbbad0b5d2c8fc87d15aefbaa0735e0d"), looks := true }, kinds := [], alts := [], laidByText := true, laidKinds := [.sentinel], laidTests := true, laidLooks := .later }
def FnExactDivideUptoCardSaid : Prop := Claim7.holds Tryd.pinned (.plain (OpenSpec.upto fnExactDivideSpec)) fnExactDivideUptoCard

/-- THE SECOND FORM's CARD OF 'laws.FnProducts'. -/
def fnProductsUptoCard : Claim7 := { stood := { row := fnProductsUptoRow, standIns := [], harness := (true, "21df654a6bf1861b06f3fef4d0e9b126dbbad0b5d2c8fc87d15aefbaa0735e0d"), looks := true }, kinds := [], alts := [], laidByText := true, laidKinds := [.sentinel], laidTests := true, laidLooks := .later }
def FnProductsUptoCardSaid : Prop := Claim7.holds Tryd.pinned (.plain (OpenSpec.upto fnProductsSpec)) fnProductsUptoCard
end Rows
end Go.Proofs.YtbcbepdfijcbmaaDoor
