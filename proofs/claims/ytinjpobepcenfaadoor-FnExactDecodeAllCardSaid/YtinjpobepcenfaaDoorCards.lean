/-
  DERIVED. GIVEN WITH THE SEED: THE CARDS: each row of YtinjpobepcenfaaDoorRows.lean that lists a variable, with what it lists TIED to the program's text (the seventh form; the later family's looks); each row that meets fmt, with fmt's text TOLD by the authors' own Lean function (tested against real Go, not proved from fmt's source: count such statements apart). THE CARD IS WHAT COUNTS. Prove the row's statement (the work); the ties are given (YtinjpobepcenfaaDoorTie.lean); close each card by the builder's one call (the guide's Derived/Test/ToyasCard.lean, 'card_holds'). Laid BY PROGRAM, IN A SANDBOX (cutbox-door.mjs). By AI agents, Wed Nov 11 2026. No macro, syntax, notation, axiom, sorry.
-/
import Derived.Test.YtinjpobepcenfaaDoorRows
import GoSem.ClaimSeven
namespace Go.Proofs.YtinjpobepcenfaaDoor
namespace Rows

/-- THE TIED CARD OF 'laws.FnExactOperandOK'. -/
def fnExactOperandOKCard : Claim7 := { stood := { row := fnExactOperandOKRow, standIns := [], harness := (true, "86695c98044c1ba93738041e10406c8d1d2d182827ca08f0a7449603bd319ea5"), looks := false }, kinds := [], alts := [], laidByText := true, laidKinds := [.sentinel, .data, .data, .data, .data], laidTests := true, laidLooks := .later }
def FnExactOperandOKCardSaid : Prop := Claim7.holds Tryd.pinned (.plain (OpenSpec.ofChange fnExactOperandOKSpec)) fnExactOperandOKCard

/-- THE TIED CARD OF 'laws.FnExactDecode'. -/
def fnExactDecodeCard : Claim7 := { stood := { row := fnExactDecodeRow, standIns := [], harness := (true, "86695c98044c1ba93738041e10406c8d1d2d182827ca08f0a7449603bd319ea5"), looks := false }, kinds := [], alts := [], laidByText := true, laidKinds := [.sentinel, .sentinel, .data, .data], laidTests := true, laidLooks := .later }
def FnExactDecodeCardSaid : Prop := Claim7.holds Tryd.pinned (.plain (OpenSpec.ofChange fnExactDecodeSpec)) fnExactDecodeCard

/-- THE TIED CARD OF 'laws.FnExactDecodeAll'. -/
def fnExactDecodeAllCard : Claim7 := { stood := { row := fnExactDecodeAllRow, standIns := [], harness := (true, "86695c98044c1ba93738041e10406c8d1d2d182827ca08f0a7449603bd319ea5"), looks := false }, kinds := [], alts := [], laidByText := true, laidKinds := [.sentinel, .sentinel, .data, .data], laidTests := true, laidLooks := .later }
def FnExactDecodeAllCardSaid : Prop := Claim7.holds Tryd.pinned (.plain (OpenSpec.ofChange fnExactDecodeAllSpec)) fnExactDecodeAllCard

/-- THE TIED CARD OF 'laws.FnExactLengthAt'. -/
def fnExactLengthAtCard : Claim7 := { stood := { row := fnExactLengthAtRow, standIns := [], harness := (true, "86695c98044c1ba93738041e10406c8d1d2d182827ca08f0a7449603bd319ea5"), looks := false }, kinds := [], alts := [], laidByText := true, laidKinds := [.sentinel, .sentinel, .data, .data], laidTests := true, laidLooks := .later }
def FnExactLengthAtCardSaid : Prop := Claim7.holds Tryd.pinned (.plain (OpenSpec.ofChange fnExactLengthAtSpec)) fnExactLengthAtCard

/-- THE TIED CARD OF 'laws.FnExactInstrOK'. -/
def fnExactInstrOKCard : Claim7 := { stood := { row := fnExactInstrOKRow, standIns := [], harness := (true, "86695c98044c1ba93738041e10406c8d1d2d182827ca08f0a7449603bd319ea5"), looks := false }, kinds := [], alts := [], laidByText := true, laidKinds := [.sentinel, .data, .data, .data, .data, .data], laidTests := true, laidLooks := .later }
def FnExactInstrOKCardSaid : Prop := Claim7.holds Tryd.pinned (.plain (OpenSpec.ofChange fnExactInstrOKSpec)) fnExactInstrOKCard

/-- THE SECOND FORM's CARD OF 'laws.FnExactOperandOK'. -/
def fnExactOperandOKUptoCard : Claim7 := { stood := { row := fnExactOperandOKUptoRow, standIns := [], harness := (true, "86695c98044c1ba93738041e10406c8d1d2d182827ca08f0a7449603bd319ea5"), looks := false }, kinds := [], alts := [], laidByText := true, laidKinds := [.sentinel, .data, .data, .data, .data], laidTests := true, laidLooks := .later }
def FnExactOperandOKUptoCardSaid : Prop := Claim7.holds Tryd.pinned (.plain (OpenSpec.upto fnExactOperandOKSpec)) fnExactOperandOKUptoCard

/-- THE SECOND FORM's CARD OF 'laws.FnExactDecode'. -/
def fnExactDecodeUptoCard : Claim7 := { stood := { row := fnExactDecodeUptoRow, standIns := [], harness := (true, "86695c98044c1ba93738041e10406c8d1d2d182827ca08f0a7449603bd319ea5"), looks := false }, kinds := [], alts := [], laidByText := true, laidKinds := [.sentinel, .sentinel, .data, .data], laidTests := true, laidLooks := .later }
def FnExactDecodeUptoCardSaid : Prop := Claim7.holds Tryd.pinned (.plain (OpenSpec.upto fnExactDecodeSpec)) fnExactDecodeUptoCard

/-- THE SECOND FORM's CARD OF 'laws.FnExactDecodeAll'. -/
def fnExactDecodeAllUptoCard : Claim7 := { stood := { row := fnExactDecodeAllUptoRow, standIns := [], harness := (true, "86695c98044c1ba93738041e10406c8d1d2d182827ca08f0a7449603bd319ea5"), looks := false }, kinds := [], alts := [], laidByText := true, laidKinds := [.sentinel, .sentinel, .data, .data], laidTests := true, laidLooks := .later }
def FnExactDecodeAllUptoCardSaid : Prop := Claim7.holds Tryd.pinned (.plain (OpenSpec.upto fnExactDecodeAllSpec)) fnExactDecodeAllUptoCard

/-- THE SECOND FORM's CARD OF 'laws.FnExactLengthAt'. -/
def fnExactLengthAtUptoCard : Claim7 := { stood := { row := fnExactLengthAtUptoRow, standIns := [], harness := (true, "86695c98044c1ba93738041e10406c8d1d2d182827ca08f0a7449603bd319ea5"), looks := false }, kinds := [], alts := [], laidByText := true, laidKinds := [.sentinel, .sentinel, .data, .data], laidTests := true, laidLooks := .later }
def FnExactLengthAtUptoCardSaid : Prop := Claim7.holds Tryd.pinned (.plain (OpenSpec.upto fnExactLengthAtSpec)) fnExactLengthAtUptoCard

/-- THE SECOND FORM's CARD OF 'laws.FnExactInstrOK'. -/
def fnExactInstrOKUptoCard : Claim7 := { stood := { row := fnExactInstrOKUptoRow, standIns := [], harness := (true, "86695c98044c1ba93738041e10406c8d1d2d182827ca08f0a7449603bd319ea5"), looks := false }, kinds := [], alts := [], laidByText := true, laidKinds := [.sentinel, .data, .data, .data, .data, .data], laidTests := true, laidLooks := .later }
def FnExactInstrOKUptoCardSaid : Prop := Claim7.holds Tryd.pinned (.plain (OpenSpec.upto fnExactInstrOKSpec)) fnExactInstrOKUptoCard
end Rows
end Go.Proofs.YtinjpobepcenfaaDoor
