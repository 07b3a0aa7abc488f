/-
  DERIVED. GIVEN WITH THE SEED: THE CARDS: each row of YtplgeelhkldkcaaDoorRows.lean that lists a variable, with what it lists TIED to the program's text (the seventh form; the later family's looks); each row that meets fmt, with fmt's text TOLD by the authors' own Lean function (tested against real Go, not proved from fmt's source: count such statements apart). THE CARD IS WHAT COUNTS. Prove the row's statement (the work); the ties are given (YtplgeelhkldkcaaDoorTie.lean); close each card by the builder's one call (the guide's Derived/Test/ToyasCard.lean, 'card_holds'). Laid BY PROGRAM, IN A SANDBOX (cutbox-door.mjs). By AI agents, Wed Nov 11 2026. No macro, syntax, notation, axiom, sorry.
-/
import Derived.Test.YtplgeelhkldkcaaDoorRows
import GoSem.ClaimSeven
namespace Go.Proofs.YtplgeelhkldkcaaDoor
namespace Rows

/-- THE TIED CARD OF 'laws.FnBytes'. -/
def fnBytesCard : Claim7 := { stood := { row := fnBytesRow, standIns := [], harness := (true, "6aaf516f653f87cc409d25e1e29243da7749a6c62ced287810867e2fc8629f0b"), looks := true }, kinds := [], alts := [], laidByText := true, laidKinds := [.sentinel, .sentinel], laidTests := true, laidLooks := .later }
def FnBytesCardSaid : Prop := Claim7.holds Tryd.pinned (.plain (OpenSpec.ofChange fnBytesSpec)) fnBytesCard

/-- THE TIED CARD OF 'laws.FnExactSignOf'. -/
def fnExactSignOfCard : Claim7 := { stood := { row := fnExactSignOfRow, standIns := [], harness := (true, "6aaf516f653f87cc409d25e1e29243da7749a6c62ced287810867e2fc8629f0b"), looks := true }, kinds := [], alts := [], laidByText := true, laidKinds := [.sentinel, .sentinel], laidTests := true, laidLooks := .later }
def FnExactSignOfCardSaid : Prop := Claim7.holds Tryd.pinned (.plain (OpenSpec.ofChange fnExactSignOfSpec)) fnExactSignOfCard

/-- THE TIED CARD OF 'laws.FnExactZeroOf'. -/
def fnExactZeroOfCard : Claim7 := { stood := { row := fnExactZeroOfRow, standIns := [], harness := (true, "6aaf516f653f87cc409d25e1e29243da7749a6c62ced287810867e2fc8629f0b"), looks := true }, kinds := [], alts := [], laidByText := true, laidKinds := [.sentinel, .sentinel], laidTests := true, laidLooks := .later }
def FnExactZeroOfCardSaid : Prop := Claim7.holds Tryd.pinned (.plain (OpenSpec.ofChange fnExactZeroOfSpec)) fnExactZeroOfCard

/-- THE TIED CARD OF 'laws.FnExactPutLittle'. -/
def fnExactPutLittleCard : Claim7 := { stood := { row := fnExactPutLittleRow, standIns := [], harness := (true, "6aaf516f653f87cc409d25e1e29243da7749a6c62ced287810867e2fc8629f0b"), looks := true }, kinds := [], alts := [], laidByText := true, laidKinds := [.sentinel, .sentinel], laidTests := true, laidLooks := .later }
def FnExactPutLittleCardSaid : Prop := Claim7.holds Tryd.pinned (.plain (OpenSpec.ofChange fnExactPutLittleSpec)) fnExactPutLittleCard

/-- THE TIED CARD OF 'laws.FnExactTakeLittle'. -/
def fnExactTakeLittleCard : Claim7 := { stood := { row := fnExactTakeLittleRow, standIns := [], harness := (true, "6aaf516f653f87cc409d25e1e29243da7749a6c62ced287810867e2fc8629f0b"), looks := true }, kinds := [], alts := [], laidByText := true, laidKinds := [.sentinel, .sentinel], laidTests := true, laidLooks := .later }
def FnExactTakeLittleCardSaid : Prop := Claim7.holds Tryd.pinned (.plain (OpenSpec.ofChange fnExactTakeLittleSpec)) fnExactTakeLittleCard

/-- THE SECOND FORM's CARD OF 'laws.FnBytes'. -/
def fnBytesUptoCard : Claim7 := { stood := { row := fnBytesUptoRow, standIns := [], harness := (true, "6aaf516f653f87cc409d25e1e29243da7749a6c62ced287810867e2fc8629f0b"), looks := true }, kinds := [], alts := [], laidByText := true, laidKinds := [.sentinel, .sentinel], laidTests := true, laidLooks := .later }
def FnBytesUptoCardSaid : Prop := Claim7.holds Tryd.pinned (.plain (OpenSpec.upto fnBytesSpec)) fnBytesUptoCard

/-- THE SECOND FORM's CARD OF 'laws.FnExactSignOf'. -/
def fnExactSignOfUptoCard : Claim7 := { stood := { row := fnExactSignOfUptoRow, standIns := [], harness := (true, "6aaf516f653f87cc409d25e1e29243da7749a6c62ced287810867e2fc8629f0b"), looks := true }, kinds := [], alts := [], laidByText := true, laidKinds := [.sentinel, .sentinel], laidTests := true, laidLooks := .later }
def FnExactSignOfUptoCardSaid : Prop := Claim7.holds Tryd.pinned (.plain (OpenSpec.upto fnExactSignOfSpec)) fnExactSignOfUptoCard

/-- THE SECOND FORM's CARD OF 'laws.FnExactZeroOf'. -/
def fnExactZeroOfUptoCard : Claim7 := { stood := { row := fnExactZeroOfUptoRow, standIns := [], harness := (true, "6aaf516f653f87cc409d25e1e29243da7749a6c62ced287810867e2fc8629f0b"), looks := true }, kinds := [], alts := [], laidByText := true, laidKinds := [.sentinel, .sentinel], laidTests := true, laidLooks := .later }
def FnExactZeroOfUptoCardSaid : Prop := Claim7.holds Tryd.pinned (.plain (OpenSpec.upto fnExactZeroOfSpec)) fnExactZeroOfUptoCard

/-- THE SECOND FORM's CARD OF 'laws.FnExactPutLittle'. -/
def fnExactPutLittleUptoCard : Claim7 := { stood := { row := fnExactPutLittleUptoRow, standIns := [], harness := (true, "6aaf516f653f87cc409d25e1e29243da7749a6c62ced287810867e2fc8629f0b"), looks := true }, kinds := [], alts := [], laidByText := true, laidKinds := [.sentinel, .sentinel], laidTests := true, laidLooks := .later }
def FnExactPutLittleUptoCardSaid : Prop := Claim7.holds Tryd.pinned (.plain (OpenSpec.upto fnExactPutLittleSpec)) fnExactPutLittleUptoCard

/-- THE SECOND FORM's CARD OF 'laws.FnExactTakeLittle'. -/
def fnExactTakeLittleUptoCard : Claim7 := { stood := { row := fnExactTakeLittleUptoRow, standIns := [], harness := (true, "6aaf516f653f87cc409d25e1e29243da7749a6c62ced287810867e2fc8629f0b"), looks := true }, kinds := [], alts := [], laidByText := true, laidKinds := [.sentinel, .sentinel], laidTests := true, laidLooks := .later }
def FnExactTakeLittleUptoCardSaid : Prop := Claim7.holds Tryd.pinned (.plain (OpenSpec.upto fnExactTakeLittleSpec)) fnExactTakeLittleUptoCard
end Rows
end Go.Proofs.YtplgeelhkldkcaaDoor
