/-
  DERIVED. GIVEN WITH THE SEED: THE CARDS: each row of YtmoemhnmiabppaaDoorRows.lean that lists a variable, with what it lists TIED to the program's text (the seventh form; the later family's looks); each row that meets fmt, with fmt's text TOLD by the authors' own Lean function (tested against real Go, not proved from fmt's source: count such statements apart). THE CARD IS WHAT COUNTS. Prove the row's statement (the work); the ties are given (YtmoemhnmiabppaaDoorTie.lean); close each card by the builder's one call (the guide's Derived/Test/ToyasCard.lean, 'card_holds'). Laid BY PROGRAM, IN A SANDBOX (cutbox-door.mjs). By AI agents, Wed Nov 11 2026. No macro, syntax, notation, axiom, sorry.
-/
import Derived.Test.YtmoemhnmiabppaaDoorRows
import GoSem.ClaimSeven
namespace Go.Proofs.YtmoemhnmiabppaaDoor
namespace Rows

/-- THE TIED CARD OF 'laws.FnExactCheckImage'. -/
def fnExactCheckImageCard : Claim7 := { stood := { row := fnExactCheckImageRow, standIns := [], harness := (true, "97c75498a4d0f6a8de457a33b99ab2fb1ef85c8816ef8a27e9519d975764dd7c"), looks := true }, kinds := [], alts := [], laidByText := true, laidKinds := [.handle], laidTests := true, laidLooks := .later }
def FnExactCheckImageCardSaid : Prop := Claim7.holds Tryd.pinned (.plain (OpenSpec.ofChange fnExactCheckImageSpec)) fnExactCheckImageCard

/-- THE TIED CARD OF 'laws.FnExactElfText'. -/
def fnExactElfTextCard : Claim7 := { stood := { row := fnExactElfTextRow, standIns := [], harness := (true, "97c75498a4d0f6a8de457a33b99ab2fb1ef85c8816ef8a27e9519d975764dd7c"), looks := true }, kinds := [], alts := [], laidByText := true, laidKinds := [.sentinel, .sentinel], laidTests := true, laidLooks := .later }
def FnExactElfTextCardSaid : Prop := Claim7.holds Tryd.pinned (.plain (OpenSpec.ofChange fnExactElfTextSpec)) fnExactElfTextCard

/-- THE TIED CARD OF 'laws.FnExactReadElf'. -/
def fnExactReadElfCard : Claim7 := { stood := { row := fnExactReadElfRow, standIns := [], harness := (true, "97c75498a4d0f6a8de457a33b99ab2fb1ef85c8816ef8a27e9519d975764dd7c"), looks := true }, kinds := [], alts := [], laidByText := true, laidKinds := [.handle, .sentinel, .sentinel], laidTests := true, laidLooks := .later }
def FnExactReadElfCardSaid : Prop := Claim7.holds Tryd.pinned (.plain (OpenSpec.ofChange fnExactReadElfSpec)) fnExactReadElfCard

/-- THE SECOND FORM's CARD OF 'laws.FnExactCheckImage'. -/
def fnExactCheckImageUptoCard : Claim7 := { stood := { row := fnExactCheckImageUptoRow, standIns := [], harness := (true, "97c75498a4d0f6a8de457a33b99ab2fb1ef85c8816ef8a27e9519d975764dd7c"), looks := true }, kinds := [], alts := [], laidByText := true, laidKinds := [.handle], laidTests := true, laidLooks := .later }
def FnExactCheckImageUptoCardSaid : Prop := Claim7.holds Tryd.pinned (.plain (OpenSpec.upto fnExactCheckImageSpec)) fnExactCheckImageUptoCard

/-- THE SECOND FORM's CARD OF 'laws.FnExactElfText'. -/
def fnExactElfTextUptoCard : Claim7 := { stood := { row := fnExactElfTextUptoRow, standIns := [], harness := (true, "97c75498a4d0f6a8de457a33b99ab2fb1ef85c8816ef8a27e9519d975764dd7c"), looks := true }, kinds := [], alts := [], laidByText := true, laidKinds := [.sentinel, .sentinel], laidTests := true, laidLooks := .later }
def FnExactElfTextUptoCardSaid : Prop := Claim7.holds Tryd.pinned (.plain (OpenSpec.upto fnExactElfTextSpec)) fnExactElfTextUptoCard

/-- THE SECOND FORM's CARD OF 'laws.FnExactReadElf'. -/
def fnExactReadElfUptoCard : Claim7 := { stood := { row := fnExactReadElfUptoRow, standIns := [], harness := (true, "97c75498a4d0f6a8de457a33b99ab2fb1ef85c8816ef8a27e9519d975764dd7c"), looks := true }, kinds := [], alts := [], laidByText := true, laidKinds := [.handle, .sentinel, .sentinel], laidTests := true, laidLooks := .later }
def FnExactReadElfUptoCardSaid : Prop := Claim7.holds Tryd.pinned (.plain (OpenSpec.upto fnExactReadElfSpec)) fnExactReadElfUptoCard
end Rows
end Go.Proofs.YtmoemhnmiabppaaDoor
