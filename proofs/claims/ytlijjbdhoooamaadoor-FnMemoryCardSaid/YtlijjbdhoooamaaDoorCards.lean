/-
  DERIVED. GIVEN WITH THE SEED: THE CARDS: each row of YtlijjbdhoooamaaDoorRows.lean that lists a variable, with what it lists TIED to the program's text (the seventh form; the later family's looks); each row that meets fmt, with fmt's text TOLD by the authors' own Lean function (tested against real Go, not proved from fmt's source: count such statements apart). THE CARD IS WHAT COUNTS. Prove the row's statement (the work); the ties are given (YtlijjbdhoooamaaDoorTie.lean); close each card by the builder's one call (the guide's Derived/Test/ToyasCard.lean, 'card_holds'). Laid BY PROGRAM, IN A SANDBOX (cutbox-door.mjs). By AI agents, Wed Nov 11 2026. No macro, syntax, notation, axiom, sorry.
-/
import Derived.Test.YtlijjbdhoooamaaDoorRows
import GoSem.ClaimSeven
namespace Go.Proofs.YtlijjbdhoooamaaDoor
namespace Rows

/-- THE TIED CARD OF 'laws.FnMemory'. -/
def fnMemoryCard : Claim7 := { stood := { row := fnMemoryRow, standIns := [], harness := (true, "28ad7a5dd6fd89f920809085bcd06e8b3db382e0c56d3b50fceba40234488f3b"), looks := true }, kinds := [], alts := [], laidByText := true, laidKinds := [.sentinel, .sentinel], laidTests := true, laidLooks := .later }
def FnMemoryCardSaid : Prop := Claim7.holds Tryd.pinned (.plain (OpenSpec.ofChange fnMemorySpec)) fnMemoryCard

/-- THE SECOND FORM's CARD OF 'laws.FnMemory'. -/
def fnMemoryUptoCard : Claim7 := { stood := { row := fnMemoryUptoRow, standIns := [], harness := (true, "28ad7a5dd6fd89f920809085bcd06e8b3db382e0c56d3b50fceba40234488f3b"), looks := true }, kinds := [], alts := [], laidByText := true, laidKinds := [.sentinel, .sentinel], laidTests := true, laidLooks := .later }
def FnMemoryUptoCardSaid : Prop := Claim7.holds Tryd.pinned (.plain (OpenSpec.upto fnMemorySpec)) fnMemoryUptoCard
end Rows
end Go.Proofs.YtlijjbdhoooamaaDoor
