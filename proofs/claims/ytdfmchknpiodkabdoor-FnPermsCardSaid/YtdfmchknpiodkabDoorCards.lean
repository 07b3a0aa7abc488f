/-
  DERIVED. GIVEN WITH THE SEED: THE CARDS: each row of YtdfmchknpiodkabDoorRows.lean that lists a variable, with what it lists TIED to the program's text (the seventh form; the later family's looks); each row that meets fmt, with fmt's text TOLD by the authors' own Lean function (tested against real Go, not proved from fmt's source: count such statements apart). THE CARD IS WHAT COUNTS. Prove the row's statement (the work); the ties are given (YtdfmchknpiodkabDoorTie.lean); close each card by the builder's one call (the guide's Derived/Test/ToyasCard.lean, 'card_holds'). Laid BY PROGRAM, IN A SANDBOX (cutbox-door.mjs). By AI agents, Wed Nov 11 2026. No macro, syntax, notation, axiom, sorry.
-/
import Derived.Test.YtdfmchknpiodkabDoorRows
import GoSem.ClaimSeven
namespace Go.Proofs.YtdfmchknpiodkabDoor
namespace Rows

/-- THE TIED CARD OF 'laws.FnMemory'. -/
def fnMemoryCard : Claim7 := { stood := { row := fnMemoryRow, standIns := [], harness := (true, "564641e00462513468bfa795aef293f35890949028c2742b4e561e4f3086ec88"), looks := true }, kinds := [], alts := [], laidByText := true, laidKinds := [.sentinel, .sentinel], laidTests := true, laidLooks := .later }
def FnMemoryCardSaid : Prop := Claim7.holds Tryd.pinned (.plain (OpenSpec.ofChange fnMemorySpec)) fnMemoryCard

/-- THE TIED CARD OF 'laws.FnPerms'. -/
def fnPermsCard : Claim7 := { stood := { row := fnPermsRow, standIns := [], harness := (true, "564641e00462513468bfa795aef293f35890949028c2742b4e561e4f3086ec88"), looks := true }, kinds := [], alts := [], laidByText := true, laidKinds := [.sentinel, .sentinel], laidTests := true, laidLooks := .later }
def FnPermsCardSaid : Prop := Claim7.holds Tryd.pinned (.plain (OpenSpec.ofChange fnPermsSpec)) fnPermsCard

/-- THE SECOND FORM's CARD OF 'laws.FnMemory'. -/
def fnMemoryUptoCard : Claim7 := { stood := { row := fnMemoryUptoRow, standIns := [], harness := (true, "564641e00462513468bfa795aef293f35890949028c2742b4e561e4f3086ec88"), looks := true }, kinds := [], alts := [], laidByText := true, laidKinds := [.sentinel, .sentinel], laidTests := true, laidLooks := .later }
def FnMemoryUptoCardSaid : Prop := Claim7.holds Tryd.pinned (.plain (OpenSpec.upto fnMemorySpec)) fnMemoryUptoCard

/-- THE SECOND FORM's CARD OF 'laws.FnPerms'. -/
def fnPermsUptoCard : Claim7 := { stood := { row := fnPermsUptoRow, standIns := [], harness := (true, "564641e00462513468bfa795aef293f35890949028c2742b4e561e4f3086ec88"), looks := true }, kinds := [], alts := [], laidByText := true, laidKinds := [.sentinel, .sentinel], laidTests := true, laidLooks := .later }
def FnPermsUptoCardSaid : Prop := Claim7.holds Tryd.pinned (.plain (OpenSpec.upto fnPermsSpec)) fnPermsUptoCard
end Rows
end Go.Proofs.YtdfmchknpiodkabDoor
