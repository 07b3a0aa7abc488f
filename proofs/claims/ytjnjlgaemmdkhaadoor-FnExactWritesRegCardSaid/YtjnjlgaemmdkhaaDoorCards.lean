/-
  DERIVED. GIVEN WITH THE SEED: THE CARDS: each row of YtjnjlgaemmdkhaaDoorRows.lean that lists a variable, with what it lists TIED to the program's text (the seventh form; the later family's looks); each row that meets fmt, with fmt's text TOLD by the authors' own Lean function (tested against real Go, not proved from fmt's source: count such statements apart). THE CARD IS WHAT COUNTS. Prove the row's statement (the work); the ties are given (YtjnjlgaemmdkhaaDoorTie.lean); close each card by the builder's one call (the guide's Derived/Test/ToyasCard.lean, 'card_holds'). Laid BY PROGRAM, IN A SANDBOX (cutbox-door.mjs). By AI agents, Wed Nov 11 2026. No macro, syntax, notation, axiom, sorry.
-/
import Derived.Test.YtjnjlgaemmdkhaaDoorRows
import GoSem.ClaimSeven
namespace Go.Proofs.YtjnjlgaemmdkhaaDoor
namespace Rows

/-- THE TIED CARD OF 'laws.FnExactWritesReg'. -/
def fnExactWritesRegCard : Claim7 := { stood := { row := fnExactWritesRegRow, standIns := [], harness := (true, "1a94ceede99370e2350bd87e0830dee86dbde7518594810408e49d893906efa4"), looks := false }, kinds := [], alts := [], laidByText := true, laidKinds := [.sentinel, .data, .data, .data, .data, .data], laidTests := true, laidLooks := .later }
def FnExactWritesRegCardSaid : Prop := Claim7.holds Tryd.pinned (.plain (OpenSpec.ofChange fnExactWritesRegSpec)) fnExactWritesRegCard

/-- THE TIED CARD OF 'laws.FnExactMemoryOf'. -/
def fnExactMemoryOfCard : Claim7 := { stood := { row := fnExactMemoryOfRow, standIns := [], harness := (true, "1a94ceede99370e2350bd87e0830dee86dbde7518594810408e49d893906efa4"), looks := false }, kinds := [], alts := [], laidByText := true, laidKinds := [.sentinel, .data, .data, .data, .data, .data], laidTests := true, laidLooks := .later }
def FnExactMemoryOfCardSaid : Prop := Claim7.holds Tryd.pinned (.plain (OpenSpec.ofChange fnExactMemoryOfSpec)) fnExactMemoryOfCard

/-- THE TIED CARD OF 'laws.FnExactMaskOf'. -/
def fnExactMaskOfCard : Claim7 := { stood := { row := fnExactMaskOfRow, standIns := [], harness := (true, "1a94ceede99370e2350bd87e0830dee86dbde7518594810408e49d893906efa4"), looks := false }, kinds := [], alts := [], laidByText := true, laidKinds := [.sentinel, .data, .data, .data, .data, .data], laidTests := true, laidLooks := .later }
def FnExactMaskOfCardSaid : Prop := Claim7.holds Tryd.pinned (.plain (OpenSpec.ofChange fnExactMaskOfSpec)) fnExactMaskOfCard

/-- THE TIED CARD OF 'laws.FnExactBaseAddOf'. -/
def fnExactBaseAddOfCard : Claim7 := { stood := { row := fnExactBaseAddOfRow, standIns := [], harness := (true, "1a94ceede99370e2350bd87e0830dee86dbde7518594810408e49d893906efa4"), looks := false }, kinds := [], alts := [], laidByText := true, laidKinds := [.sentinel, .data, .data, .data, .data, .data], laidTests := true, laidLooks := .later }
def FnExactBaseAddOfCardSaid : Prop := Claim7.holds Tryd.pinned (.plain (OpenSpec.ofChange fnExactBaseAddOfSpec)) fnExactBaseAddOfCard

/-- THE TIED CARD OF 'laws.FnExactGoalOf'. -/
def fnExactGoalOfCard : Claim7 := { stood := { row := fnExactGoalOfRow, standIns := [], harness := (true, "1a94ceede99370e2350bd87e0830dee86dbde7518594810408e49d893906efa4"), looks := false }, kinds := [], alts := [], laidByText := true, laidKinds := [.sentinel, .data, .data, .data, .data, .data], laidTests := true, laidLooks := .later }
def FnExactGoalOfCardSaid : Prop := Claim7.holds Tryd.pinned (.plain (OpenSpec.ofChange fnExactGoalOfSpec)) fnExactGoalOfCard

/-- THE TIED CARD OF 'laws.FnExactThroughOf'. -/
def fnExactThroughOfCard : Claim7 := { stood := { row := fnExactThroughOfRow, standIns := [], harness := (true, "1a94ceede99370e2350bd87e0830dee86dbde7518594810408e49d893906efa4"), looks := false }, kinds := [], alts := [], laidByText := true, laidKinds := [.sentinel, .data, .data, .data, .data, .data], laidTests := true, laidLooks := .later }
def FnExactThroughOfCardSaid : Prop := Claim7.holds Tryd.pinned (.plain (OpenSpec.ofChange fnExactThroughOfSpec)) fnExactThroughOfCard

/-- THE SECOND FORM's CARD OF 'laws.FnExactWritesReg'. -/
def fnExactWritesRegUptoCard : Claim7 := { stood := { row := fnExactWritesRegUptoRow, standIns := [], harness := (true, "1a94ceede99370e2350bd87e0830dee86dbde7518594810408e49d893906efa4"), looks := false }, kinds := [], alts := [], laidByText := true, laidKinds := [.sentinel, .data, .data, .data, .data, .data], laidTests := true, laidLooks := .later }
def FnExactWritesRegUptoCardSaid : Prop := Claim7.holds Tryd.pinned (.plain (OpenSpec.upto fnExactWritesRegSpec)) fnExactWritesRegUptoCard

/-- THE SECOND FORM's CARD OF 'laws.FnExactMemoryOf'. -/
def fnExactMemoryOfUptoCard : Claim7 := { stood := { row := fnExactMemoryOfUptoRow, standIns := [], harness := (true, "1a94ceede99370e2350bd87e0830dee86dbde7518594810408e49d893906efa4"), looks := false }, kinds := [], alts := [], laidByText := true, laidKinds := [.sentinel, .data, .data, .data, .data, .data], laidTests := true, laidLooks := .later }
def FnExactMemoryOfUptoCardSaid : Prop := Claim7.holds Tryd.pinned (.plain (OpenSpec.upto fnExactMemoryOfSpec)) fnExactMemoryOfUptoCard

/-- THE SECOND FORM's CARD OF 'laws.FnExactMaskOf'. -/
def fnExactMaskOfUptoCard : Claim7 := { stood := { row := fnExactMaskOfUptoRow, standIns := [], harness := (true, "1a94ceede99370e2350bd87e0830dee86dbde7518594810408e49d893906efa4"), looks := false }, kinds := [], alts := [], laidByText := true, laidKinds := [.sentinel, .data, .data, .data, .data, .data], laidTests := true, laidLooks := .later }
def FnExactMaskOfUptoCardSaid : Prop := Claim7.holds Tryd.pinned (.plain (OpenSpec.upto fnExactMaskOfSpec)) fnExactMaskOfUptoCard

/-- THE SECOND FORM's CARD OF 'laws.FnExactBaseAddOf'. -/
def fnExactBaseAddOfUptoCard : Claim7 := { stood := { row := fnExactBaseAddOfUptoRow, standIns := [], harness := (true, "1a94ceede99370e2350bd87e0830dee86dbde7518594810408e49d893906efa4"), looks := false }, kinds := [], alts := [], laidByText := true, laidKinds := [.sentinel, .data, .data, .data, .data, .data], laidTests := true, laidLooks := .later }
def FnExactBaseAddOfUptoCardSaid : Prop := Claim7.holds Tryd.pinned (.plain (OpenSpec.upto fnExactBaseAddOfSpec)) fnExactBaseAddOfUptoCard

/-- THE SECOND FORM's CARD OF 'laws.FnExactGoalOf'. -/
def fnExactGoalOfUptoCard : Claim7 := { stood := { row := fnExactGoalOfUptoRow, standIns := [], harness := (true, "1a94ceede99370e2350bd87e0830dee86dbde7518594810408e49d893906efa4"), looks := false }, kinds := [], alts := [], laidByText := true, laidKinds := [.sentinel, .data, .data, .data, .data, .data], laidTests := true, laidLooks := .later }
def FnExactGoalOfUptoCardSaid : Prop := Claim7.holds Tryd.pinned (.plain (OpenSpec.upto fnExactGoalOfSpec)) fnExactGoalOfUptoCard

/-- THE SECOND FORM's CARD OF 'laws.FnExactThroughOf'. -/
def fnExactThroughOfUptoCard : Claim7 := { stood := { row := fnExactThroughOfUptoRow, standIns := [], harness := (true, "1a94ceede99370e2350bd87e0830dee86dbde7518594810408e49d893906efa4"), looks := false }, kinds := [], alts := [], laidByText := true, laidKinds := [.sentinel, .data, .data, .data, .data, .data], laidTests := true, laidLooks := .later }
def FnExactThroughOfUptoCardSaid : Prop := Claim7.holds Tryd.pinned (.plain (OpenSpec.upto fnExactThroughOfSpec)) fnExactThroughOfUptoCard
end Rows
end Go.Proofs.YtjnjlgaemmdkhaaDoor
