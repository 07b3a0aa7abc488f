/-
  What spec.l06Holds does for each condition; conditions: which flags are on.
-/
import Derived.Test.YtifpcfhfglkbcaaGreatDoorWalkHolds
import Derived.Laws.Tables
import Derived.Laws.CopyOwn
import Derived.Laws.NewBlocks
namespace Go.Proofs.YtifpcfhfglkbcaaGreatDoor
open Go.RowKit
set_option linter.unusedVariables false
end Go.Proofs.YtifpcfhfglkbcaaGreatDoor
