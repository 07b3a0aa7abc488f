/-
  What errors.Is does for an impl.boundError that wraps a sentinel of errors.New, asked for a sentinel: it returns whether it is the wrapped one, and changes nothing that was there; condition: two sentinels that are not one lie in plain cells.
-/
import Derived.Test.YtinjpobepcenfaaDoorCards
import Derived.WalkKit
import Derived.WalkSpells
import Derived.WalkLawsBesides
import Derived.Lib.Hide
import Derived.LaidEql
import Derived.Stop.Asserts
import Derived.Stop.LaidTwo
import Derived.Stop.Joined
import Derived.LaidMore
import Derived.RowKitTokens
namespace Go.Proofs.YtinjpobepcenfaaDoor
open Go.RowKit Go.Extern.Stop Go.Stop Go.Extern
theorem isComp : (Tryd.prog.info? 134).map (·.comparable) = some true := by kernel_rfl
theorem isSize : (Tryd.prog.info? 150).map (·.size) = some 1 := by kernel_rfl
end Go.Proofs.YtinjpobepcenfaaDoor
