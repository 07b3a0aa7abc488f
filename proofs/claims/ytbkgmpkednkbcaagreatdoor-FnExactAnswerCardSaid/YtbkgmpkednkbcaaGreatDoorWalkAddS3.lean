/-
  What spec.AddPage does: the memory with one page more, in new memory, and a code, changing nothing that was there; conditions: those in each head.
-/
import Derived.Test.YtbkgmpkednkbcaaGreatDoorWalkAddS2
namespace Go.Proofs.YtbkgmpkednkbcaaGreatDoor
open Go.RowKit Go.Sort
end Go.Proofs.YtbkgmpkednkbcaaGreatDoor
