/-
  Contracts of slices.Clone, slices.Equal and sort.Search at this program: what the library's theorems on them ask of the program's bodies, compared by the kernel; no condition.
-/
import Derived.Shelf.SlSorted.Search
import Derived.Shelf.SlicesE.Clone
import Derived.Shelf.SlicesQ.Equal
import Derived.Shelf.LaySoft
import Derived.Shelf.Lay
import Derived.Test.YtcchcinnjahghaaDoorProg
namespace Go.Proofs
open Go.Shelf


end Go.Proofs
