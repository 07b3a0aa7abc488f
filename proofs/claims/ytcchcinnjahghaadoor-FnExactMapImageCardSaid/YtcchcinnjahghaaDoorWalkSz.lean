/-
  What laws.szMemory, laws.toMemory and their helpers do: the first answers -1 or a number that shows that the pages are few and small, the second lays the pages anew in memory of its own, changing nothing that was there; conditions: those in each head.
-/
import Derived.Test.YtcchcinnjahghaaDoorMathMem
namespace Go.Proofs.YtcchcinnjahghaaDoor
open Go.RowKit
def Small (l : List Pg) : Prop := l.length ≤ 1048576 ∧ ∀ (k : Nat) x, l[k]? = some x → x.d.size ≤ 1048576
/-- what is known of a list of pages that came in -/
def Fits (l : List Pg) : Prop := l.length ≤ 9223372036854775807 ∧ ∀ (k : Nat) x, l[k]? = some x → x.d.size ≤ 9223372036854775807
theorem infoP : (Tryd.prog.info? 126).map (fun i => (i.zero, i.size, i.bytes)) = some (some (.agg #[.int .i64 0, .int .i64 0, .string ⟨#[]⟩]), 3, 32) := by kernel_rfl
end Go.Proofs.YtcchcinnjahghaaDoor
