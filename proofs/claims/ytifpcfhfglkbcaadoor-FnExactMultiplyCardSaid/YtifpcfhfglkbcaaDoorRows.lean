/-
  NARROWER THAN 'FOR EVERY INPUT', by the rows' own cells (each row's printed sentence says how): FnExactFlagsOf: ifaces, laid · FnExactAlu: ifaces, laid · FnExactOne: ifaces, laid · FnExactShift: ifaces, laid · FnExactMultiply: ifaces, laid · FnExactDivide: ifaces, laid · FnShifts: ifaces, laid · FnProducts: ifaces, laid.
  DERIVED. THE GIVEN ROWS OF THIS SEAT. 8 by the template 'for every input the law returns true; each argument reads behind the call as it read before'; 0 by the template 'total and deterministic' (their statements: YtifpcfhfglkbcaaDoorTotals.lean).
  GIVEN WITH THE SEED: the statements are not yours to turn. If you find one false, say at which input.
  Laid BY PROGRAM, IN A SANDBOX (cutbox-rows.mjs): the forced cells as the released guide's own fill.sh prints them over the translation 3995f31600fad7aa… (all of the seat's roots in one cut). By AI agents, Wed Nov 11 2026. No macro, syntax, notation, axiom, sorry.
-/
import Derived.Test.YtifpcfhfglkbcaaDoorChecked
import GoSem.Claim
import GoSem.ClaimJoined
import GoSem.ClaimMapViews
import Derived.JoinedTies
import Derived.KernelRfl
namespace Go.Proofs.YtifpcfhfglkbcaaDoor
/- THE CELL 'sum', in the pinned program and in every row, IS THE sha256 OF THE DUMP (.gsa) THAT YtifpcfhfglkbcaaDoorProg.lean LOADS. Nothing in Lean hashes anything: it is a label: what it is worth is what the hold of that sum in a sandbox is worth. -/
noncomputable def Tryd.pinned : Pinned := { name := "ytifpcfhfglkbcaadoor", sum := "3995f31600fad7aa17c07bd684d2569e7febfb109623afa23bd1b15e8a6c695a", checked := Tryd.checked }
namespace Rows
def none {H : Type} : Left H := { results := [], args := [] }

/- WHAT THE LISTED PACKAGE-LEVEL VARIABLES READ AS WHEN THE CALL BEGINS. Each datum BY PROGRAM (the guide's laid-datum.mjs) off the statement by which the dump's own 'gosem.cut.vars' lays the variable. In a bare row this is a premise. The card (YtifpcfhfglkbcaaDoorCards.lean) ties it to the program's text. -/
def laid_loop_example_g00664_impl_errRange {H : Type} : DataW H := .iface "*errors.errorString" (.ptr (.agg [.lit (.string [111, 117, 116, 32, 111, 102, 32, 105, 116, 115, 32, 98, 111, 117, 110, 100, 115])]))

/-- 'laws.FnExactFlagsOf': WHATEVER THE INPUT: true; the input reads as it did. -/
def fnExactFlagsOfSpec : ChangeSpec := { name := "fnExactFlagsOf", vars := ["loop.example/g00664/impl.errRange"], fn := fun _ => fun
  | [d1, d2, g1] => { results := [.lit (.bool true)], args := [d1, d2], vars := [g1] }
  | _ => none }
def fnExactFlagsOfRow : OpenClaim := { program := "ytifpcfhfglkbcaadoor", sum := "3995f31600fad7aa17c07bd684d2569e7febfb109623afa23bd1b15e8a6c695a", func := "loop.example/g00664/laws.FnExactFlagsOf", spec := "fnExactFlagsOf", unfollowed := true, recurses := true, named := ["loop.example/g00664/impl.errRange"], ifaces := true, apart := false, laid := [("loop.example/g00664/impl.errRange", laid_loop_example_g00664_impl_errRange)] }
def FnExactFlagsOfSaid : Prop := fnExactFlagsOfRow.holds Tryd.pinned (OpenSpec.ofChange fnExactFlagsOfSpec)

/-- ITS FALSE NEIGHBOUR: 'it returns false'. Refute it at one input. -/
def fnExactFlagsOfWrong : ChangeSpec := { name := "fnExactFlagsOf", vars := ["loop.example/g00664/impl.errRange"], fn := fun _ => fun
  | [d1, d2, g1] => { results := [.lit (.bool false)], args := [d1, d2], vars := [g1] }
  | _ => none }
def FnExactFlagsOfWrongFalsely : Prop := fnExactFlagsOfRow.holds Tryd.pinned (OpenSpec.ofChange fnExactFlagsOfWrong)

/-- 'laws.FnExactAlu': WHATEVER THE INPUT: true; the input reads as it did. -/
def fnExactAluSpec : ChangeSpec := { name := "fnExactAlu", vars := ["loop.example/g00664/impl.errRange"], fn := fun _ => fun
  | [d1, d2, d3, d4, d5, g1] => { results := [.lit (.bool true)], args := [d1, d2, d3, d4, d5], vars := [g1] }
  | _ => none }
def fnExactAluRow : OpenClaim := { program := "ytifpcfhfglkbcaadoor", sum := "3995f31600fad7aa17c07bd684d2569e7febfb109623afa23bd1b15e8a6c695a", func := "loop.example/g00664/laws.FnExactAlu", spec := "fnExactAlu", unfollowed := true, recurses := true, named := ["loop.example/g00664/impl.errRange"], ifaces := true, apart := false, laid := [("loop.example/g00664/impl.errRange", laid_loop_example_g00664_impl_errRange)] }
def FnExactAluSaid : Prop := fnExactAluRow.holds Tryd.pinned (OpenSpec.ofChange fnExactAluSpec)

/-- ITS FALSE NEIGHBOUR: 'it returns false'. Refute it at one input. -/
def fnExactAluWrong : ChangeSpec := { name := "fnExactAlu", vars := ["loop.example/g00664/impl.errRange"], fn := fun _ => fun
  | [d1, d2, d3, d4, d5, g1] => { results := [.lit (.bool false)], args := [d1, d2, d3, d4, d5], vars := [g1] }
  | _ => none }
def FnExactAluWrongFalsely : Prop := fnExactAluRow.holds Tryd.pinned (OpenSpec.ofChange fnExactAluWrong)

/-- 'laws.FnExactOne': WHATEVER THE INPUT: true; the input reads as it did. -/
def fnExactOneSpec : ChangeSpec := { name := "fnExactOne", vars := ["loop.example/g00664/impl.errRange"], fn := fun _ => fun
  | [d1, d2, d3, d4, g1] => { results := [.lit (.bool true)], args := [d1, d2, d3, d4], vars := [g1] }
  | _ => none }
def fnExactOneRow : OpenClaim := { program := "ytifpcfhfglkbcaadoor", sum := "3995f31600fad7aa17c07bd684d2569e7febfb109623afa23bd1b15e8a6c695a", func := "loop.example/g00664/laws.FnExactOne", spec := "fnExactOne", unfollowed := true, recurses := true, named := ["loop.example/g00664/impl.errRange"], ifaces := true, apart := false, laid := [("loop.example/g00664/impl.errRange", laid_loop_example_g00664_impl_errRange)] }
def FnExactOneSaid : Prop := fnExactOneRow.holds Tryd.pinned (OpenSpec.ofChange fnExactOneSpec)

/-- ITS FALSE NEIGHBOUR: 'it returns false'. Refute it at one input. -/
def fnExactOneWrong : ChangeSpec := { name := "fnExactOne", vars := ["loop.example/g00664/impl.errRange"], fn := fun _ => fun
  | [d1, d2, d3, d4, g1] => { results := [.lit (.bool false)], args := [d1, d2, d3, d4], vars := [g1] }
  | _ => none }
def FnExactOneWrongFalsely : Prop := fnExactOneRow.holds Tryd.pinned (OpenSpec.ofChange fnExactOneWrong)

/-- 'laws.FnExactShift': WHATEVER THE INPUT: true; the input reads as it did. -/
def fnExactShiftSpec : ChangeSpec := { name := "fnExactShift", vars := ["loop.example/g00664/impl.errRange"], fn := fun _ => fun
  | [d1, d2, d3, d4, d5, g1] => { results := [.lit (.bool true)], args := [d1, d2, d3, d4, d5], vars := [g1] }
  | _ => none }
def fnExactShiftRow : OpenClaim := { program := "ytifpcfhfglkbcaadoor", sum := "3995f31600fad7aa17c07bd684d2569e7febfb109623afa23bd1b15e8a6c695a", func := "loop.example/g00664/laws.FnExactShift", spec := "fnExactShift", unfollowed := true, recurses := true, named := ["loop.example/g00664/impl.errRange"], ifaces := true, apart := false, laid := [("loop.example/g00664/impl.errRange", laid_loop_example_g00664_impl_errRange)] }
def FnExactShiftSaid : Prop := fnExactShiftRow.holds Tryd.pinned (OpenSpec.ofChange fnExactShiftSpec)

/-- ITS FALSE NEIGHBOUR: 'it returns false'. Refute it at one input. -/
def fnExactShiftWrong : ChangeSpec := { name := "fnExactShift", vars := ["loop.example/g00664/impl.errRange"], fn := fun _ => fun
  | [d1, d2, d3, d4, d5, g1] => { results := [.lit (.bool false)], args := [d1, d2, d3, d4, d5], vars := [g1] }
  | _ => none }
def FnExactShiftWrongFalsely : Prop := fnExactShiftRow.holds Tryd.pinned (OpenSpec.ofChange fnExactShiftWrong)

/-- 'laws.FnExactMultiply': WHATEVER THE INPUT: true; the input reads as it did. -/
def fnExactMultiplySpec : ChangeSpec := { name := "fnExactMultiply", vars := ["loop.example/g00664/impl.errRange"], fn := fun _ => fun
  | [d1, d2, d3, d4, d5, g1] => { results := [.lit (.bool true)], args := [d1, d2, d3, d4, d5], vars := [g1] }
  | _ => none }
def fnExactMultiplyRow : OpenClaim := { program := "ytifpcfhfglkbcaadoor", sum := "3995f31600fad7aa17c07bd684d2569e7febfb109623afa23bd1b15e8a6c695a", func := "loop.example/g00664/laws.FnExactMultiply", spec := "fnExactMultiply", named := ["loop.example/g00664/impl.errRange"], ifaces := true, apart := false, laid := [("loop.example/g00664/impl.errRange", laid_loop_example_g00664_impl_errRange)] }
def FnExactMultiplySaid : Prop := fnExactMultiplyRow.holds Tryd.pinned (OpenSpec.ofChange fnExactMultiplySpec)

/-- ITS FALSE NEIGHBOUR: 'it returns false'. Refute it at one input. -/
def fnExactMultiplyWrong : ChangeSpec := { name := "fnExactMultiply", vars := ["loop.example/g00664/impl.errRange"], fn := fun _ => fun
  | [d1, d2, d3, d4, d5, g1] => { results := [.lit (.bool false)], args := [d1, d2, d3, d4, d5], vars := [g1] }
  | _ => none }
def FnExactMultiplyWrongFalsely : Prop := fnExactMultiplyRow.holds Tryd.pinned (OpenSpec.ofChange fnExactMultiplyWrong)

/-- 'laws.FnExactDivide': WHATEVER THE INPUT: true; the input reads as it did. -/
def fnExactDivideSpec : ChangeSpec := { name := "fnExactDivide", vars := ["loop.example/g00664/impl.errRange"], fn := fun _ => fun
  | [d1, d2, d3, d4, d5, g1] => { results := [.lit (.bool true)], args := [d1, d2, d3, d4, d5], vars := [g1] }
  | _ => none }
def fnExactDivideRow : OpenClaim := { program := "ytifpcfhfglkbcaadoor", sum := "3995f31600fad7aa17c07bd684d2569e7febfb109623afa23bd1b15e8a6c695a", func := "loop.example/g00664/laws.FnExactDivide", spec := "fnExactDivide", unfollowed := true, recurses := true, named := ["loop.example/g00664/impl.errRange", "math/bits.divideError", "math/bits.overflowError"], ifaces := true, apart := false, laid := [("loop.example/g00664/impl.errRange", laid_loop_example_g00664_impl_errRange)] }
def FnExactDivideSaid : Prop := fnExactDivideRow.holds Tryd.pinned (OpenSpec.ofChange fnExactDivideSpec)

/-- ITS FALSE NEIGHBOUR: 'it returns false'. Refute it at one input. -/
def fnExactDivideWrong : ChangeSpec := { name := "fnExactDivide", vars := ["loop.example/g00664/impl.errRange"], fn := fun _ => fun
  | [d1, d2, d3, d4, d5, g1] => { results := [.lit (.bool false)], args := [d1, d2, d3, d4, d5], vars := [g1] }
  | _ => none }
def FnExactDivideWrongFalsely : Prop := fnExactDivideRow.holds Tryd.pinned (OpenSpec.ofChange fnExactDivideWrong)

/-- 'laws.FnShifts': WHATEVER THE INPUT: true; the input reads as it did. -/
def fnShiftsSpec : ChangeSpec := { name := "fnShifts", vars := ["loop.example/g00664/impl.errRange"], fn := fun _ => fun
  | [d1, d2, g1] => { results := [.lit (.bool true)], args := [d1, d2], vars := [g1] }
  | _ => none }
def fnShiftsRow : OpenClaim := { program := "ytifpcfhfglkbcaadoor", sum := "3995f31600fad7aa17c07bd684d2569e7febfb109623afa23bd1b15e8a6c695a", func := "loop.example/g00664/laws.FnShifts", spec := "fnShifts", unfollowed := true, recurses := true, named := ["loop.example/g00664/impl.errRange"], ifaces := true, apart := false, laid := [("loop.example/g00664/impl.errRange", laid_loop_example_g00664_impl_errRange)] }
def FnShiftsSaid : Prop := fnShiftsRow.holds Tryd.pinned (OpenSpec.ofChange fnShiftsSpec)

/-- ITS FALSE NEIGHBOUR: 'it returns false'. Refute it at one input. -/
def fnShiftsWrong : ChangeSpec := { name := "fnShifts", vars := ["loop.example/g00664/impl.errRange"], fn := fun _ => fun
  | [d1, d2, g1] => { results := [.lit (.bool false)], args := [d1, d2], vars := [g1] }
  | _ => none }
def FnShiftsWrongFalsely : Prop := fnShiftsRow.holds Tryd.pinned (OpenSpec.ofChange fnShiftsWrong)

/-- 'laws.FnProducts': WHATEVER THE INPUT: true; the input reads as it did. -/
def fnProductsSpec : ChangeSpec := { name := "fnProducts", vars := ["loop.example/g00664/impl.errRange"], fn := fun _ => fun
  | [d1, d2, g1] => { results := [.lit (.bool true)], args := [d1, d2], vars := [g1] }
  | _ => none }
def fnProductsRow : OpenClaim := { program := "ytifpcfhfglkbcaadoor", sum := "3995f31600fad7aa17c07bd684d2569e7febfb109623afa23bd1b15e8a6c695a", func := "loop.example/g00664/laws.FnProducts", spec := "fnProducts", unfollowed := true, recurses := true, named := ["loop.example/g00664/impl.errRange", "math/bits.divideError", "math/bits.overflowError"], ifaces := true, apart := false, laid := [("loop.example/g00664/impl.errRange", laid_loop_example_g00664_impl_errRange)] }
def FnProductsSaid : Prop := fnProductsRow.holds Tryd.pinned (OpenSpec.ofChange fnProductsSpec)

/-- ITS FALSE NEIGHBOUR: 'it returns false'. Refute it at one input. -/
def fnProductsWrong : ChangeSpec := { name := "fnProducts", vars := ["loop.example/g00664/impl.errRange"], fn := fun _ => fun
  | [d1, d2, g1] => { results := [.lit (.bool false)], args := [d1, d2], vars := [g1] }
  | _ => none }
def FnProductsWrongFalsely : Prop := fnProductsRow.holds Tryd.pinned (OpenSpec.ofChange fnProductsWrong)

/- THE SECOND FORM. 'bulk': how many values and letters a reading holds, each counted each time it is reached (what is shared counts as often as it is met; a slice's spare places count too). A statement '..UptoSaid' is the law's where the arguments, and the package variables that the reading takes, are together of bulk at most 1048576: NARROWER than '..Said'. Prove '..Said' where nothing that the law and all that it calls make is longer than what came in: it says more and counts as full. Else prove '..UptoSaid'. A law counts once. -/
mutual
def uptoBulk {H : Type} : DataW H → Nat
  | .lit (.string bytes) => bytes.length + 1
  | .lit _ => 1
  | .nil => 1
  | .ptr d => uptoBulk d + 1
  | .slice elems spare => uptoBulkAll elems + uptoBulkAll spare + 1
  | .agg parts => uptoBulkAll parts + 1
  | .iface _ d => uptoBulk d + 1
  | .map entries => uptoBulkEntries entries + 1
  | .held _ => 1
def uptoBulkAll {H : Type} : List (DataW H) → Nat
  | [] => 0
  | d :: r => uptoBulk d + uptoBulkAll r
def uptoBulkEntries {H : Type} : List (Lit × DataW H) → Nat
  | [] => 0
  | x :: r => uptoBulkEntry x + uptoBulkEntries r
def uptoBulkEntry {H : Type} : Lit × DataW H → Nat
  | (.string bytes, d) => bytes.length + uptoBulk d + 1
  | (_, d) => uptoBulk d + 1
 end
def uptoSmall : (H : Type) → List (DataW H) → Bool := fun _ ds => decide (uptoBulkAll ds ≤ 1048576)
def OpenSpec.upto (s : _root_.Go.ChangeSpec) : _root_.Go.OpenSpec := { _root_.Go.OpenSpec.ofChange s with cond := some uptoSmall }

/-- 'laws.FnExactFlagsOf', WHERE WHAT IT READS IS OF BULK AT MOST 1048576: true; the input reads as it did. -/
def fnExactFlagsOfUptoRow : OpenClaim := { program := "ytifpcfhfglkbcaadoor", sum := "3995f31600fad7aa17c07bd684d2569e7febfb109623afa23bd1b15e8a6c695a", func := "loop.example/g00664/laws.FnExactFlagsOf", spec := "fnExactFlagsOf", unfollowed := true, recurses := true, named := ["loop.example/g00664/impl.errRange"], ifaces := true, apart := false, laid := [("loop.example/g00664/impl.errRange", laid_loop_example_g00664_impl_errRange)], narrowed := true }
def FnExactFlagsOfUptoSaid : Prop := fnExactFlagsOfUptoRow.holds Tryd.pinned (OpenSpec.upto fnExactFlagsOfSpec)

/-- 'laws.FnExactAlu', WHERE WHAT IT READS IS OF BULK AT MOST 1048576: true; the input reads as it did. -/
def fnExactAluUptoRow : OpenClaim := { program := "ytifpcfhfglkbcaadoor", sum := "3995f31600fad7aa17c07bd684d2569e7febfb109623afa23bd1b15e8a6c695a", func := "loop.example/g00664/laws.FnExactAlu", spec := "fnExactAlu", unfollowed := true, recurses := true, named := ["loop.example/g00664/impl.errRange"], ifaces := true, apart := false, laid := [("loop.example/g00664/impl.errRange", laid_loop_example_g00664_impl_errRange)], narrowed := true }
def FnExactAluUptoSaid : Prop := fnExactAluUptoRow.holds Tryd.pinned (OpenSpec.upto fnExactAluSpec)

/-- 'laws.FnExactOne', WHERE WHAT IT READS IS OF BULK AT MOST 1048576: true; the input reads as it did. -/
def fnExactOneUptoRow : OpenClaim := { program := "ytifpcfhfglkbcaadoor", sum := "3995f31600fad7aa17c07bd684d2569e7febfb109623afa23bd1b15e8a6c695a", func := "loop.example/g00664/laws.FnExactOne", spec := "fnExactOne", unfollowed := true, recurses := true, named := ["loop.example/g00664/impl.errRange"], ifaces := true, apart := false, laid := [("loop.example/g00664/impl.errRange", laid_loop_example_g00664_impl_errRange)], narrowed := true }
def FnExactOneUptoSaid : Prop := fnExactOneUptoRow.holds Tryd.pinned (OpenSpec.upto fnExactOneSpec)

/-- 'laws.FnExactShift', WHERE WHAT IT READS IS OF BULK AT MOST 1048576: true; the input reads as it did. -/
def fnExactShiftUptoRow : OpenClaim := { program := "ytifpcfhfglkbcaadoor", sum := "3995f31600fad7aa17c07bd684d2569e7febfb109623afa23bd1b15e8a6c695a", func := "loop.example/g00664/laws.FnExactShift", spec := "fnExactShift", unfollowed := true, recurses := true, named := ["loop.example/g00664/impl.errRange"], ifaces := true, apart := false, laid := [("loop.example/g00664/impl.errRange", laid_loop_example_g00664_impl_errRange)], narrowed := true }
def FnExactShiftUptoSaid : Prop := fnExactShiftUptoRow.holds Tryd.pinned (OpenSpec.upto fnExactShiftSpec)

/-- 'laws.FnExactMultiply', WHERE WHAT IT READS IS OF BULK AT MOST 1048576: true; the input reads as it did. -/
def fnExactMultiplyUptoRow : OpenClaim := { program := "ytifpcfhfglkbcaadoor", sum := "3995f31600fad7aa17c07bd684d2569e7febfb109623afa23bd1b15e8a6c695a", func := "loop.example/g00664/laws.FnExactMultiply", spec := "fnExactMultiply", named := ["loop.example/g00664/impl.errRange"], ifaces := true, apart := false, laid := [("loop.example/g00664/impl.errRange", laid_loop_example_g00664_impl_errRange)], narrowed := true }
def FnExactMultiplyUptoSaid : Prop := fnExactMultiplyUptoRow.holds Tryd.pinned (OpenSpec.upto fnExactMultiplySpec)

/-- 'laws.FnExactDivide', WHERE WHAT IT READS IS OF BULK AT MOST 1048576: true; the input reads as it did. -/
def fnExactDivideUptoRow : OpenClaim := { program := "ytifpcfhfglkbcaadoor", sum := "3995f31600fad7aa17c07bd684d2569e7febfb109623afa23bd1b15e8a6c695a", func := "loop.example/g00664/laws.FnExactDivide", spec := "fnExactDivide", unfollowed := true, recurses := true, named := ["loop.example/g00664/impl.errRange", "math/bits.divideError", "math/bits.overflowError"], ifaces := true, apart := false, laid := [("loop.example/g00664/impl.errRange", laid_loop_example_g00664_impl_errRange)], narrowed := true }
def FnExactDivideUptoSaid : Prop := fnExactDivideUptoRow.holds Tryd.pinned (OpenSpec.upto fnExactDivideSpec)

/-- 'laws.FnShifts', WHERE WHAT IT READS IS OF BULK AT MOST 1048576: true; the input reads as it did. -/
def fnShiftsUptoRow : OpenClaim := { program := "ytifpcfhfglkbcaadoor", sum := "3995f31600fad7aa17c07bd684d2569e7febfb109623afa23bd1b15e8a6c695a", func := "loop.example/g00664/laws.FnShifts", spec := "fnShifts", unfollowed := true, recurses := true, named := ["loop.example/g00664/impl.errRange"], ifaces := true, apart := false, laid := [("loop.example/g00664/impl.errRange", laid_loop_example_g00664_impl_errRange)], narrowed := true }
def FnShiftsUptoSaid : Prop := fnShiftsUptoRow.holds Tryd.pinned (OpenSpec.upto fnShiftsSpec)

/-- 'laws.FnProducts', WHERE WHAT IT READS IS OF BULK AT MOST 1048576: true; the input reads as it did. -/
def fnProductsUptoRow : OpenClaim := { program := "ytifpcfhfglkbcaadoor", sum := "3995f31600fad7aa17c07bd684d2569e7febfb109623afa23bd1b15e8a6c695a", func := "loop.example/g00664/laws.FnProducts", spec := "fnProducts", unfollowed := true, recurses := true, named := ["loop.example/g00664/impl.errRange", "math/bits.divideError", "math/bits.overflowError"], ifaces := true, apart := false, laid := [("loop.example/g00664/impl.errRange", laid_loop_example_g00664_impl_errRange)], narrowed := true }
def FnProductsUptoSaid : Prop := fnProductsUptoRow.holds Tryd.pinned (OpenSpec.upto fnProductsSpec)

end Rows
end Go.Proofs.YtifpcfhfglkbcaaDoor
