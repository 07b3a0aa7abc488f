/-
  NARROWER THAN 'FOR EVERY INPUT', by the rows' own cells (each row's printed sentence says how): FnExactReadElf: ifaces, laid · FnExactMapImage: laid.
  DERIVED. THE GIVEN ROWS OF THIS SEAT. 2 by the template 'for every input the law returns true; each argument reads behind the call as it read before'; 0 by the template 'total and deterministic' (their statements: YtcchcinnjahghaaDoorTotals.lean).
  GIVEN WITH THE SEED: the statements are not yours to turn. If you find one false, say at which input.
  Laid BY PROGRAM, IN A SANDBOX (cutbox-rows.mjs): the forced cells as the released guide's own fill.sh prints them over the translation 1ba4f1ec48cd2645… (all of the seat's roots in one cut). By AI agents, Wed Nov 11 2026. No macro, syntax, notation, axiom, sorry.
-/
import Derived.Test.YtcchcinnjahghaaDoorChecked
import GoSem.Claim
import GoSem.ClaimJoined
import GoSem.ClaimMapViews
import Derived.JoinedTies
import Derived.KernelRfl
namespace Go.Proofs.YtcchcinnjahghaaDoor
/- THE CELL 'sum', in the pinned program and in every row, IS THE sha256 OF THE DUMP (.gsa) THAT YtcchcinnjahghaaDoorProg.lean LOADS. Nothing in Lean hashes anything: it is a label: what it is worth is what the hold of that sum in a sandbox is worth. -/
noncomputable def Tryd.pinned : Pinned := { name := "ytcchcinnjahghaadoor", sum := "1ba4f1ec48cd264554aff8e2d44dca04effe91707afdaa415f6500aad4cbfb77", checked := Tryd.checked }
namespace Rows
def none {H : Type} : Left H := { results := [], args := [] }

/- WHAT THE LISTED PACKAGE-LEVEL VARIABLES READ AS WHEN THE CALL BEGINS. Each datum BY PROGRAM (the guide's laid-datum.mjs) off the statement by which the dump's own 'gosem.cut.vars' lays the variable. In a bare row this is a premise. The card (YtcchcinnjahghaaDoorCards.lean) ties it to the program's text. -/
def laid_errors_errorType {H : Type} : DataW H := .iface "internal/reflectlite.rtype" (.agg [.ptr (.lit (.string [101, 114, 114, 111, 114]))])
def laid_loop_example_g00664_impl_errRange {H : Type} : DataW H := .iface "*errors.errorString" (.ptr (.agg [.lit (.string [111, 117, 116, 32, 111, 102, 32, 105, 116, 115, 32, 98, 111, 117, 110, 100, 115])]))
def laid_loop_example_g00664_impl_errEnd {H : Type} : DataW H := .iface "*errors.errorString" (.ptr (.agg [.lit (.string [99, 117, 116, 32, 111, 102, 102])]))

/-- 'laws.FnExactReadElf': WHATEVER THE INPUT: true; the input reads as it did. -/
def fnExactReadElfSpec : ChangeSpec := { name := "fnExactReadElf", vars := ["loop.example/g00664/impl.errRange", "loop.example/g00664/impl.errEnd"], fn := fun _ => fun
  | [d, g1, g2] => { results := [.lit (.bool true)], args := [d], vars := [g1, g2] }
  | _ => none }
def fnExactReadElfRow : OpenClaim := { program := "ytcchcinnjahghaadoor", sum := "1ba4f1ec48cd264554aff8e2d44dca04effe91707afdaa415f6500aad4cbfb77", func := "loop.example/g00664/laws.FnExactReadElf", spec := "fnExactReadElf", inPlace := ["internal/reflectlite.TypeOf", "internal/reflectlite.ValueOf", "(internal/reflectlite.Value).Type", "(internal/reflectlite.Value).IsNil", "(internal/reflectlite.Value).Elem", "(internal/reflectlite.Value).Set"], unfollowed := true, recurses := true, named := ["loop.example/g00664/impl.errRange", "loop.example/g00664/impl.errEnd", "errors.errorType"], ifaces := true, apart := false, laid := [("errors.errorType", laid_errors_errorType), ("loop.example/g00664/impl.errRange", laid_loop_example_g00664_impl_errRange), ("loop.example/g00664/impl.errEnd", laid_loop_example_g00664_impl_errEnd)] }
def FnExactReadElfSaid : Prop := fnExactReadElfRow.holds Tryd.pinned (OpenSpec.ofChange fnExactReadElfSpec)

/-- ITS FALSE NEIGHBOUR: 'it returns false'. Refute it at one input. -/
def fnExactReadElfWrong : ChangeSpec := { name := "fnExactReadElf", vars := ["loop.example/g00664/impl.errRange", "loop.example/g00664/impl.errEnd"], fn := fun _ => fun
  | [d, g1, g2] => { results := [.lit (.bool false)], args := [d], vars := [g1, g2] }
  | _ => none }
def FnExactReadElfWrongFalsely : Prop := fnExactReadElfRow.holds Tryd.pinned (OpenSpec.ofChange fnExactReadElfWrong)

/-- 'laws.FnExactMapImage': WHATEVER THE INPUT: true; the input reads as it did. -/
def fnExactMapImageSpec : ChangeSpec := { name := "fnExactMapImage", fn := fun _ => fun
  | [d] => { results := [.lit (.bool true)], args := [d] }
  | _ => none }
def fnExactMapImageRow : OpenClaim := { program := "ytcchcinnjahghaadoor", sum := "1ba4f1ec48cd264554aff8e2d44dca04effe91707afdaa415f6500aad4cbfb77", func := "loop.example/g00664/laws.FnExactMapImage", spec := "fnExactMapImage", inPlace := ["internal/reflectlite.ValueOf", "(internal/reflectlite.Value).Type", "(internal/reflectlite.Value).IsNil", "internal/reflectlite.TypeOf", "(internal/reflectlite.Value).Elem", "(internal/reflectlite.Value).Set", "internal/bytealg.MakeNoZero"], unfollowed := true, recurses := true, named := ["errors.errorType"], apart := false, laid := [("errors.errorType", laid_errors_errorType)] }
def FnExactMapImageSaid : Prop := fnExactMapImageRow.holds Tryd.pinned (OpenSpec.ofChange fnExactMapImageSpec)

/-- ITS FALSE NEIGHBOUR: 'it returns false'. Refute it at one input. -/
def fnExactMapImageWrong : ChangeSpec := { name := "fnExactMapImage", fn := fun _ => fun
  | [d] => { results := [.lit (.bool false)], args := [d] }
  | _ => none }
def FnExactMapImageWrongFalsely : Prop := fnExactMapImageRow.holds Tryd.pinned (OpenSpec.ofChange fnExactMapImageWrong)

/- THE SECOND FORM. 'bulk': how many values and letters a reading holds, each counted each time it is reached (what is shared counts as often as it is met; a slice's spare places count too). A statement '..UptoSaid' is the law's where the arguments, and the package variables that the reading takes, are together of bulk at most 1048576: NARROWER than '..Said'. Prove '..Said' where nothing that the law and all that it calls make is longer than what came in: it says more and counts as full. Else prove '..UptoSaid'. A law counts once. -/
mutual
def uptoBulk {H : Type} : DataW H → Nat
  | .lit (.string bytes) => bytes.length + 1
  | .lit _ => 1
  | .nil => 1
  | .ptr d => uptoBulk d + 1
  | .slice elems spare => uptoBulkAll elems + uptoBulkAll spare + 1
  | .agg parts => uptoBulkAll parts + 1
  | .iface _ d => uptoBulk d + 1
  | .map entries => uptoBulkEntries entries + 1
  | .held _ => 1
def uptoBulkAll {H : Type} : List (DataW H) → Nat
  | [] => 0
  | d :: r => uptoBulk d + uptoBulkAll r
def uptoBulkEntries {H : Type} : List (Lit × DataW H) → Nat
  | [] => 0
  | x :: r => uptoBulkEntry x + uptoBulkEntries r
def uptoBulkEntry {H : Type} : Lit × DataW H → Nat
  | (.string bytes, d) => bytes.length + uptoBulk d + 1
  | (_, d) => uptoBulk d + 1
 end
def uptoSmall : (H : Type) → List (DataW H) → Bool := fun _ ds => decide (uptoBulkAll ds ≤ 1048576)
def OpenSpec.upto (s : _root_.Go.ChangeSpec) : _root_.Go.OpenSpec := { _root_.Go.OpenSpec.ofChange s with cond := some uptoSmall }

/-- 'laws.FnExactReadElf', WHERE WHAT IT READS IS OF BULK AT MOST 1048576: true; the input reads as it did. -/
def fnExactReadElfUptoRow : OpenClaim := { program := "ytcchcinnjahghaadoor", sum := "1ba4f1ec48cd264554aff8e2d44dca04effe91707afdaa415f6500aad4cbfb77", func := "loop.example/g00664/laws.FnExactReadElf", spec := "fnExactReadElf", inPlace := ["internal/reflectlite.TypeOf", "internal/reflectlite.ValueOf", "(internal/reflectlite.Value).Type", "(internal/reflectlite.Value).IsNil", "(internal/reflectlite.Value).Elem", "(internal/reflectlite.Value).Set"], unfollowed := true, recurses := true, named := ["loop.example/g00664/impl.errRange", "loop.example/g00664/impl.errEnd", "errors.errorType"], ifaces := true, apart := false, laid := [("errors.errorType", laid_errors_errorType), ("loop.example/g00664/impl.errRange", laid_loop_example_g00664_impl_errRange), ("loop.example/g00664/impl.errEnd", laid_loop_example_g00664_impl_errEnd)], narrowed := true }
def FnExactReadElfUptoSaid : Prop := fnExactReadElfUptoRow.holds Tryd.pinned (OpenSpec.upto fnExactReadElfSpec)

/-- 'laws.FnExactMapImage', WHERE WHAT IT READS IS OF BULK AT MOST 1048576: true; the input reads as it did. -/
def fnExactMapImageUptoRow : OpenClaim := { program := "ytcchcinnjahghaadoor", sum := "1ba4f1ec48cd264554aff8e2d44dca04effe91707afdaa415f6500aad4cbfb77", func := "loop.example/g00664/laws.FnExactMapImage", spec := "fnExactMapImage", inPlace := ["internal/reflectlite.ValueOf", "(internal/reflectlite.Value).Type", "(internal/reflectlite.Value).IsNil", "internal/reflectlite.TypeOf", "(internal/reflectlite.Value).Elem", "(internal/reflectlite.Value).Set", "internal/bytealg.MakeNoZero"], unfollowed := true, recurses := true, named := ["errors.errorType"], apart := false, laid := [("errors.errorType", laid_errors_errorType)], narrowed := true }
def FnExactMapImageUptoSaid : Prop := fnExactMapImageUptoRow.holds Tryd.pinned (OpenSpec.upto fnExactMapImageSpec)

end Rows
end Go.Proofs.YtcchcinnjahghaaDoor
