/-
  NARROWER THAN 'FOR EVERY INPUT', by the rows' own cells (each row's printed sentence says how): FnExactCheckImage: laid · FnExactElfText: ifaces, laid · FnExactReadElf: ifaces, laid.
  DERIVED. THE GIVEN ROWS OF THIS SEAT. 3 by the template 'for every input the law returns true; each argument reads behind the call as it read before'; 0 by the template 'total and deterministic' (their statements: YtmoemhnmiabppaaDoorTotals.lean).
  GIVEN WITH THE SEED: the statements are not yours to turn. If you find one false, say at which input.
  Laid BY PROGRAM, IN A SANDBOX (cutbox-rows.mjs): the forced cells as the released guide's own fill.sh prints them over the translation 7b6e28305cb0bdb9… (all of the seat's roots in one cut). By AI agents, Wed Nov 11 2026. No macro, syntax, notation, axiom, sorry.
-/
import Derived.Test.YtmoemhnmiabppaaDoorChecked
import GoSem.Claim
import GoSem.ClaimJoined
import GoSem.ClaimMapViews
import Derived.JoinedTies
import Derived.KernelRfl
namespace Go.Proofs.YtmoemhnmiabppaaDoor
/- THE CELL 'sum', in the pinned program and in every row, IS THE sha256 OF THE DUMP (.gsa) THAT YtmoemhnmiabppaaDoorProg.lean LOADS. Nothing in Lean hashes anything: it is a label: what it is worth is what the hold of that sum in a sandbox is worth. -/
noncomputable def Tryd.pinned : Pinned := { name := "ytmoemhnmiabppaadoor", sum := "7b6e28305cb0bdb91ee3d6b79d9daa6774088bf033f96ec99bf3d2d181281ff0", checked := Tryd.checked }
namespace Rows
def none {H : Type} : Left H := { results := [], args := [] }

/- WHAT THE LISTED PACKAGE-LEVEL VARIABLES READ AS WHEN THE CALL BEGINS. Each datum BY PROGRAM (the guide's laid-datum.mjs) off the statement by which the dump's own 'gosem.cut.vars' lays the variable. In a bare row this is a premise. The card (YtmoemhnmiabppaaDoorCards.lean) ties it to the program's text. -/
def laid_errors_errorType {H : Type} : DataW H := .iface "internal/reflectlite.rtype" (.agg [.ptr (.lit (.string [101, 114, 114, 111, 114]))])
def laid_loop_example_g00664_impl_errRange {H : Type} : DataW H := .iface "*errors.errorString" (.ptr (.agg [.lit (.string [111, 117, 116, 32, 111, 102, 32, 105, 116, 115, 32, 98, 111, 117, 110, 100, 115])]))
def laid_loop_example_g00664_impl_errEnd {H : Type} : DataW H := .iface "*errors.errorString" (.ptr (.agg [.lit (.string [99, 117, 116, 32, 111, 102, 102])]))

/-- 'laws.FnExactCheckImage': WHATEVER THE INPUT: true; the input reads as it did. -/
def fnExactCheckImageSpec : ChangeSpec := { name := "fnExactCheckImage", fn := fun _ => fun
  | [d] => { results := [.lit (.bool true)], args := [d] }
  | _ => none }
def fnExactCheckImageRow : OpenClaim := { program := "ytmoemhnmiabppaadoor", sum := "7b6e28305cb0bdb91ee3d6b79d9daa6774088bf033f96ec99bf3d2d181281ff0", func := "loop.example/g00664/laws.FnExactCheckImage", spec := "fnExactCheckImage", inPlace := ["internal/reflectlite.ValueOf", "(internal/reflectlite.Value).Type", "(internal/reflectlite.Value).IsNil", "internal/reflectlite.TypeOf", "(internal/reflectlite.Value).Elem", "(internal/reflectlite.Value).Set"], unfollowed := true, recurses := true, named := ["errors.errorType"], apart := false, laid := [("errors.errorType", laid_errors_errorType)] }
def FnExactCheckImageSaid : Prop := fnExactCheckImageRow.holds Tryd.pinned (OpenSpec.ofChange fnExactCheckImageSpec)

/-- ITS FALSE NEIGHBOUR: 'it returns false'. Refute it at one input. -/
def fnExactCheckImageWrong : ChangeSpec := { name := "fnExactCheckImage", fn := fun _ => fun
  | [d] => { results := [.lit (.bool false)], args := [d] }
  | _ => none }
def FnExactCheckImageWrongFalsely : Prop := fnExactCheckImageRow.holds Tryd.pinned (OpenSpec.ofChange fnExactCheckImageWrong)

/-- 'laws.FnExactElfText': WHATEVER THE INPUT: true; the input reads as it did. -/
def fnExactElfTextSpec : ChangeSpec := { name := "fnExactElfText", vars := ["loop.example/g00664/impl.errRange", "loop.example/g00664/impl.errEnd"], fn := fun _ => fun
  | [d, g1, g2] => { results := [.lit (.bool true)], args := [d], vars := [g1, g2] }
  | _ => none }
def fnExactElfTextRow : OpenClaim := { program := "ytmoemhnmiabppaadoor", sum := "7b6e28305cb0bdb91ee3d6b79d9daa6774088bf033f96ec99bf3d2d181281ff0", func := "loop.example/g00664/laws.FnExactElfText", spec := "fnExactElfText", inPlace := ["internal/reflectlite.TypeOf"], unfollowed := true, recurses := true, named := ["loop.example/g00664/impl.errRange", "loop.example/g00664/impl.errEnd"], ifaces := true, apart := false, laid := [("loop.example/g00664/impl.errRange", laid_loop_example_g00664_impl_errRange), ("loop.example/g00664/impl.errEnd", laid_loop_example_g00664_impl_errEnd)] }
def FnExactElfTextSaid : Prop := fnExactElfTextRow.holds Tryd.pinned (OpenSpec.ofChange fnExactElfTextSpec)

/-- ITS FALSE NEIGHBOUR: 'it returns false'. Refute it at one input. -/
def fnExactElfTextWrong : ChangeSpec := { name := "fnExactElfText", vars := ["loop.example/g00664/impl.errRange", "loop.example/g00664/impl.errEnd"], fn := fun _ => fun
  | [d, g1, g2] => { results := [.lit (.bool false)], args := [d], vars := [g1, g2] }
  | _ => none }
def FnExactElfTextWrongFalsely : Prop := fnExactElfTextRow.holds Tryd.pinned (OpenSpec.ofChange fnExactElfTextWrong)

/-- 'laws.FnExactReadElf': WHATEVER THE INPUT: true; the input reads as it did. -/
def fnExactReadElfSpec : ChangeSpec := { name := "fnExactReadElf", vars := ["loop.example/g00664/impl.errRange", "loop.example/g00664/impl.errEnd"], fn := fun _ => fun
  | [d, g1, g2] => { results := [.lit (.bool true)], args := [d], vars := [g1, g2] }
  | _ => none }
def fnExactReadElfRow : OpenClaim := { program := "ytmoemhnmiabppaadoor", sum := "7b6e28305cb0bdb91ee3d6b79d9daa6774088bf033f96ec99bf3d2d181281ff0", func := "loop.example/g00664/laws.FnExactReadElf", spec := "fnExactReadElf", inPlace := ["internal/reflectlite.TypeOf", "internal/reflectlite.ValueOf", "(internal/reflectlite.Value).Type", "(internal/reflectlite.Value).IsNil", "(internal/reflectlite.Value).Elem", "(internal/reflectlite.Value).Set"], unfollowed := true, recurses := true, named := ["loop.example/g00664/impl.errRange", "loop.example/g00664/impl.errEnd", "errors.errorType"], ifaces := true, apart := false, laid := [("errors.errorType", laid_errors_errorType), ("loop.example/g00664/impl.errRange", laid_loop_example_g00664_impl_errRange), ("loop.example/g00664/impl.errEnd", laid_loop_example_g00664_impl_errEnd)] }
def FnExactReadElfSaid : Prop := fnExactReadElfRow.holds Tryd.pinned (OpenSpec.ofChange fnExactReadElfSpec)

/-- ITS FALSE NEIGHBOUR: 'it returns false'. Refute it at one input. -/
def fnExactReadElfWrong : ChangeSpec := { name := "fnExactReadElf", vars := ["loop.example/g00664/impl.errRange", "loop.example/g00664/impl.errEnd"], fn := fun _ => fun
  | [d, g1, g2] => { results := [.lit (.bool false)], args := [d], vars := [g1, g2] }
  | _ => none }
def FnExactReadElfWrongFalsely : Prop := fnExactReadElfRow.holds Tryd.pinned (OpenSpec.ofChange fnExactReadElfWrong)

/- THE SECOND FORM. 'bulk': how many values and letters a reading holds, each counted each time it is reached (what is shared counts as often as it is met; a slice's spare places count too). A statement '..UptoSaid' is the law's where the arguments, and the package variables that the reading takes, are together of bulk at most 1048576: NARROWER than '..Said'. Prove '..Said' where nothing that the law and all that it calls make is longer than what came in: it says more and counts as full. Else prove '..UptoSaid'. A law counts once. -/
mutual
def uptoBulk {H : Type} : DataW H → Nat
  | .lit (.string bytes) => bytes.length + 1
  | .lit _ => 1
  | .nil => 1
  | .ptr d => uptoBulk d + 1
  | .slice elems spare => uptoBulkAll elems + uptoBulkAll spare + 1
  | .agg parts => uptoBulkAll parts + 1
  | .iface _ d => uptoBulk d + 1
  | .map entries => uptoBulkEntries entries + 1
  | .held _ => 1
def uptoBulkAll {H : Type} : List (DataW H) → Nat
  | [] => 0
  | d :: r => uptoBulk d + uptoBulkAll r
def uptoBulkEntries {H : Type} : List (Lit × DataW H) → Nat
  | [] => 0
  | x :: r => uptoBulkEntry x + uptoBulkEntries r
def uptoBulkEntry {H : Type} : Lit × DataW H → Nat
  | (.string bytes, d) => bytes.length + uptoBulk d + 1
  | (_, d) => uptoBulk d + 1
 end
def uptoSmall : (H : Type) → List (DataW H) → Bool := fun _ ds => decide (uptoBulkAll ds ≤ 1048576)
def OpenSpec.upto (s : _root_.Go.ChangeSpec) : _root_.Go.OpenSpec := { _root_.Go.OpenSpec.ofChange s with cond := some uptoSmall }

/-- 'laws.FnExactCheckImage', WHERE WHAT IT READS IS OF BULK AT MOST 1048576: true; the input reads as it did. -/
def fnExactCheckImageUptoRow : OpenClaim := { program := "ytmoemhnmiabppaadoor", sum := "7b6e28305cb0bdb91ee3d6b79d9daa6774088bf033f96ec99bf3d2d181281ff0", func := "loop.example/g00664/laws.FnExactCheckImage", spec := "fnExactCheckImage", inPlace := ["internal/reflectlite.ValueOf", "(internal/reflectlite.Value).Type", "(internal/reflectlite.Value).IsNil", "internal/reflectlite.TypeOf", "(internal/reflectlite.Value).Elem", "(internal/reflectlite.Value).Set"], unfollowed := true, recurses := true, named := ["errors.errorType"], apart := false, laid := [("errors.errorType", laid_errors_errorType)], narrowed := true }
def FnExactCheckImageUptoSaid : Prop := fnExactCheckImageUptoRow.holds Tryd.pinned (OpenSpec.upto fnExactCheckImageSpec)

/-- 'laws.FnExactElfText', WHERE WHAT IT READS IS OF BULK AT MOST 1048576: true; the input reads as it did. -/
def fnExactElfTextUptoRow : OpenClaim := { program := "ytmoemhnmiabppaadoor", sum := "7b6e28305cb0bdb91ee3d6b79d9daa6774088bf033f96ec99bf3d2d181281ff0", func := "loop.example/g00664/laws.FnExactElfText", spec := "fnExactElfText", inPlace := ["internal/reflectlite.TypeOf"], unfollowed := true, recurses := true, named := ["loop.example/g00664/impl.errRange", "loop.example/g00664/impl.errEnd"], ifaces := true, apart := false, laid := [("loop.example/g00664/impl.errRange", laid_loop_example_g00664_impl_errRange), ("loop.example/g00664/impl.errEnd", laid_loop_example_g00664_impl_errEnd)], narrowed := true }
def FnExactElfTextUptoSaid : Prop := fnExactElfTextUptoRow.holds Tryd.pinned (OpenSpec.upto fnExactElfTextSpec)

/-- 'laws.FnExactReadElf', WHERE WHAT IT READS IS OF BULK AT MOST 1048576: true; the input reads as it did. -/
def fnExactReadElfUptoRow : OpenClaim := { program := "ytmoemhnmiabppaadoor", sum := "7b6e28305cb0bdb91ee3d6b79d9daa6774088bf033f96ec99bf3d2d181281ff0", func := "loop.example/g00664/laws.FnExactReadElf", spec := "fnExactReadElf", inPlace := ["internal/reflectlite.TypeOf", "internal/reflectlite.ValueOf", "(internal/reflectlite.Value).Type", "(internal/reflectlite.Value).IsNil", "(internal/reflectlite.Value).Elem", "(internal/reflectlite.Value).Set"], unfollowed := true, recurses := true, named := ["loop.example/g00664/impl.errRange", "loop.example/g00664/impl.errEnd", "errors.errorType"], ifaces := true, apart := false, laid := [("errors.errorType", laid_errors_errorType), ("loop.example/g00664/impl.errRange", laid_loop_example_g00664_impl_errRange), ("loop.example/g00664/impl.errEnd", laid_loop_example_g00664_impl_errEnd)], narrowed := true }
def FnExactReadElfUptoSaid : Prop := fnExactReadElfUptoRow.holds Tryd.pinned (OpenSpec.upto fnExactReadElfSpec)

end Rows
end Go.Proofs.YtmoemhnmiabppaaDoor
