/-
  NARROWER THAN 'FOR EVERY INPUT', by the rows' own cells (each row's printed sentence says how): FnAdd: ifaces, laid · FnLogic: ifaces, laid.
  DERIVED. THE GIVEN ROWS OF THIS SEAT. 2 by the template 'for every input the law returns true; each argument reads behind the call as it read before'; 0 by the template 'total and deterministic' (their statements: YtifpcfhfglkbcaaGreatDoorTotals.lean).
  GIVEN WITH THE SEED: the statements are not yours to turn. If you find one false, say at which input.
  Laid BY PROGRAM, IN A SANDBOX (cutbox-rows.mjs): the forced cells as the released guide's own fill.sh prints them over the translation 92f3068a668eade6… (all of the seat's roots in one cut). By AI agents, Wed Nov 11 2026. No macro, syntax, notation, axiom, sorry.
-/
import Derived.Test.YtifpcfhfglkbcaaGreatDoorChecked
import GoSem.Claim
import GoSem.ClaimJoined
import GoSem.ClaimMapViews
import Derived.JoinedTies
import Derived.KernelRfl
namespace Go.Proofs.YtifpcfhfglkbcaaGreatDoor
/- THE CELL 'sum', in the pinned program and in every row, IS THE sha256 OF THE DUMP (.gsa) THAT YtifpcfhfglkbcaaGreatDoorProg.lean LOADS. Nothing in Lean hashes anything: it is a label: what it is worth is what the hold of that sum in a sandbox is worth. -/
noncomputable def Tryz.pinned : Pinned := { name := "ytifpcfhfglkbcaagreatdoor", sum := "92f3068a668eade61b7c9119822303d78693fdbfa20a755a7c136b0ce0d7289e", checked := Tryz.checked }
namespace Rows
def none {H : Type} : Left H := { results := [], args := [] }

/- WHAT THE LISTED PACKAGE-LEVEL VARIABLES READ AS WHEN THE CALL BEGINS. Each datum BY PROGRAM (the guide's laid-datum.mjs) off the statement by which the dump's own 'gosem.cut.vars' lays the variable. In a bare row this is a premise. The card (YtifpcfhfglkbcaaGreatDoorCards.lean) ties it to the program's text. -/
def laid_loop_example_g00664_impl_errRange {H : Type} : DataW H := .iface "*errors.errorString" (.ptr (.agg [.lit (.string [111, 117, 116, 32, 111, 102, 32, 105, 116, 115, 32, 98, 111, 117, 110, 100, 115])]))
def laid_loop_example_g00664_impl_errEnd {H : Type} : DataW H := .iface "*errors.errorString" (.ptr (.agg [.lit (.string [99, 117, 116, 32, 111, 102, 102])]))

/-- 'laws.FnAdd': WHATEVER THE INPUT: true; the input reads as it did. -/
def fnAddSpec : ChangeSpec := { name := "fnAdd", vars := ["loop.example/g00664/impl.errRange", "loop.example/g00664/impl.errEnd"], fn := fun _ => fun
  | [d1, d2, g1, g2] => { results := [.lit (.bool true)], args := [d1, d2], vars := [g1, g2] }
  | _ => none }
def fnAddRow : OpenClaim := { program := "ytifpcfhfglkbcaagreatdoor", sum := "92f3068a668eade61b7c9119822303d78693fdbfa20a755a7c136b0ce0d7289e", func := "loop.example/g00664/laws.FnAdd", spec := "fnAdd", inPlace := ["internal/reflectlite.TypeOf"], unfollowed := true, recurses := true, named := ["loop.example/g00664/impl.errRange", "loop.example/g00664/impl.errEnd"], ifaces := true, apart := false, laid := [("loop.example/g00664/impl.errRange", laid_loop_example_g00664_impl_errRange), ("loop.example/g00664/impl.errEnd", laid_loop_example_g00664_impl_errEnd)] }
def FnAddSaid : Prop := fnAddRow.holds Tryz.pinned (OpenSpec.ofChange fnAddSpec)

/-- ITS FALSE NEIGHBOUR: 'it returns false'. Refute it at one input. -/
def fnAddWrong : ChangeSpec := { name := "fnAdd", vars := ["loop.example/g00664/impl.errRange", "loop.example/g00664/impl.errEnd"], fn := fun _ => fun
  | [d1, d2, g1, g2] => { results := [.lit (.bool false)], args := [d1, d2], vars := [g1, g2] }
  | _ => none }
def FnAddWrongFalsely : Prop := fnAddRow.holds Tryz.pinned (OpenSpec.ofChange fnAddWrong)

/-- 'laws.FnLogic': WHATEVER THE INPUT: true; the input reads as it did. -/
def fnLogicSpec : ChangeSpec := { name := "fnLogic", vars := ["loop.example/g00664/impl.errRange"], fn := fun _ => fun
  | [d1, d2, g1] => { results := [.lit (.bool true)], args := [d1, d2], vars := [g1] }
  | _ => none }
def fnLogicRow : OpenClaim := { program := "ytifpcfhfglkbcaagreatdoor", sum := "92f3068a668eade61b7c9119822303d78693fdbfa20a755a7c136b0ce0d7289e", func := "loop.example/g00664/laws.FnLogic", spec := "fnLogic", unfollowed := true, recurses := true, named := ["loop.example/g00664/impl.errRange"], ifaces := true, apart := false, laid := [("loop.example/g00664/impl.errRange", laid_loop_example_g00664_impl_errRange)] }
def FnLogicSaid : Prop := fnLogicRow.holds Tryz.pinned (OpenSpec.ofChange fnLogicSpec)

/-- ITS FALSE NEIGHBOUR: 'it returns false'. Refute it at one input. -/
def fnLogicWrong : ChangeSpec := { name := "fnLogic", vars := ["loop.example/g00664/impl.errRange"], fn := fun _ => fun
  | [d1, d2, g1] => { results := [.lit (.bool false)], args := [d1, d2], vars := [g1] }
  | _ => none }
def FnLogicWrongFalsely : Prop := fnLogicRow.holds Tryz.pinned (OpenSpec.ofChange fnLogicWrong)

/- THE SECOND FORM. 'bulk': how many values and letters a reading holds, each counted each time it is reached (what is shared counts as often as it is met; a slice's spare places count too). A statement '..UptoSaid' is the law's where the arguments, and the package variables that the reading takes, are together of bulk at most 1048576: NARROWER than '..Said'. Prove '..Said' where nothing that the law and all that it calls make is longer than what came in: it says more and counts as full. Else prove '..UptoSaid'. A law counts once. -/
mutual
def uptoBulk {H : Type} : DataW H → Nat
  | .lit (.string bytes) => bytes.length + 1
  | .lit _ => 1
  | .nil => 1
  | .ptr d => uptoBulk d + 1
  | .slice elems spare => uptoBulkAll elems + uptoBulkAll spare + 1
  | .agg parts => uptoBulkAll parts + 1
  | .iface _ d => uptoBulk d + 1
  | .map entries => uptoBulkEntries entries + 1
  | .held _ => 1
def uptoBulkAll {H : Type} : List (DataW H) → Nat
  | [] => 0
  | d :: r => uptoBulk d + uptoBulkAll r
def uptoBulkEntries {H : Type} : List (Lit × DataW H) → Nat
  | [] => 0
  | x :: r => uptoBulkEntry x + uptoBulkEntries r
def uptoBulkEntry {H : Type} : Lit × DataW H → Nat
  | (.string bytes, d) => bytes.length + uptoBulk d + 1
  | (_, d) => uptoBulk d + 1
 end
def uptoSmall : (H : Type) → List (DataW H) → Bool := fun _ ds => decide (uptoBulkAll ds ≤ 1048576)
def OpenSpec.upto (s : _root_.Go.ChangeSpec) : _root_.Go.OpenSpec := { _root_.Go.OpenSpec.ofChange s with cond := some uptoSmall }

/-- 'laws.FnAdd', WHERE WHAT IT READS IS OF BULK AT MOST 1048576: true; the input reads as it did. -/
def fnAddUptoRow : OpenClaim := { program := "ytifpcfhfglkbcaagreatdoor", sum := "92f3068a668eade61b7c9119822303d78693fdbfa20a755a7c136b0ce0d7289e", func := "loop.example/g00664/laws.FnAdd", spec := "fnAdd", inPlace := ["internal/reflectlite.TypeOf"], unfollowed := true, recurses := true, named := ["loop.example/g00664/impl.errRange", "loop.example/g00664/impl.errEnd"], ifaces := true, apart := false, laid := [("loop.example/g00664/impl.errRange", laid_loop_example_g00664_impl_errRange), ("loop.example/g00664/impl.errEnd", laid_loop_example_g00664_impl_errEnd)], narrowed := true }
def FnAddUptoSaid : Prop := fnAddUptoRow.holds Tryz.pinned (OpenSpec.upto fnAddSpec)

/-- 'laws.FnLogic', WHERE WHAT IT READS IS OF BULK AT MOST 1048576: true; the input reads as it did. -/
def fnLogicUptoRow : OpenClaim := { program := "ytifpcfhfglkbcaagreatdoor", sum := "92f3068a668eade61b7c9119822303d78693fdbfa20a755a7c136b0ce0d7289e", func := "loop.example/g00664/laws.FnLogic", spec := "fnLogic", unfollowed := true, recurses := true, named := ["loop.example/g00664/impl.errRange"], ifaces := true, apart := false, laid := [("loop.example/g00664/impl.errRange", laid_loop_example_g00664_impl_errRange)], narrowed := true }
def FnLogicUptoSaid : Prop := fnLogicUptoRow.holds Tryz.pinned (OpenSpec.upto fnLogicSpec)

end Rows
end Go.Proofs.YtifpcfhfglkbcaaGreatDoor
