/-
  NARROWER THAN 'FOR EVERY INPUT', by the rows' own cells (each row's printed sentence says how): FnExactTouchOf: ifaces, laid.
  DERIVED. THE GIVEN ROWS OF THIS SEAT. 1 by the template 'for every input the law returns true; each argument reads behind the call as it read before'; 0 by the template 'total and deterministic' (their statements: YtjnjlgaemmdkhaaGreatDoorTotals.lean).
  GIVEN WITH THE SEED: the statements are not yours to turn. If you find one false, say at which input.
  Laid BY PROGRAM, IN A SANDBOX (cutbox-rows.mjs): the forced cells as the released guide's own fill.sh prints them over the translation c02180fc3a7cc30a… (all of the seat's roots in one cut). By AI agents, Wed Nov 11 2026. No macro, syntax, notation, axiom, sorry.
-/
import Derived.Test.YtjnjlgaemmdkhaaGreatDoorChecked
import GoSem.Claim
import GoSem.ClaimJoined
import GoSem.ClaimMapViews
import Derived.JoinedTies
import Derived.KernelRfl
namespace Go.Proofs.YtjnjlgaemmdkhaaGreatDoor
/- THE CELL 'sum', in the pinned program and in every row, IS THE sha256 OF THE DUMP (.gsa) THAT YtjnjlgaemmdkhaaGreatDoorProg.lean LOADS. Nothing in Lean hashes anything: it is a label: what it is worth is what the hold of that sum in a sandbox is worth. -/
noncomputable def Tryz.pinned : Pinned := { name := "ytjnjlgaemmdkhaagreatdoor", sum := "c02180fc3a7cc30a319c4f610e7de3aa2ec49165e653ddb7b7e80bf96d2ec659", checked := Tryz.checked }
namespace Rows
def none {H : Type} : Left H := { results := [], args := [] }

/- WHAT THE LISTED PACKAGE-LEVEL VARIABLES READ AS WHEN THE CALL BEGINS. Each datum BY PROGRAM (the guide's laid-datum.mjs) off the statement by which the dump's own 'gosem.cut.vars' lays the variable. In a bare row this is a premise. The card (YtjnjlgaemmdkhaaGreatDoorCards.lean) ties it to the program's text. -/
def laid_loop_example_g00664_impl_errRange {H : Type} : DataW H := .iface "*errors.errorString" (.ptr (.agg [.lit (.string [111, 117, 116, 32, 111, 102, 32, 105, 116, 115, 32, 98, 111, 117, 110, 100, 115])]))
def laid_loop_example_g00664_impl_condNames {H : Type} : DataW H := .agg [.lit (.string [111]), .lit (.string [110, 111]), .lit (.string [98]), .lit (.string [97, 101]), .lit (.string [101]), .lit (.string [110, 101]), .lit (.string [98, 101]), .lit (.string [97]), .lit (.string [115]), .lit (.string [110, 115]), .lit (.string [112]), .lit (.string [110, 112]), .lit (.string [108]), .lit (.string [103, 101]), .lit (.string [108, 101]), .lit (.string [103])]
def laid_loop_example_g00664_impl_byteNames {H : Type} : DataW H := .agg [.lit (.string [97, 108]), .lit (.string [99, 108]), .lit (.string [100, 108]), .lit (.string [98, 108]), .lit (.string [115, 112, 108]), .lit (.string [98, 112, 108]), .lit (.string [115, 105, 108]), .lit (.string [100, 105, 108]), .lit (.string [114, 56, 98]), .lit (.string [114, 57, 98]), .lit (.string [114, 49, 48, 98]), .lit (.string [114, 49, 49, 98]), .lit (.string [114, 49, 50, 98]), .lit (.string [114, 49, 51, 98]), .lit (.string [114, 49, 52, 98]), .lit (.string [114, 49, 53, 98]), .lit (.string [97, 104]), .lit (.string [99, 104]), .lit (.string [100, 104]), .lit (.string [98, 104])]
def laid_loop_example_g00664_impl_wordNames {H : Type} : DataW H := .agg [.lit (.string [97, 120]), .lit (.string [99, 120]), .lit (.string [100, 120]), .lit (.string [98, 120]), .lit (.string [115, 112]), .lit (.string [98, 112]), .lit (.string [115, 105]), .lit (.string [100, 105]), .lit (.string [114, 56, 119]), .lit (.string [114, 57, 119]), .lit (.string [114, 49, 48, 119]), .lit (.string [114, 49, 49, 119]), .lit (.string [114, 49, 50, 119]), .lit (.string [114, 49, 51, 119]), .lit (.string [114, 49, 52, 119]), .lit (.string [114, 49, 53, 119])]
def laid_loop_example_g00664_impl_dwordNames {H : Type} : DataW H := .agg [.lit (.string [101, 97, 120]), .lit (.string [101, 99, 120]), .lit (.string [101, 100, 120]), .lit (.string [101, 98, 120]), .lit (.string [101, 115, 112]), .lit (.string [101, 98, 112]), .lit (.string [101, 115, 105]), .lit (.string [101, 100, 105]), .lit (.string [114, 56, 100]), .lit (.string [114, 57, 100]), .lit (.string [114, 49, 48, 100]), .lit (.string [114, 49, 49, 100]), .lit (.string [114, 49, 50, 100]), .lit (.string [114, 49, 51, 100]), .lit (.string [114, 49, 52, 100]), .lit (.string [114, 49, 53, 100])]
def laid_loop_example_g00664_impl_qwordNames {H : Type} : DataW H := .agg [.lit (.string [114, 97, 120]), .lit (.string [114, 99, 120]), .lit (.string [114, 100, 120]), .lit (.string [114, 98, 120]), .lit (.string [114, 115, 112]), .lit (.string [114, 98, 112]), .lit (.string [114, 115, 105]), .lit (.string [114, 100, 105]), .lit (.string [114, 56]), .lit (.string [114, 57]), .lit (.string [114, 49, 48]), .lit (.string [114, 49, 49]), .lit (.string [114, 49, 50]), .lit (.string [114, 49, 51]), .lit (.string [114, 49, 52]), .lit (.string [114, 49, 53])]

/-- 'laws.FnExactTouchOf': WHATEVER THE INPUT: true; the input reads as it did. -/
def fnExactTouchOfSpec : ChangeSpec := { name := "fnExactTouchOf", vars := ["loop.example/g00664/impl.condNames", "loop.example/g00664/impl.errRange", "loop.example/g00664/impl.byteNames", "loop.example/g00664/impl.wordNames", "loop.example/g00664/impl.dwordNames", "loop.example/g00664/impl.qwordNames"], fn := fun _ => fun
  | [d, g1, g2, g3, g4, g5, g6] => { results := [.lit (.bool true)], args := [d], vars := [g1, g2, g3, g4, g5, g6] }
  | _ => none }
def fnExactTouchOfRow : OpenClaim := { program := "ytjnjlgaemmdkhaagreatdoor", sum := "c02180fc3a7cc30a319c4f610e7de3aa2ec49165e653ddb7b7e80bf96d2ec659", func := "loop.example/g00664/laws.FnExactTouchOf", spec := "fnExactTouchOf", inPlace := ["internal/bytealg.IndexByteString", "internal/bytealg.IndexString"], unfollowed := true, recurses := true, named := ["loop.example/g00664/impl.condNames", "loop.example/g00664/impl.errRange", "loop.example/g00664/impl.byteNames", "loop.example/g00664/impl.wordNames", "loop.example/g00664/impl.dwordNames", "loop.example/g00664/impl.qwordNames", "internal/bytealg.MaxLen"], ifaces := true, apart := false, laid := [("loop.example/g00664/impl.errRange", laid_loop_example_g00664_impl_errRange), ("loop.example/g00664/impl.condNames", laid_loop_example_g00664_impl_condNames), ("loop.example/g00664/impl.byteNames", laid_loop_example_g00664_impl_byteNames), ("loop.example/g00664/impl.wordNames", laid_loop_example_g00664_impl_wordNames), ("loop.example/g00664/impl.dwordNames", laid_loop_example_g00664_impl_dwordNames), ("loop.example/g00664/impl.qwordNames", laid_loop_example_g00664_impl_qwordNames)] }
def FnExactTouchOfSaid : Prop := fnExactTouchOfRow.holds Tryz.pinned (OpenSpec.ofChange fnExactTouchOfSpec)

/-- ITS FALSE NEIGHBOUR: 'it returns false'. Refute it at one input. -/
def fnExactTouchOfWrong : ChangeSpec := { name := "fnExactTouchOf", vars := ["loop.example/g00664/impl.condNames", "loop.example/g00664/impl.errRange", "loop.example/g00664/impl.byteNames", "loop.example/g00664/impl.wordNames", "loop.example/g00664/impl.dwordNames", "loop.example/g00664/impl.qwordNames"], fn := fun _ => fun
  | [d, g1, g2, g3, g4, g5, g6] => { results := [.lit (.bool false)], args := [d], vars := [g1, g2, g3, g4, g5, g6] }
  | _ => none }
def FnExactTouchOfWrongFalsely : Prop := fnExactTouchOfRow.holds Tryz.pinned (OpenSpec.ofChange fnExactTouchOfWrong)

/- THE SECOND FORM. 'bulk': how many values and letters a reading holds, each counted each time it is reached (what is shared counts as often as it is met; a slice's spare places count too). A statement '..UptoSaid' is the law's where the arguments, and the package variables that the reading takes, are together of bulk at most 1048576: NARROWER than '..Said'. Prove '..Said' where nothing that the law and all that it calls make is longer than what came in: it says more and counts as full. Else prove '..UptoSaid'. A law counts once. -/
mutual
def uptoBulk {H : Type} : DataW H → Nat
  | .lit (.string bytes) => bytes.length + 1
  | .lit _ => 1
  | .nil => 1
  | .ptr d => uptoBulk d + 1
  | .slice elems spare => uptoBulkAll elems + uptoBulkAll spare + 1
  | .agg parts => uptoBulkAll parts + 1
  | .iface _ d => uptoBulk d + 1
  | .map entries => uptoBulkEntries entries + 1
  | .held _ => 1
def uptoBulkAll {H : Type} : List (DataW H) → Nat
  | [] => 0
  | d :: r => uptoBulk d + uptoBulkAll r
def uptoBulkEntries {H : Type} : List (Lit × DataW H) → Nat
  | [] => 0
  | x :: r => uptoBulkEntry x + uptoBulkEntries r
def uptoBulkEntry {H : Type} : Lit × DataW H → Nat
  | (.string bytes, d) => bytes.length + uptoBulk d + 1
  | (_, d) => uptoBulk d + 1
 end
def uptoSmall : (H : Type) → List (DataW H) → Bool := fun _ ds => decide (uptoBulkAll ds ≤ 1048576)
def OpenSpec.upto (s : _root_.Go.ChangeSpec) : _root_.Go.OpenSpec := { _root_.Go.OpenSpec.ofChange s with cond := some uptoSmall }

/-- 'laws.FnExactTouchOf', WHERE WHAT IT READS IS OF BULK AT MOST 1048576: true; the input reads as it did. -/
def fnExactTouchOfUptoRow : OpenClaim := { program := "ytjnjlgaemmdkhaagreatdoor", sum := "c02180fc3a7cc30a319c4f610e7de3aa2ec49165e653ddb7b7e80bf96d2ec659", func := "loop.example/g00664/laws.FnExactTouchOf", spec := "fnExactTouchOf", inPlace := ["internal/bytealg.IndexByteString", "internal/bytealg.IndexString"], unfollowed := true, recurses := true, named := ["loop.example/g00664/impl.condNames", "loop.example/g00664/impl.errRange", "loop.example/g00664/impl.byteNames", "loop.example/g00664/impl.wordNames", "loop.example/g00664/impl.dwordNames", "loop.example/g00664/impl.qwordNames", "internal/bytealg.MaxLen"], ifaces := true, apart := false, laid := [("loop.example/g00664/impl.errRange", laid_loop_example_g00664_impl_errRange), ("loop.example/g00664/impl.condNames", laid_loop_example_g00664_impl_condNames), ("loop.example/g00664/impl.byteNames", laid_loop_example_g00664_impl_byteNames), ("loop.example/g00664/impl.wordNames", laid_loop_example_g00664_impl_wordNames), ("loop.example/g00664/impl.dwordNames", laid_loop_example_g00664_impl_dwordNames), ("loop.example/g00664/impl.qwordNames", laid_loop_example_g00664_impl_qwordNames)], narrowed := true }
def FnExactTouchOfUptoSaid : Prop := fnExactTouchOfUptoRow.holds Tryz.pinned (OpenSpec.upto fnExactTouchOfSpec)

end Rows
end Go.Proofs.YtjnjlgaemmdkhaaGreatDoor
