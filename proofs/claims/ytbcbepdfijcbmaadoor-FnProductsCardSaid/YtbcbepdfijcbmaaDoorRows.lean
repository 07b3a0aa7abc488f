/-
  NARROWER THAN 'FOR EVERY INPUT', by the rows' own cells (each row's printed sentence says how): FnExactGetReg: ifaces, laid · FnExactSetReg: ifaces, laid · FnExactAddressOf: ifaces, laid · FnRegs: ifaces, laid · FnExactDivide: ifaces, laid · FnProducts: ifaces, laid.
  DERIVED. THE GIVEN ROWS OF THIS SEAT. 6 by the template 'for every input the law returns true; each argument reads behind the call as it read before'; 0 by the template 'total and deterministic' (their statements: YtbcbepdfijcbmaaDoorTotals.lean).
  GIVEN WITH THE SEED: the statements are not yours to turn. If you find one false, say at which input.
  Laid BY PROGRAM, IN A SANDBOX (cutbox-rows.mjs): the forced cells as the released guide's own fill.sh prints them over the translation 61b230925dfa36fe… (all of the seat's roots in one cut). By AI agents, Wed Nov 11 2026. No macro, syntax, notation, axiom, sorry.
-/
import Derived.Test.YtbcbepdfijcbmaaDoorChecked
import GoSem.Claim
import GoSem.ClaimJoined
import GoSem.ClaimMapViews
import Derived.JoinedTies
import Derived.KernelRfl
namespace Go.Proofs.YtbcbepdfijcbmaaDoor
/- THE CELL 'sum', in the pinned program and in every row, IS THE sha256 OF THE DUMP (.gsa) THAT YtbcbepdfijcbmaaDoorProg.lean LOADS. Nothing in Lean hashes anything: it is a label: what it is worth is what the hold of that sum in a sandbox is worth. -/
noncomputable def Tryd.pinned : Pinned := { name := "ytbcbepdfijcbmaadoor", sum := "61b230925dfa36fe98edb9e2bbe0b9c7c40056791865227281fa50aa2b8fc005", checked := Tryd.checked }
namespace Rows
def none {H : Type} : Left H := { results := [], args := [] }

/- WHAT THE LISTED PACKAGE-LEVEL VARIABLES READ AS WHEN THE CALL BEGINS. Each datum BY PROGRAM (the guide's laid-datum.mjs) off the statement by which the dump's own 'gosem.cut.vars' lays the variable. In a bare row this is a premise. The card (YtbcbepdfijcbmaaDoorCards.lean) ties it to the program's text. -/
def laid_loop_example_g00664_impl_errRange {H : Type} : DataW H := .iface "*errors.errorString" (.ptr (.agg [.lit (.string [111, 117, 116, 32, 111, 102, 32, 105, 116, 115, 32, 98, 111, 117, 110, 100, 115])]))
def laid_loop_example_g00664_impl_byteNames {H : Type} : DataW H := .agg [.lit (.string [97, 108]), .lit (.string [99, 108]), .lit (.string [100, 108]), .lit (.string [98, 108]), .lit (.string [115, 112, 108]), .lit (.string [98, 112, 108]), .lit (.string [115, 105, 108]), .lit (.string [100, 105, 108]), .lit (.string [114, 56, 98]), .lit (.string [114, 57, 98]), .lit (.string [114, 49, 48, 98]), .lit (.string [114, 49, 49, 98]), .lit (.string [114, 49, 50, 98]), .lit (.string [114, 49, 51, 98]), .lit (.string [114, 49, 52, 98]), .lit (.string [114, 49, 53, 98]), .lit (.string [97, 104]), .lit (.string [99, 104]), .lit (.string [100, 104]), .lit (.string [98, 104])]
def laid_loop_example_g00664_impl_wordNames {H : Type} : DataW H := .agg [.lit (.string [97, 120]), .lit (.string [99, 120]), .lit (.string [100, 120]), .lit (.string [98, 120]), .lit (.string [115, 112]), .lit (.string [98, 112]), .lit (.string [115, 105]), .lit (.string [100, 105]), .lit (.string [114, 56, 119]), .lit (.string [114, 57, 119]), .lit (.string [114, 49, 48, 119]), .lit (.string [114, 49, 49, 119]), .lit (.string [114, 49, 50, 119]), .lit (.string [114, 49, 51, 119]), .lit (.string [114, 49, 52, 119]), .lit (.string [114, 49, 53, 119])]
def laid_loop_example_g00664_impl_dwordNames {H : Type} : DataW H := .agg [.lit (.string [101, 97, 120]), .lit (.string [101, 99, 120]), .lit (.string [101, 100, 120]), .lit (.string [101, 98, 120]), .lit (.string [101, 115, 112]), .lit (.string [101, 98, 112]), .lit (.string [101, 115, 105]), .lit (.string [101, 100, 105]), .lit (.string [114, 56, 100]), .lit (.string [114, 57, 100]), .lit (.string [114, 49, 48, 100]), .lit (.string [114, 49, 49, 100]), .lit (.string [114, 49, 50, 100]), .lit (.string [114, 49, 51, 100]), .lit (.string [114, 49, 52, 100]), .lit (.string [114, 49, 53, 100])]
def laid_loop_example_g00664_impl_qwordNames {H : Type} : DataW H := .agg [.lit (.string [114, 97, 120]), .lit (.string [114, 99, 120]), .lit (.string [114, 100, 120]), .lit (.string [114, 98, 120]), .lit (.string [114, 115, 112]), .lit (.string [114, 98, 112]), .lit (.string [114, 115, 105]), .lit (.string [114, 100, 105]), .lit (.string [114, 56]), .lit (.string [114, 57]), .lit (.string [114, 49, 48]), .lit (.string [114, 49, 49]), .lit (.string [114, 49, 50]), .lit (.string [114, 49, 51]), .lit (.string [114, 49, 52]), .lit (.string [114, 49, 53])]
def laid_loop_example_g00664_impl_errEnd {H : Type} : DataW H := .iface "*errors.errorString" (.ptr (.agg [.lit (.string [99, 117, 116, 32, 111, 102, 102])]))

/-- 'laws.FnExactGetReg': WHATEVER THE INPUT: true; the input reads as it did. -/
def fnExactGetRegSpec : ChangeSpec := { name := "fnExactGetReg", vars := ["loop.example/g00664/impl.byteNames", "loop.example/g00664/impl.wordNames", "loop.example/g00664/impl.dwordNames", "loop.example/g00664/impl.qwordNames", "loop.example/g00664/impl.errRange"], fn := fun _ => fun
  | [d1, d2, d3, g1, g2, g3, g4, g5] => { results := [.lit (.bool true)], args := [d1, d2, d3], vars := [g1, g2, g3, g4, g5] }
  | _ => none }
def fnExactGetRegRow : OpenClaim := { program := "ytbcbepdfijcbmaadoor", sum := "61b230925dfa36fe98edb9e2bbe0b9c7c40056791865227281fa50aa2b8fc005", func := "loop.example/g00664/laws.FnExactGetReg", spec := "fnExactGetReg", named := ["loop.example/g00664/impl.byteNames", "loop.example/g00664/impl.wordNames", "loop.example/g00664/impl.dwordNames", "loop.example/g00664/impl.qwordNames", "loop.example/g00664/impl.errRange"], ifaces := true, apart := false, laid := [("loop.example/g00664/impl.errRange", laid_loop_example_g00664_impl_errRange), ("loop.example/g00664/impl.byteNames", laid_loop_example_g00664_impl_byteNames), ("loop.example/g00664/impl.wordNames", laid_loop_example_g00664_impl_wordNames), ("loop.example/g00664/impl.dwordNames", laid_loop_example_g00664_impl_dwordNames), ("loop.example/g00664/impl.qwordNames", laid_loop_example_g00664_impl_qwordNames)] }
def FnExactGetRegSaid : Prop := fnExactGetRegRow.holds Tryd.pinned (OpenSpec.ofChange fnExactGetRegSpec)

/-- ITS FALSE NEIGHBOUR: 'it returns false'. Refute it at one input. -/
def fnExactGetRegWrong : ChangeSpec := { name := "fnExactGetReg", vars := ["loop.example/g00664/impl.byteNames", "loop.example/g00664/impl.wordNames", "loop.example/g00664/impl.dwordNames", "loop.example/g00664/impl.qwordNames", "loop.example/g00664/impl.errRange"], fn := fun _ => fun
  | [d1, d2, d3, g1, g2, g3, g4, g5] => { results := [.lit (.bool false)], args := [d1, d2, d3], vars := [g1, g2, g3, g4, g5] }
  | _ => none }
def FnExactGetRegWrongFalsely : Prop := fnExactGetRegRow.holds Tryd.pinned (OpenSpec.ofChange fnExactGetRegWrong)

/-- 'laws.FnExactSetReg': WHATEVER THE INPUT: true; the input reads as it did. -/
def fnExactSetRegSpec : ChangeSpec := { name := "fnExactSetReg", vars := ["loop.example/g00664/impl.byteNames", "loop.example/g00664/impl.wordNames", "loop.example/g00664/impl.dwordNames", "loop.example/g00664/impl.qwordNames", "loop.example/g00664/impl.errRange"], fn := fun _ => fun
  | [d1, d2, d3, d4, g1, g2, g3, g4, g5] => { results := [.lit (.bool true)], args := [d1, d2, d3, d4], vars := [g1, g2, g3, g4, g5] }
  | _ => none }
def fnExactSetRegRow : OpenClaim := { program := "ytbcbepdfijcbmaadoor", sum := "61b230925dfa36fe98edb9e2bbe0b9c7c40056791865227281fa50aa2b8fc005", func := "loop.example/g00664/laws.FnExactSetReg", spec := "fnExactSetReg", named := ["loop.example/g00664/impl.byteNames", "loop.example/g00664/impl.wordNames", "loop.example/g00664/impl.dwordNames", "loop.example/g00664/impl.qwordNames", "loop.example/g00664/impl.errRange"], ifaces := true, apart := false, laid := [("loop.example/g00664/impl.errRange", laid_loop_example_g00664_impl_errRange), ("loop.example/g00664/impl.byteNames", laid_loop_example_g00664_impl_byteNames), ("loop.example/g00664/impl.wordNames", laid_loop_example_g00664_impl_wordNames), ("loop.example/g00664/impl.dwordNames", laid_loop_example_g00664_impl_dwordNames), ("loop.example/g00664/impl.qwordNames", laid_loop_example_g00664_impl_qwordNames)] }
def FnExactSetRegSaid : Prop := fnExactSetRegRow.holds Tryd.pinned (OpenSpec.ofChange fnExactSetRegSpec)

/-- ITS FALSE NEIGHBOUR: 'it returns false'. Refute it at one input. -/
def fnExactSetRegWrong : ChangeSpec := { name := "fnExactSetReg", vars := ["loop.example/g00664/impl.byteNames", "loop.example/g00664/impl.wordNames", "loop.example/g00664/impl.dwordNames", "loop.example/g00664/impl.qwordNames", "loop.example/g00664/impl.errRange"], fn := fun _ => fun
  | [d1, d2, d3, d4, g1, g2, g3, g4, g5] => { results := [.lit (.bool false)], args := [d1, d2, d3, d4], vars := [g1, g2, g3, g4, g5] }
  | _ => none }
def FnExactSetRegWrongFalsely : Prop := fnExactSetRegRow.holds Tryd.pinned (OpenSpec.ofChange fnExactSetRegWrong)

/-- 'laws.FnExactAddressOf': WHATEVER THE INPUT: true; the input reads as it did. -/
def fnExactAddressOfSpec : ChangeSpec := { name := "fnExactAddressOf", vars := ["loop.example/g00664/impl.byteNames", "loop.example/g00664/impl.wordNames", "loop.example/g00664/impl.dwordNames", "loop.example/g00664/impl.qwordNames", "loop.example/g00664/impl.errRange"], fn := fun _ => fun
  | [d1, d2, d3, g1, g2, g3, g4, g5] => { results := [.lit (.bool true)], args := [d1, d2, d3], vars := [g1, g2, g3, g4, g5] }
  | _ => none }
def fnExactAddressOfRow : OpenClaim := { program := "ytbcbepdfijcbmaadoor", sum := "61b230925dfa36fe98edb9e2bbe0b9c7c40056791865227281fa50aa2b8fc005", func := "loop.example/g00664/laws.FnExactAddressOf", spec := "fnExactAddressOf", named := ["loop.example/g00664/impl.byteNames", "loop.example/g00664/impl.wordNames", "loop.example/g00664/impl.dwordNames", "loop.example/g00664/impl.qwordNames", "loop.example/g00664/impl.errRange"], ifaces := true, apart := false, laid := [("loop.example/g00664/impl.errRange", laid_loop_example_g00664_impl_errRange), ("loop.example/g00664/impl.byteNames", laid_loop_example_g00664_impl_byteNames), ("loop.example/g00664/impl.wordNames", laid_loop_example_g00664_impl_wordNames), ("loop.example/g00664/impl.dwordNames", laid_loop_example_g00664_impl_dwordNames), ("loop.example/g00664/impl.qwordNames", laid_loop_example_g00664_impl_qwordNames)] }
def FnExactAddressOfSaid : Prop := fnExactAddressOfRow.holds Tryd.pinned (OpenSpec.ofChange fnExactAddressOfSpec)

/-- ITS FALSE NEIGHBOUR: 'it returns false'. Refute it at one input. -/
def fnExactAddressOfWrong : ChangeSpec := { name := "fnExactAddressOf", vars := ["loop.example/g00664/impl.byteNames", "loop.example/g00664/impl.wordNames", "loop.example/g00664/impl.dwordNames", "loop.example/g00664/impl.qwordNames", "loop.example/g00664/impl.errRange"], fn := fun _ => fun
  | [d1, d2, d3, g1, g2, g3, g4, g5] => { results := [.lit (.bool false)], args := [d1, d2, d3], vars := [g1, g2, g3, g4, g5] }
  | _ => none }
def FnExactAddressOfWrongFalsely : Prop := fnExactAddressOfRow.holds Tryd.pinned (OpenSpec.ofChange fnExactAddressOfWrong)

/-- 'laws.FnRegs': WHATEVER THE INPUT: true; the input reads as it did. -/
def fnRegsSpec : ChangeSpec := { name := "fnRegs", vars := ["loop.example/g00664/impl.byteNames", "loop.example/g00664/impl.wordNames", "loop.example/g00664/impl.dwordNames", "loop.example/g00664/impl.qwordNames", "loop.example/g00664/impl.errRange", "loop.example/g00664/impl.errEnd"], fn := fun _ => fun
  | [d1, d2, g1, g2, g3, g4, g5, g6] => { results := [.lit (.bool true)], args := [d1, d2], vars := [g1, g2, g3, g4, g5, g6] }
  | _ => none }
def fnRegsRow : OpenClaim := { program := "ytbcbepdfijcbmaadoor", sum := "61b230925dfa36fe98edb9e2bbe0b9c7c40056791865227281fa50aa2b8fc005", func := "loop.example/g00664/laws.FnRegs", spec := "fnRegs", inPlace := ["internal/reflectlite.TypeOf"], unfollowed := true, recurses := true, named := ["loop.example/g00664/impl.byteNames", "loop.example/g00664/impl.wordNames", "loop.example/g00664/impl.dwordNames", "loop.example/g00664/impl.qwordNames", "loop.example/g00664/impl.errRange", "loop.example/g00664/impl.errEnd"], ifaces := true, apart := false, laid := [("loop.example/g00664/impl.errRange", laid_loop_example_g00664_impl_errRange), ("loop.example/g00664/impl.errEnd", laid_loop_example_g00664_impl_errEnd), ("loop.example/g00664/impl.byteNames", laid_loop_example_g00664_impl_byteNames), ("loop.example/g00664/impl.wordNames", laid_loop_example_g00664_impl_wordNames), ("loop.example/g00664/impl.dwordNames", laid_loop_example_g00664_impl_dwordNames), ("loop.example/g00664/impl.qwordNames", laid_loop_example_g00664_impl_qwordNames)] }
def FnRegsSaid : Prop := fnRegsRow.holds Tryd.pinned (OpenSpec.ofChange fnRegsSpec)

/-- ITS FALSE NEIGHBOUR: 'it returns false'. Refute it at one input. -/
def fnRegsWrong : ChangeSpec := { name := "fnRegs", vars := ["loop.example/g00664/impl.byteNames", "loop.example/g00664/impl.wordNames", "loop.example/g00664/impl.dwordNames", "loop.example/g00664/impl.qwordNames", "loop.example/g00664/impl.errRange", "loop.example/g00664/impl.errEnd"], fn := fun _ => fun
  | [d1, d2, g1, g2, g3, g4, g5, g6] => { results := [.lit (.bool false)], args := [d1, d2], vars := [g1, g2, g3, g4, g5, g6] }
  | _ => none }
def FnRegsWrongFalsely : Prop := fnRegsRow.holds Tryd.pinned (OpenSpec.ofChange fnRegsWrong)

/-- 'laws.FnExactDivide': WHATEVER THE INPUT: true; the input reads as it did. -/
def fnExactDivideSpec : ChangeSpec := { name := "fnExactDivide", vars := ["loop.example/g00664/impl.errRange"], fn := fun _ => fun
  | [d1, d2, d3, d4, d5, g1] => { results := [.lit (.bool true)], args := [d1, d2, d3, d4, d5], vars := [g1] }
  | _ => none }
def fnExactDivideRow : OpenClaim := { program := "ytbcbepdfijcbmaadoor", sum := "61b230925dfa36fe98edb9e2bbe0b9c7c40056791865227281fa50aa2b8fc005", func := "loop.example/g00664/laws.FnExactDivide", spec := "fnExactDivide", unfollowed := true, recurses := true, named := ["loop.example/g00664/impl.errRange", "math/bits.divideError", "math/bits.overflowError"], ifaces := true, apart := false, laid := [("loop.example/g00664/impl.errRange", laid_loop_example_g00664_impl_errRange)] }
def FnExactDivideSaid : Prop := fnExactDivideRow.holds Tryd.pinned (OpenSpec.ofChange fnExactDivideSpec)

/-- ITS FALSE NEIGHBOUR: 'it returns false'. Refute it at one input. -/
def fnExactDivideWrong : ChangeSpec := { name := "fnExactDivide", vars := ["loop.example/g00664/impl.errRange"], fn := fun _ => fun
  | [d1, d2, d3, d4, d5, g1] => { results := [.lit (.bool false)], args := [d1, d2, d3, d4, d5], vars := [g1] }
  | _ => none }
def FnExactDivideWrongFalsely : Prop := fnExactDivideRow.holds Tryd.pinned (OpenSpec.ofChange fnExactDivideWrong)

/-- 'laws.FnProducts': WHATEVER THE INPUT: true; the input reads as it did. -/
def fnProductsSpec : ChangeSpec := { name := "fnProducts", vars := ["loop.example/g00664/impl.errRange"], fn := fun _ => fun
  | [d1, d2, g1] => { results := [.lit (.bool true)], args := [d1, d2], vars := [g1] }
  | _ => none }
def fnProductsRow : OpenClaim := { program := "ytbcbepdfijcbmaadoor", sum := "61b230925dfa36fe98edb9e2bbe0b9c7c40056791865227281fa50aa2b8fc005", func := "loop.example/g00664/laws.FnProducts", spec := "fnProducts", unfollowed := true, recurses := true, named := ["loop.example/g00664/impl.errRange", "math/bits.divideError", "math/bits.overflowError"], ifaces := true, apart := false, laid := [("loop.example/g00664/impl.errRange", laid_loop_example_g00664_impl_errRange)] }
def FnProductsSaid : Prop := fnProductsRow.holds Tryd.pinned (OpenSpec.ofChange fnProductsSpec)

/-- ITS FALSE NEIGHBOUR: 'it returns false'. Refute it at one input. -/
def fnProductsWrong : ChangeSpec := { name := "fnProducts", vars := ["loop.example/g00664/impl.errRange"], fn := fun _ => fun
  | [d1, d2, g1] => { results := [.lit (.bool false)], args := [d1, d2], vars := [g1] }
  | _ => none }
def FnProductsWrongFalsely : Prop := fnProductsRow.holds Tryd.pinned (OpenSpec.ofChange fnProductsWrong)

/- THE SECOND FORM. 'bulk': how many values and letters a reading holds, each counted each time it is reached (what is shared counts as often as it is met; a slice's spare places count too). A statement '..UptoSaid' is the law's where the arguments, and the package variables that the reading takes, are together of bulk at most 1048576: NARROWER than '..Said'. Prove '..Said' where nothing that the law and all that it calls make is longer than what came in: it says more and counts as full. Else prove '..UptoSaid'. A law counts once. -/
mutual
def uptoBulk {H : Type} : DataW H → Nat
  | .lit (.string bytes) => bytes.length + 1
  | .lit _ => 1
  | .nil => 1
  | .ptr d => uptoBulk d + 1
  | .slice elems spare => uptoBulkAll elems + uptoBulkAll spare + 1
  | .agg parts => uptoBulkAll parts + 1
  | .iface _ d => uptoBulk d + 1
  | .map entries => uptoBulkEntries entries + 1
  | .held _ => 1
def uptoBulkAll {H : Type} : List (DataW H) → Nat
  | [] => 0
  | d :: r => uptoBulk d + uptoBulkAll r
def uptoBulkEntries {H : Type} : List (Lit × DataW H) → Nat
  | [] => 0
  | x :: r => uptoBulkEntry x + uptoBulkEntries r
def uptoBulkEntry {H : Type} : Lit × DataW H → Nat
  | (.string bytes, d) => bytes.length + uptoBulk d + 1
  | (_, d) => uptoBulk d + 1
 end
def uptoSmall : (H : Type) → List (DataW H) → Bool := fun _ ds => decide (uptoBulkAll ds ≤ 1048576)
def OpenSpec.upto (s : _root_.Go.ChangeSpec) : _root_.Go.OpenSpec := { _root_.Go.OpenSpec.ofChange s with cond := some uptoSmall }

/-- 'laws.FnExactGetReg', WHERE WHAT IT READS IS OF BULK AT MOST 1048576: true; the input reads as it did. -/
def fnExactGetRegUptoRow : OpenClaim := { program := "ytbcbepdfijcbmaadoor", sum := "61b230925dfa36fe98edb9e2bbe0b9c7c40056791865227281fa50aa2b8fc005", func := "loop.example/g00664/laws.FnExactGetReg", spec := "fnExactGetReg", named := ["loop.example/g00664/impl.byteNames", "loop.example/g00664/impl.wordNames", "loop.example/g00664/impl.dwordNames", "loop.example/g00664/impl.qwordNames", "loop.example/g00664/impl.errRange"], ifaces := true, apart := false, laid := [("loop.example/g00664/impl.errRange", laid_loop_example_g00664_impl_errRange), ("loop.example/g00664/impl.byteNames", laid_loop_example_g00664_impl_byteNames), ("loop.example/g00664/impl.wordNames", laid_loop_example_g00664_impl_wordNames), ("loop.example/g00664/impl.dwordNames", laid_loop_example_g00664_impl_dwordNames), ("loop.example/g00664/impl.qwordNames", laid_loop_example_g00664_impl_qwordNames)], narrowed := true }
def FnExactGetRegUptoSaid : Prop := fnExactGetRegUptoRow.holds Tryd.pinned (OpenSpec.upto fnExactGetRegSpec)

/-- 'laws.FnExactSetReg', WHERE WHAT IT READS IS OF BULK AT MOST 1048576: true; the input reads as it did. -/
def fnExactSetRegUptoRow : OpenClaim := { program := "ytbcbepdfijcbmaadoor", sum := "61b230925dfa36fe98edb9e2bbe0b9c7c40056791865227281fa50aa2b8fc005", func := "loop.example/g00664/laws.FnExactSetReg", spec := "fnExactSetReg", named := ["loop.example/g00664/impl.byteNames", "loop.example/g00664/impl.wordNames", "loop.example/g00664/impl.dwordNames", "loop.example/g00664/impl.qwordNames", "loop.example/g00664/impl.errRange"], ifaces := true, apart := false, laid := [("loop.example/g00664/impl.errRange", laid_loop_example_g00664_impl_errRange), ("loop.example/g00664/impl.byteNames", laid_loop_example_g00664_impl_byteNames), ("loop.example/g00664/impl.wordNames", laid_loop_example_g00664_impl_wordNames), ("loop.example/g00664/impl.dwordNames", laid_loop_example_g00664_impl_dwordNames), ("loop.example/g00664/impl.qwordNames", laid_loop_example_g00664_impl_qwordNames)], narrowed := true }
def FnExactSetRegUptoSaid : Prop := fnExactSetRegUptoRow.holds Tryd.pinned (OpenSpec.upto fnExactSetRegSpec)

/-- 'laws.FnExactAddressOf', WHERE WHAT IT READS IS OF BULK AT MOST 1048576: true; the input reads as it did. -/
def fnExactAddressOfUptoRow : OpenClaim := { program := "ytbcbepdfijcbmaadoor", sum := "61b230925dfa36fe98edb9e2bbe0b9c7c40056791865227281fa50aa2b8fc005", func := "loop.example/g00664/laws.FnExactAddressOf", spec := "fnExactAddressOf", named := ["loop.example/g00664/impl.byteNames", "loop.example/g00664/impl.wordNames", "loop.example/g00664/impl.dwordNames", "loop.example/g00664/impl.qwordNames", "loop.example/g00664/impl.errRange"], ifaces := true, apart := false, laid := [("loop.example/g00664/impl.errRange", laid_loop_example_g00664_impl_errRange), ("loop.example/g00664/impl.byteNames", laid_loop_example_g00664_impl_byteNames), ("loop.example/g00664/impl.wordNames", laid_loop_example_g00664_impl_wordNames), ("loop.example/g00664/impl.dwordNames", laid_loop_example_g00664_impl_dwordNames), ("loop.example/g00664/impl.qwordNames", laid_loop_example_g00664_impl_qwordNames)], narrowed := true }
def FnExactAddressOfUptoSaid : Prop := fnExactAddressOfUptoRow.holds Tryd.pinned (OpenSpec.upto fnExactAddressOfSpec)

/-- 'laws.FnRegs', WHERE WHAT IT READS IS OF BULK AT MOST 1048576: true; the input reads as it did. -/
def fnRegsUptoRow : OpenClaim := { program := "ytbcbepdfijcbmaadoor", sum := "61b230925dfa36fe98edb9e2bbe0b9c7c40056791865227281fa50aa2b8fc005", func := "loop.example/g00664/laws.FnRegs", spec := "fnRegs", inPlace := ["internal/reflectlite.TypeOf"], unfollowed := true, recurses := true, named := ["loop.example/g00664/impl.byteNames", "loop.example/g00664/impl.wordNames", "loop.example/g00664/impl.dwordNames", "loop.example/g00664/impl.qwordNames", "loop.example/g00664/impl.errRange", "loop.example/g00664/impl.errEnd"], ifaces := true, apart := false, laid := [("loop.example/g00664/impl.errRange", laid_loop_example_g00664_impl_errRange), ("loop.example/g00664/impl.errEnd", laid_loop_example_g00664_impl_errEnd), ("loop.example/g00664/impl.byteNames", laid_loop_example_g00664_impl_byteNames), ("loop.example/g00664/impl.wordNames", laid_loop_example_g00664_impl_wordNames), ("loop.example/g00664/impl.dwordNames", laid_loop_example_g00664_impl_dwordNames), ("loop.example/g00664/impl.qwordNames", laid_loop_example_g00664_impl_qwordNames)], narrowed := true }
def FnRegsUptoSaid : Prop := fnRegsUptoRow.holds Tryd.pinned (OpenSpec.upto fnRegsSpec)

/-- 'laws.FnExactDivide', WHERE WHAT IT READS IS OF BULK AT MOST 1048576: true; the input reads as it did. -/
def fnExactDivideUptoRow : OpenClaim := { program := "ytbcbepdfijcbmaadoor", sum := "61b230925dfa36fe98edb9e2bbe0b9c7c40056791865227281fa50aa2b8fc005", func := "loop.example/g00664/laws.FnExactDivide", spec := "fnExactDivide", unfollowed := true, recurses := true, named := ["loop.example/g00664/impl.errRange", "math/bits.divideError", "math/bits.overflowError"], ifaces := true, apart := false, laid := [("loop.example/g00664/impl.errRange", laid_loop_example_g00664_impl_errRange)], narrowed := true }
def FnExactDivideUptoSaid : Prop := fnExactDivideUptoRow.holds Tryd.pinned (OpenSpec.upto fnExactDivideSpec)

/-- 'laws.FnProducts', WHERE WHAT IT READS IS OF BULK AT MOST 1048576: true; the input reads as it did. -/
def fnProductsUptoRow : OpenClaim := { program := "ytbcbepdfijcbmaadoor", sum := "61b230925dfa36fe98edb9e2bbe0b9c7c40056791865227281fa50aa2b8fc005", func := "loop.example/g00664/laws.FnProducts", spec := "fnProducts", unfollowed := true, recurses := true, named := ["loop.example/g00664/impl.errRange", "math/bits.divideError", "math/bits.overflowError"], ifaces := true, apart := false, laid := [("loop.example/g00664/impl.errRange", laid_loop_example_g00664_impl_errRange)], narrowed := true }
def FnProductsUptoSaid : Prop := fnProductsUptoRow.holds Tryd.pinned (OpenSpec.upto fnProductsSpec)

end Rows
end Go.Proofs.YtbcbepdfijcbmaaDoor
