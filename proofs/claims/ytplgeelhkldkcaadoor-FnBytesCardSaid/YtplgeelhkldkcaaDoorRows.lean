/-
  NARROWER THAN 'FOR EVERY INPUT', by the rows' own cells (each row's printed sentence says how): FnBytes: ifaces, laid · FnExactSignOf: ifaces, laid · FnExactZeroOf: ifaces, laid · FnExactPutLittle: ifaces, laid · FnExactTakeLittle: ifaces, laid.
  DERIVED. THE GIVEN ROWS OF THIS SEAT. 5 by the template 'for every input the law returns true; each argument reads behind the call as it read before'; 0 by the template 'total and deterministic' (their statements: YtplgeelhkldkcaaDoorTotals.lean).
  GIVEN WITH THE SEED: the statements are not yours to turn. If you find one false, say at which input.
  Laid BY PROGRAM, IN A SANDBOX (cutbox-rows.mjs): the forced cells as the released guide's own fill.sh prints them over the translation 14c317a72b239abc… (all of the seat's roots in one cut). By AI agents, Wed Nov 11 2026. No macro, syntax, notation, axiom, sorry.
-/
import Derived.Test.YtplgeelhkldkcaaDoorChecked
import GoSem.Claim
import GoSem.ClaimJoined
import GoSem.ClaimMapViews
import Derived.JoinedTies
import Derived.KernelRfl
namespace Go.Proofs.YtplgeelhkldkcaaDoor
/- THE CELL 'sum', in the pinned program and in every row, IS THE sha256 OF THE DUMP (.gsa) THAT YtplgeelhkldkcaaDoorProg.lean LOADS. Nothing in Lean hashes anything: it is a label: what it is worth is what the hold of that sum in a sandbox is worth. -/
noncomputable def Tryd.pinned : Pinned := { name := "ytplgeelhkldkcaadoor", sum := "14c317a72b239abc1608c8bb9359d46cedca9aac3fa2c974ef3e0c012ce7c0fb", checked := Tryd.checked }
namespace Rows
def none {H : Type} : Left H := { results := [], args := [] }

/- WHAT THE LISTED PACKAGE-LEVEL VARIABLES READ AS WHEN THE CALL BEGINS. Each datum BY PROGRAM (the guide's laid-datum.mjs) off the statement by which the dump's own 'gosem.cut.vars' lays the variable. In a bare row this is a premise. The card (YtplgeelhkldkcaaDoorCards.lean) ties it to the program's text. -/
def laid_loop_example_g00664_impl_errRange {H : Type} : DataW H := .iface "*errors.errorString" (.ptr (.agg [.lit (.string [111, 117, 116, 32, 111, 102, 32, 105, 116, 115, 32, 98, 111, 117, 110, 100, 115])]))
def laid_loop_example_g00664_impl_errEnd {H : Type} : DataW H := .iface "*errors.errorString" (.ptr (.agg [.lit (.string [99, 117, 116, 32, 111, 102, 102])]))

/-- 'laws.FnBytes': WHATEVER THE INPUT: true; the input reads as it did. -/
def fnBytesSpec : ChangeSpec := { name := "fnBytes", vars := ["loop.example/g00664/impl.errRange", "loop.example/g00664/impl.errEnd"], fn := fun _ => fun
  | [d1, d2, g1, g2] => { results := [.lit (.bool true)], args := [d1, d2], vars := [g1, g2] }
  | _ => none }
def fnBytesRow : OpenClaim := { program := "ytplgeelhkldkcaadoor", sum := "14c317a72b239abc1608c8bb9359d46cedca9aac3fa2c974ef3e0c012ce7c0fb", func := "loop.example/g00664/laws.FnBytes", spec := "fnBytes", inPlace := ["internal/reflectlite.TypeOf"], unfollowed := true, recurses := true, named := ["loop.example/g00664/impl.errRange", "loop.example/g00664/impl.errEnd"], ifaces := true, apart := false, laid := [("loop.example/g00664/impl.errRange", laid_loop_example_g00664_impl_errRange), ("loop.example/g00664/impl.errEnd", laid_loop_example_g00664_impl_errEnd)] }
def FnBytesSaid : Prop := fnBytesRow.holds Tryd.pinned (OpenSpec.ofChange fnBytesSpec)

/-- ITS FALSE NEIGHBOUR: 'it returns false'. Refute it at one input. -/
def fnBytesWrong : ChangeSpec := { name := "fnBytes", vars := ["loop.example/g00664/impl.errRange", "loop.example/g00664/impl.errEnd"], fn := fun _ => fun
  | [d1, d2, g1, g2] => { results := [.lit (.bool false)], args := [d1, d2], vars := [g1, g2] }
  | _ => none }
def FnBytesWrongFalsely : Prop := fnBytesRow.holds Tryd.pinned (OpenSpec.ofChange fnBytesWrong)

/-- 'laws.FnExactSignOf': WHATEVER THE INPUT: true; the input reads as it did. -/
def fnExactSignOfSpec : ChangeSpec := { name := "fnExactSignOf", vars := ["loop.example/g00664/impl.errRange", "loop.example/g00664/impl.errEnd"], fn := fun _ => fun
  | [d1, d2, g1, g2] => { results := [.lit (.bool true)], args := [d1, d2], vars := [g1, g2] }
  | _ => none }
def fnExactSignOfRow : OpenClaim := { program := "ytplgeelhkldkcaadoor", sum := "14c317a72b239abc1608c8bb9359d46cedca9aac3fa2c974ef3e0c012ce7c0fb", func := "loop.example/g00664/laws.FnExactSignOf", spec := "fnExactSignOf", inPlace := ["internal/reflectlite.TypeOf"], unfollowed := true, recurses := true, named := ["loop.example/g00664/impl.errRange", "loop.example/g00664/impl.errEnd"], ifaces := true, apart := false, laid := [("loop.example/g00664/impl.errRange", laid_loop_example_g00664_impl_errRange), ("loop.example/g00664/impl.errEnd", laid_loop_example_g00664_impl_errEnd)] }
def FnExactSignOfSaid : Prop := fnExactSignOfRow.holds Tryd.pinned (OpenSpec.ofChange fnExactSignOfSpec)

/-- ITS FALSE NEIGHBOUR: 'it returns false'. Refute it at one input. -/
def fnExactSignOfWrong : ChangeSpec := { name := "fnExactSignOf", vars := ["loop.example/g00664/impl.errRange", "loop.example/g00664/impl.errEnd"], fn := fun _ => fun
  | [d1, d2, g1, g2] => { results := [.lit (.bool false)], args := [d1, d2], vars := [g1, g2] }
  | _ => none }
def FnExactSignOfWrongFalsely : Prop := fnExactSignOfRow.holds Tryd.pinned (OpenSpec.ofChange fnExactSignOfWrong)

/-- 'laws.FnExactZeroOf': WHATEVER THE INPUT: true; the input reads as it did. -/
def fnExactZeroOfSpec : ChangeSpec := { name := "fnExactZeroOf", vars := ["loop.example/g00664/impl.errRange", "loop.example/g00664/impl.errEnd"], fn := fun _ => fun
  | [d1, d2, g1, g2] => { results := [.lit (.bool true)], args := [d1, d2], vars := [g1, g2] }
  | _ => none }
def fnExactZeroOfRow : OpenClaim := { program := "ytplgeelhkldkcaadoor", sum := "14c317a72b239abc1608c8bb9359d46cedca9aac3fa2c974ef3e0c012ce7c0fb", func := "loop.example/g00664/laws.FnExactZeroOf", spec := "fnExactZeroOf", inPlace := ["internal/reflectlite.TypeOf"], unfollowed := true, recurses := true, named := ["loop.example/g00664/impl.errRange", "loop.example/g00664/impl.errEnd"], ifaces := true, apart := false, laid := [("loop.example/g00664/impl.errRange", laid_loop_example_g00664_impl_errRange), ("loop.example/g00664/impl.errEnd", laid_loop_example_g00664_impl_errEnd)] }
def FnExactZeroOfSaid : Prop := fnExactZeroOfRow.holds Tryd.pinned (OpenSpec.ofChange fnExactZeroOfSpec)

/-- ITS FALSE NEIGHBOUR: 'it returns false'. Refute it at one input. -/
def fnExactZeroOfWrong : ChangeSpec := { name := "fnExactZeroOf", vars := ["loop.example/g00664/impl.errRange", "loop.example/g00664/impl.errEnd"], fn := fun _ => fun
  | [d1, d2, g1, g2] => { results := [.lit (.bool false)], args := [d1, d2], vars := [g1, g2] }
  | _ => none }
def FnExactZeroOfWrongFalsely : Prop := fnExactZeroOfRow.holds Tryd.pinned (OpenSpec.ofChange fnExactZeroOfWrong)

/-- 'laws.FnExactPutLittle': WHATEVER THE INPUT: true; the input reads as it did. -/
def fnExactPutLittleSpec : ChangeSpec := { name := "fnExactPutLittle", vars := ["loop.example/g00664/impl.errRange", "loop.example/g00664/impl.errEnd"], fn := fun _ => fun
  | [d1, d2, g1, g2] => { results := [.lit (.bool true)], args := [d1, d2], vars := [g1, g2] }
  | _ => none }
def fnExactPutLittleRow : OpenClaim := { program := "ytplgeelhkldkcaadoor", sum := "14c317a72b239abc1608c8bb9359d46cedca9aac3fa2c974ef3e0c012ce7c0fb", func := "loop.example/g00664/laws.FnExactPutLittle", spec := "fnExactPutLittle", inPlace := ["internal/reflectlite.TypeOf"], unfollowed := true, recurses := true, named := ["loop.example/g00664/impl.errRange", "loop.example/g00664/impl.errEnd"], ifaces := true, apart := false, laid := [("loop.example/g00664/impl.errRange", laid_loop_example_g00664_impl_errRange), ("loop.example/g00664/impl.errEnd", laid_loop_example_g00664_impl_errEnd)] }
def FnExactPutLittleSaid : Prop := fnExactPutLittleRow.holds Tryd.pinned (OpenSpec.ofChange fnExactPutLittleSpec)

/-- ITS FALSE NEIGHBOUR: 'it returns false'. Refute it at one input. -/
def fnExactPutLittleWrong : ChangeSpec := { name := "fnExactPutLittle", vars := ["loop.example/g00664/impl.errRange", "loop.example/g00664/impl.errEnd"], fn := fun _ => fun
  | [d1, d2, g1, g2] => { results := [.lit (.bool false)], args := [d1, d2], vars := [g1, g2] }
  | _ => none }
def FnExactPutLittleWrongFalsely : Prop := fnExactPutLittleRow.holds Tryd.pinned (OpenSpec.ofChange fnExactPutLittleWrong)

/-- 'laws.FnExactTakeLittle': WHATEVER THE INPUT: true; the input reads as it did. -/
def fnExactTakeLittleSpec : ChangeSpec := { name := "fnExactTakeLittle", vars := ["loop.example/g00664/impl.errRange", "loop.example/g00664/impl.errEnd"], fn := fun _ => fun
  | [d1, d2, d3, g1, g2] => { results := [.lit (.bool true)], args := [d1, d2, d3], vars := [g1, g2] }
  | _ => none }
def fnExactTakeLittleRow : OpenClaim := { program := "ytplgeelhkldkcaadoor", sum := "14c317a72b239abc1608c8bb9359d46cedca9aac3fa2c974ef3e0c012ce7c0fb", func := "loop.example/g00664/laws.FnExactTakeLittle", spec := "fnExactTakeLittle", inPlace := ["internal/reflectlite.TypeOf"], unfollowed := true, recurses := true, named := ["loop.example/g00664/impl.errRange", "loop.example/g00664/impl.errEnd"], ifaces := true, apart := false, laid := [("loop.example/g00664/impl.errRange", laid_loop_example_g00664_impl_errRange), ("loop.example/g00664/impl.errEnd", laid_loop_example_g00664_impl_errEnd)] }
def FnExactTakeLittleSaid : Prop := fnExactTakeLittleRow.holds Tryd.pinned (OpenSpec.ofChange fnExactTakeLittleSpec)

/-- ITS FALSE NEIGHBOUR: 'it returns false'. Refute it at one input. -/
def fnExactTakeLittleWrong : ChangeSpec := { name := "fnExactTakeLittle", vars := ["loop.example/g00664/impl.errRange", "loop.example/g00664/impl.errEnd"], fn := fun _ => fun
  | [d1, d2, d3, g1, g2] => { results := [.lit (.bool false)], args := [d1, d2, d3], vars := [g1, g2] }
  | _ => none }
def FnExactTakeLittleWrongFalsely : Prop := fnExactTakeLittleRow.holds Tryd.pinned (OpenSpec.ofChange fnExactTakeLittleWrong)

/- THE SECOND FORM. 'bulk': how many values and letters a reading holds, each counted each time it is reached (what is shared counts as often as it is met; a slice's spare places count too). A statement '..UptoSaid' is the law's where the arguments, and the package variables that the reading takes, are together of bulk at most 1048576: NARROWER than '..Said'. Prove '..Said' where nothing that the law and all that it calls make is longer than what came in: it says more and counts as full. Else prove '..UptoSaid'. A law counts once. -/
mutual
def uptoBulk {H : Type} : DataW H → Nat
  | .lit (.string bytes) => bytes.length + 1
  | .lit _ => 1
  | .nil => 1
  | .ptr d => uptoBulk d + 1
  | .slice elems spare => uptoBulkAll elems + uptoBulkAll spare + 1
  | .agg parts => uptoBulkAll parts + 1
  | .iface _ d => uptoBulk d + 1
  | .map entries => uptoBulkEntries entries + 1
  | .held _ => 1
def uptoBulkAll {H : Type} : List (DataW H) → Nat
  | [] => 0
  | d :: r => uptoBulk d + uptoBulkAll r
def uptoBulkEntries {H : Type} : List (Lit × DataW H) → Nat
  | [] => 0
  | x :: r => uptoBulkEntry x + uptoBulkEntries r
def uptoBulkEntry {H : Type} : Lit × DataW H → Nat
  | (.string bytes, d) => bytes.length + uptoBulk d + 1
  | (_, d) => uptoBulk d + 1
 end
def uptoSmall : (H : Type) → List (DataW H) → Bool := fun _ ds => decide (uptoBulkAll ds ≤ 1048576)
def OpenSpec.upto (s : _root_.Go.ChangeSpec) : _root_.Go.OpenSpec := { _root_.Go.OpenSpec.ofChange s with cond := some uptoSmall }

/-- 'laws.FnBytes', WHERE WHAT IT READS IS OF BULK AT MOST 1048576: true; the input reads as it did. -/
def fnBytesUptoRow : OpenClaim := { program := "ytplgeelhkldkcaadoor", sum := "14c317a72b239abc1608c8bb9359d46cedca9aac3fa2c974ef3e0c012ce7c0fb", func := "loop.example/g00664/laws.FnBytes", spec := "fnBytes", inPlace := ["internal/reflectlite.TypeOf"], unfollowed := true, recurses := true, named := ["loop.example/g00664/impl.errRange", "loop.example/g00664/impl.errEnd"], ifaces := true, apart := false, laid := [("loop.example/g00664/impl.errRange", laid_loop_example_g00664_impl_errRange), ("loop.example/g00664/impl.errEnd", laid_loop_example_g00664_impl_errEnd)], narrowed := true }
def FnBytesUptoSaid : Prop := fnBytesUptoRow.holds Tryd.pinned (OpenSpec.upto fnBytesSpec)

/-- 'laws.FnExactSignOf', WHERE WHAT IT READS IS OF BULK AT MOST 1048576: true; the input reads as it did. -/
def fnExactSignOfUptoRow : OpenClaim := { program := "ytplgeelhkldkcaadoor", sum := "14c317a72b239abc1608c8bb9359d46cedca9aac3fa2c974ef3e0c012ce7c0fb", func := "loop.example/g00664/laws.FnExactSignOf", spec := "fnExactSignOf", inPlace := ["internal/reflectlite.TypeOf"], unfollowed := true, recurses := true, named := ["loop.example/g00664/impl.errRange", "loop.example/g00664/impl.errEnd"], ifaces := true, apart := false, laid := [("loop.example/g00664/impl.errRange", laid_loop_example_g00664_impl_errRange), ("loop.example/g00664/impl.errEnd", laid_loop_example_g00664_impl_errEnd)], narrowed := true }
def FnExactSignOfUptoSaid : Prop := fnExactSignOfUptoRow.holds Tryd.pinned (OpenSpec.upto fnExactSignOfSpec)

/-- 'laws.FnExactZeroOf', WHERE WHAT IT READS IS OF BULK AT MOST 1048576: true; the input reads as it did. -/
def fnExactZeroOfUptoRow : OpenClaim := { program := "ytplgeelhkldkcaadoor", sum := "14c317a72b239abc1608c8bb9359d46cedca9aac3fa2c974ef3e0c012ce7c0fb", func := "loop.example/g00664/laws.FnExactZeroOf", spec := "fnExactZeroOf", inPlace := ["internal/reflectlite.TypeOf"], unfollowed := true, recurses := true, named := ["loop.example/g00664/impl.errRange", "loop.example/g00664/impl.errEnd"], ifaces := true, apart := false, laid := [("loop.example/g00664/impl.errRange", laid_loop_example_g00664_impl_errRange), ("loop.example/g00664/impl.errEnd", laid_loop_example_g00664_impl_errEnd)], narrowed := true }
def FnExactZeroOfUptoSaid : Prop := fnExactZeroOfUptoRow.holds Tryd.pinned (OpenSpec.upto fnExactZeroOfSpec)

/-- 'laws.FnExactPutLittle', WHERE WHAT IT READS IS OF BULK AT MOST 1048576: true; the input reads as it did. -/
def fnExactPutLittleUptoRow : OpenClaim := { program := "ytplgeelhkldkcaadoor", sum := "14c317a72b239abc1608c8bb9359d46cedca9aac3fa2c974ef3e0c012ce7c0fb", func := "loop.example/g00664/laws.FnExactPutLittle", spec := "fnExactPutLittle", inPlace := ["internal/reflectlite.TypeOf"], unfollowed := true, recurses := true, named := ["loop.example/g00664/impl.errRange", "loop.example/g00664/impl.errEnd"], ifaces := true, apart := false, laid := [("loop.example/g00664/impl.errRange", laid_loop_example_g00664_impl_errRange), ("loop.example/g00664/impl.errEnd", laid_loop_example_g00664_impl_errEnd)], narrowed := true }
def FnExactPutLittleUptoSaid : Prop := fnExactPutLittleUptoRow.holds Tryd.pinned (OpenSpec.upto fnExactPutLittleSpec)

/-- 'laws.FnExactTakeLittle', WHERE WHAT IT READS IS OF BULK AT MOST 1048576: true; the input reads as it did. -/
def fnExactTakeLittleUptoRow : OpenClaim := { program := "ytplgeelhkldkcaadoor", sum := "14c317a72b239abc1608c8bb9359d46cedca9aac3fa2c974ef3e0c012ce7c0fb", func := "loop.example/g00664/laws.FnExactTakeLittle", spec := "fnExactTakeLittle", inPlace := ["internal/reflectlite.TypeOf"], unfollowed := true, recurses := true, named := ["loop.example/g00664/impl.errRange", "loop.example/g00664/impl.errEnd"], ifaces := true, apart := false, laid := [("loop.example/g00664/impl.errRange", laid_loop_example_g00664_impl_errRange), ("loop.example/g00664/impl.errEnd", laid_loop_example_g00664_impl_errEnd)], narrowed := true }
def FnExactTakeLittleUptoSaid : Prop := fnExactTakeLittleUptoRow.holds Tryd.pinned (OpenSpec.upto fnExactTakeLittleSpec)

end Rows
end Go.Proofs.YtplgeelhkldkcaaDoor
