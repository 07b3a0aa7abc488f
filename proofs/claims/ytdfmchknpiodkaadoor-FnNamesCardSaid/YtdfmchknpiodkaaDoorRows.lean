/-
  NARROWER THAN 'FOR EVERY INPUT', by the rows' own cells (each row's printed sentence says how): FnNames: laid · FnExactShapeOf: laid · FnExactGroupOp: laid · FnExactOpName: laid · FnExactOpOf: laid · FnExactCondName: laid · FnExactCondOf: laid · FnExactRegName: laid · FnExactRegOf: laid.
  DERIVED. THE GIVEN ROWS OF THIS SEAT. 9 by the template 'for every input the law returns true; each argument reads behind the call as it read before'; 0 by the template 'total and deterministic' (their statements: YtdfmchknpiodkaaDoorTotals.lean).
  GIVEN WITH THE SEED: the statements are not yours to turn. If you find one false, say at which input.
  Laid BY PROGRAM, IN A SANDBOX (cutbox-rows.mjs): the forced cells as the released guide's own fill.sh prints them over the translation 998ca19d5c71acfa… (all of the seat's roots in one cut). By AI agents, Wed Nov 11 2026. No macro, syntax, notation, axiom, sorry.
-/
import Derived.Test.YtdfmchknpiodkaaDoorChecked
import GoSem.Claim
import GoSem.ClaimJoined
import GoSem.ClaimMapViews
import Derived.JoinedTies
import Derived.KernelRfl
namespace Go.Proofs.YtdfmchknpiodkaaDoor
/- THE CELL 'sum', in the pinned program and in every row, IS THE sha256 OF THE DUMP (.gsa) THAT YtdfmchknpiodkaaDoorProg.lean LOADS. Nothing in Lean hashes anything: it is a label: what it is worth is what the hold of that sum in a sandbox is worth. -/
noncomputable def Tryd.pinned : Pinned := { name := "ytdfmchknpiodkaadoor", sum := "998ca19d5c71acfa5f2a494441c7ecc01ca0f2c00a1804c9f6992e1ec9911dee", checked := Tryd.checked }
namespace Rows
def none {H : Type} : Left H := { results := [], args := [] }

/- WHAT THE LISTED PACKAGE-LEVEL VARIABLES READ AS WHEN THE CALL BEGINS. Each datum BY PROGRAM (the guide's laid-datum.mjs) off the statement by which the dump's own 'gosem.cut.vars' lays the variable. In a bare row this is a premise. The card (YtdfmchknpiodkaaDoorCards.lean) ties it to the program's text. -/
def laid_loop_example_g00664_impl_opNames {H : Type} : DataW H := .agg [.lit (.string [97, 100, 100]), .lit (.string [111, 114]), .lit (.string [97, 100, 99]), .lit (.string [115, 98, 98]), .lit (.string [97, 110, 100]), .lit (.string [115, 117, 98]), .lit (.string [120, 111, 114]), .lit (.string [99, 109, 112]), .lit (.string [109, 111, 118]), .lit (.string [116, 101, 115, 116]), .lit (.string [110, 111, 116]), .lit (.string [110, 101, 103]), .lit (.string [109, 117, 108]), .lit (.string [105, 109, 117, 108, 49]), .lit (.string [100, 105, 118]), .lit (.string [105, 100, 105, 118]), .lit (.string [105, 109, 117, 108]), .lit (.string [105, 110, 99]), .lit (.string [100, 101, 99]), .lit (.string [114, 111, 108]), .lit (.string [114, 111, 114]), .lit (.string [115, 104, 108]), .lit (.string [115, 104, 114]), .lit (.string [115, 97, 114]), .lit (.string [108, 101, 97]), .lit (.string [109, 111, 118, 122, 120]), .lit (.string [109, 111, 118, 115, 120]), .lit (.string [120, 99, 104, 103]), .lit (.string [112, 117, 115, 104]), .lit (.string [112, 111, 112]), .lit (.string [99, 97, 108, 108]), .lit (.string [106, 109, 112]), .lit (.string [106, 99, 99]), .lit (.string [114, 101, 116]), .lit (.string [115, 101, 116, 99, 99]), .lit (.string [99, 109, 111, 118]), .lit (.string [110, 111, 112]), .lit (.string [104, 108, 116]), .lit (.string [99, 119, 105, 100, 101]), .lit (.string [99, 115, 105, 103, 110]), .lit (.string [115, 116, 111, 115]), .lit (.string [109, 111, 118, 115]), .lit (.string [115, 121, 115, 99, 97, 108, 108]), .lit (.string [105, 110, 116])]
def laid_loop_example_g00664_impl_condNames {H : Type} : DataW H := .agg [.lit (.string [111]), .lit (.string [110, 111]), .lit (.string [98]), .lit (.string [97, 101]), .lit (.string [101]), .lit (.string [110, 101]), .lit (.string [98, 101]), .lit (.string [97]), .lit (.string [115]), .lit (.string [110, 115]), .lit (.string [112]), .lit (.string [110, 112]), .lit (.string [108]), .lit (.string [103, 101]), .lit (.string [108, 101]), .lit (.string [103])]
def laid_loop_example_g00664_impl_byteNames {H : Type} : DataW H := .agg [.lit (.string [97, 108]), .lit (.string [99, 108]), .lit (.string [100, 108]), .lit (.string [98, 108]), .lit (.string [115, 112, 108]), .lit (.string [98, 112, 108]), .lit (.string [115, 105, 108]), .lit (.string [100, 105, 108]), .lit (.string [114, 56, 98]), .lit (.string [114, 57, 98]), .lit (.string [114, 49, 48, 98]), .lit (.string [114, 49, 49, 98]), .lit (.string [114, 49, 50, 98]), .lit (.string [114, 49, 51, 98]), .lit (.string [114, 49, 52, 98]), .lit (.string [114, 49, 53, 98]), .lit (.string [97, 104]), .lit (.string [99, 104]), .lit (.string [100, 104]), .lit (.string [98, 104])]
def laid_loop_example_g00664_impl_wordNames {H : Type} : DataW H := .agg [.lit (.string [97, 120]), .lit (.string [99, 120]), .lit (.string [100, 120]), .lit (.string [98, 120]), .lit (.string [115, 112]), .lit (.string [98, 112]), .lit (.string [115, 105]), .lit (.string [100, 105]), .lit (.string [114, 56, 119]), .lit (.string [114, 57, 119]), .lit (.string [114, 49, 48, 119]), .lit (.string [114, 49, 49, 119]), .lit (.string [114, 49, 50, 119]), .lit (.string [114, 49, 51, 119]), .lit (.string [114, 49, 52, 119]), .lit (.string [114, 49, 53, 119])]
def laid_loop_example_g00664_impl_dwordNames {H : Type} : DataW H := .agg [.lit (.string [101, 97, 120]), .lit (.string [101, 99, 120]), .lit (.string [101, 100, 120]), .lit (.string [101, 98, 120]), .lit (.string [101, 115, 112]), .lit (.string [101, 98, 112]), .lit (.string [101, 115, 105]), .lit (.string [101, 100, 105]), .lit (.string [114, 56, 100]), .lit (.string [114, 57, 100]), .lit (.string [114, 49, 48, 100]), .lit (.string [114, 49, 49, 100]), .lit (.string [114, 49, 50, 100]), .lit (.string [114, 49, 51, 100]), .lit (.string [114, 49, 52, 100]), .lit (.string [114, 49, 53, 100])]
def laid_loop_example_g00664_impl_qwordNames {H : Type} : DataW H := .agg [.lit (.string [114, 97, 120]), .lit (.string [114, 99, 120]), .lit (.string [114, 100, 120]), .lit (.string [114, 98, 120]), .lit (.string [114, 115, 112]), .lit (.string [114, 98, 112]), .lit (.string [114, 115, 105]), .lit (.string [114, 100, 105]), .lit (.string [114, 56]), .lit (.string [114, 57]), .lit (.string [114, 49, 48]), .lit (.string [114, 49, 49]), .lit (.string [114, 49, 50]), .lit (.string [114, 49, 51]), .lit (.string [114, 49, 52]), .lit (.string [114, 49, 53])]
def laid_loop_example_g00664_impl_groupOps {H : Type} : DataW H := .agg [.agg [.lit (.int .i64 1), .lit (.int .i64 2), .lit (.int .i64 3), .lit (.int .i64 4), .lit (.int .i64 5), .lit (.int .i64 6), .lit (.int .i64 7), .lit (.int .i64 8)], .agg [.lit (.int .i64 20), .lit (.int .i64 21), .lit (.int .i64 0), .lit (.int .i64 0), .lit (.int .i64 22), .lit (.int .i64 23), .lit (.int .i64 0), .lit (.int .i64 24)], .agg [.lit (.int .i64 10), .lit (.int .i64 0), .lit (.int .i64 11), .lit (.int .i64 12), .lit (.int .i64 13), .lit (.int .i64 14), .lit (.int .i64 15), .lit (.int .i64 16)], .agg [.lit (.int .i64 18), .lit (.int .i64 19), .lit (.int .i64 0), .lit (.int .i64 0), .lit (.int .i64 0), .lit (.int .i64 0), .lit (.int .i64 0), .lit (.int .i64 0)], .agg [.lit (.int .i64 18), .lit (.int .i64 19), .lit (.int .i64 31), .lit (.int .i64 0), .lit (.int .i64 32), .lit (.int .i64 0), .lit (.int .i64 29), .lit (.int .i64 0)], .agg [.lit (.int .i64 30), .lit (.int .i64 0), .lit (.int .i64 0), .lit (.int .i64 0), .lit (.int .i64 0), .lit (.int .i64 0), .lit (.int .i64 0), .lit (.int .i64 0)], .agg [.lit (.int .i64 9), .lit (.int .i64 0), .lit (.int .i64 0), .lit (.int .i64 0), .lit (.int .i64 0), .lit (.int .i64 0), .lit (.int .i64 0), .lit (.int .i64 0)]]
def laid_loop_example_g00664_impl_arithShapes {H : Type} : DataW H := .agg [.agg [.lit (.int .i64 0), .lit (.int .i64 1), .lit (.int .i64 0), .lit (.bool true), .lit (.int .i64 0)], .agg [.lit (.int .i64 0), .lit (.int .i64 1), .lit (.int .i64 0), .lit (.bool false), .lit (.int .i64 0)], .agg [.lit (.int .i64 0), .lit (.int .i64 2), .lit (.int .i64 0), .lit (.bool true), .lit (.int .i64 0)], .agg [.lit (.int .i64 0), .lit (.int .i64 2), .lit (.int .i64 0), .lit (.bool false), .lit (.int .i64 0)], .agg [.lit (.int .i64 0), .lit (.int .i64 3), .lit (.int .i64 0), .lit (.bool true), .lit (.int .i64 0)], .agg [.lit (.int .i64 0), .lit (.int .i64 3), .lit (.int .i64 0), .lit (.bool false), .lit (.int .i64 0)]]

/-- 'laws.FnNames': WHATEVER THE INPUT: true; the input reads as it did. -/
def fnNamesSpec : ChangeSpec := { name := "fnNames", vars := ["loop.example/g00664/impl.byteNames", "loop.example/g00664/impl.wordNames", "loop.example/g00664/impl.dwordNames", "loop.example/g00664/impl.qwordNames", "loop.example/g00664/impl.arithShapes", "loop.example/g00664/impl.groupOps", "loop.example/g00664/impl.opNames", "loop.example/g00664/impl.condNames"], fn := fun _ => fun
  | [d1, d2, g1, g2, g3, g4, g5, g6, g7, g8] => { results := [.lit (.bool true)], args := [d1, d2], vars := [g1, g2, g3, g4, g5, g6, g7, g8] }
  | _ => none }
def fnNamesRow : OpenClaim := { program := "ytdfmchknpiodkaadoor", sum := "998ca19d5c71acfa5f2a494441c7ecc01ca0f2c00a1804c9f6992e1ec9911dee", func := "loop.example/g00664/laws.FnNames", spec := "fnNames", unfollowed := true, recurses := true, named := ["loop.example/g00664/impl.byteNames", "loop.example/g00664/impl.wordNames", "loop.example/g00664/impl.dwordNames", "loop.example/g00664/impl.qwordNames", "loop.example/g00664/impl.arithShapes", "loop.example/g00664/impl.groupOps", "loop.example/g00664/impl.opNames", "loop.example/g00664/impl.condNames"], apart := false, laid := [("loop.example/g00664/impl.opNames", laid_loop_example_g00664_impl_opNames), ("loop.example/g00664/impl.condNames", laid_loop_example_g00664_impl_condNames), ("loop.example/g00664/impl.byteNames", laid_loop_example_g00664_impl_byteNames), ("loop.example/g00664/impl.wordNames", laid_loop_example_g00664_impl_wordNames), ("loop.example/g00664/impl.dwordNames", laid_loop_example_g00664_impl_dwordNames), ("loop.example/g00664/impl.qwordNames", laid_loop_example_g00664_impl_qwordNames), ("loop.example/g00664/impl.groupOps", laid_loop_example_g00664_impl_groupOps), ("loop.example/g00664/impl.arithShapes", laid_loop_example_g00664_impl_arithShapes)] }
def FnNamesSaid : Prop := fnNamesRow.holds Tryd.pinned (OpenSpec.ofChange fnNamesSpec)

/-- ITS FALSE NEIGHBOUR: 'it returns false'. Refute it at one input. -/
def fnNamesWrong : ChangeSpec := { name := "fnNames", vars := ["loop.example/g00664/impl.byteNames", "loop.example/g00664/impl.wordNames", "loop.example/g00664/impl.dwordNames", "loop.example/g00664/impl.qwordNames", "loop.example/g00664/impl.arithShapes", "loop.example/g00664/impl.groupOps", "loop.example/g00664/impl.opNames", "loop.example/g00664/impl.condNames"], fn := fun _ => fun
  | [d1, d2, g1, g2, g3, g4, g5, g6, g7, g8] => { results := [.lit (.bool false)], args := [d1, d2], vars := [g1, g2, g3, g4, g5, g6, g7, g8] }
  | _ => none }
def FnNamesWrongFalsely : Prop := fnNamesRow.holds Tryd.pinned (OpenSpec.ofChange fnNamesWrong)

/-- 'laws.FnExactShapeOf': WHATEVER THE INPUT: true; the input reads as it did. -/
def fnExactShapeOfSpec : ChangeSpec := { name := "fnExactShapeOf", vars := ["loop.example/g00664/impl.arithShapes"], fn := fun _ => fun
  | [d1, d2, g1] => { results := [.lit (.bool true)], args := [d1, d2], vars := [g1] }
  | _ => none }
def fnExactShapeOfRow : OpenClaim := { program := "ytdfmchknpiodkaadoor", sum := "998ca19d5c71acfa5f2a494441c7ecc01ca0f2c00a1804c9f6992e1ec9911dee", func := "loop.example/g00664/laws.FnExactShapeOf", spec := "fnExactShapeOf", unfollowed := true, recurses := true, named := ["loop.example/g00664/impl.arithShapes"], apart := false, laid := [("loop.example/g00664/impl.arithShapes", laid_loop_example_g00664_impl_arithShapes)] }
def FnExactShapeOfSaid : Prop := fnExactShapeOfRow.holds Tryd.pinned (OpenSpec.ofChange fnExactShapeOfSpec)

/-- ITS FALSE NEIGHBOUR: 'it returns false'. Refute it at one input. -/
def fnExactShapeOfWrong : ChangeSpec := { name := "fnExactShapeOf", vars := ["loop.example/g00664/impl.arithShapes"], fn := fun _ => fun
  | [d1, d2, g1] => { results := [.lit (.bool false)], args := [d1, d2], vars := [g1] }
  | _ => none }
def FnExactShapeOfWrongFalsely : Prop := fnExactShapeOfRow.holds Tryd.pinned (OpenSpec.ofChange fnExactShapeOfWrong)

/-- 'laws.FnExactGroupOp': WHATEVER THE INPUT: true; the input reads as it did. -/
def fnExactGroupOpSpec : ChangeSpec := { name := "fnExactGroupOp", vars := ["loop.example/g00664/impl.groupOps"], fn := fun _ => fun
  | [d1, d2, g1] => { results := [.lit (.bool true)], args := [d1, d2], vars := [g1] }
  | _ => none }
def fnExactGroupOpRow : OpenClaim := { program := "ytdfmchknpiodkaadoor", sum := "998ca19d5c71acfa5f2a494441c7ecc01ca0f2c00a1804c9f6992e1ec9911dee", func := "loop.example/g00664/laws.FnExactGroupOp", spec := "fnExactGroupOp", named := ["loop.example/g00664/impl.groupOps"], apart := false, laid := [("loop.example/g00664/impl.groupOps", laid_loop_example_g00664_impl_groupOps)] }
def FnExactGroupOpSaid : Prop := fnExactGroupOpRow.holds Tryd.pinned (OpenSpec.ofChange fnExactGroupOpSpec)

/-- ITS FALSE NEIGHBOUR: 'it returns false'. Refute it at one input. -/
def fnExactGroupOpWrong : ChangeSpec := { name := "fnExactGroupOp", vars := ["loop.example/g00664/impl.groupOps"], fn := fun _ => fun
  | [d1, d2, g1] => { results := [.lit (.bool false)], args := [d1, d2], vars := [g1] }
  | _ => none }
def FnExactGroupOpWrongFalsely : Prop := fnExactGroupOpRow.holds Tryd.pinned (OpenSpec.ofChange fnExactGroupOpWrong)

/-- 'laws.FnExactOpName': WHATEVER THE INPUT: true; the input reads as it did. -/
def fnExactOpNameSpec : ChangeSpec := { name := "fnExactOpName", vars := ["loop.example/g00664/impl.opNames"], fn := fun _ => fun
  | [d, g1] => { results := [.lit (.bool true)], args := [d], vars := [g1] }
  | _ => none }
def fnExactOpNameRow : OpenClaim := { program := "ytdfmchknpiodkaadoor", sum := "998ca19d5c71acfa5f2a494441c7ecc01ca0f2c00a1804c9f6992e1ec9911dee", func := "loop.example/g00664/laws.FnExactOpName", spec := "fnExactOpName", named := ["loop.example/g00664/impl.opNames"], apart := false, laid := [("loop.example/g00664/impl.opNames", laid_loop_example_g00664_impl_opNames)] }
def FnExactOpNameSaid : Prop := fnExactOpNameRow.holds Tryd.pinned (OpenSpec.ofChange fnExactOpNameSpec)

/-- ITS FALSE NEIGHBOUR: 'it returns false'. Refute it at one input. -/
def fnExactOpNameWrong : ChangeSpec := { name := "fnExactOpName", vars := ["loop.example/g00664/impl.opNames"], fn := fun _ => fun
  | [d, g1] => { results := [.lit (.bool false)], args := [d], vars := [g1] }
  | _ => none }
def FnExactOpNameWrongFalsely : Prop := fnExactOpNameRow.holds Tryd.pinned (OpenSpec.ofChange fnExactOpNameWrong)

/-- 'laws.FnExactOpOf': WHATEVER THE INPUT: true; the input reads as it did. -/
def fnExactOpOfSpec : ChangeSpec := { name := "fnExactOpOf", vars := ["loop.example/g00664/impl.opNames"], fn := fun _ => fun
  | [d, g1] => { results := [.lit (.bool true)], args := [d], vars := [g1] }
  | _ => none }
def fnExactOpOfRow : OpenClaim := { program := "ytdfmchknpiodkaadoor", sum := "998ca19d5c71acfa5f2a494441c7ecc01ca0f2c00a1804c9f6992e1ec9911dee", func := "loop.example/g00664/laws.FnExactOpOf", spec := "fnExactOpOf", named := ["loop.example/g00664/impl.opNames"], apart := false, laid := [("loop.example/g00664/impl.opNames", laid_loop_example_g00664_impl_opNames)] }
def FnExactOpOfSaid : Prop := fnExactOpOfRow.holds Tryd.pinned (OpenSpec.ofChange fnExactOpOfSpec)

/-- ITS FALSE NEIGHBOUR: 'it returns false'. Refute it at one input. -/
def fnExactOpOfWrong : ChangeSpec := { name := "fnExactOpOf", vars := ["loop.example/g00664/impl.opNames"], fn := fun _ => fun
  | [d, g1] => { results := [.lit (.bool false)], args := [d], vars := [g1] }
  | _ => none }
def FnExactOpOfWrongFalsely : Prop := fnExactOpOfRow.holds Tryd.pinned (OpenSpec.ofChange fnExactOpOfWrong)

/-- 'laws.FnExactCondName': WHATEVER THE INPUT: true; the input reads as it did. -/
def fnExactCondNameSpec : ChangeSpec := { name := "fnExactCondName", vars := ["loop.example/g00664/impl.condNames"], fn := fun _ => fun
  | [d, g1] => { results := [.lit (.bool true)], args := [d], vars := [g1] }
  | _ => none }
def fnExactCondNameRow : OpenClaim := { program := "ytdfmchknpiodkaadoor", sum := "998ca19d5c71acfa5f2a494441c7ecc01ca0f2c00a1804c9f6992e1ec9911dee", func := "loop.example/g00664/laws.FnExactCondName", spec := "fnExactCondName", named := ["loop.example/g00664/impl.condNames"], apart := false, laid := [("loop.example/g00664/impl.condNames", laid_loop_example_g00664_impl_condNames)] }
def FnExactCondNameSaid : Prop := fnExactCondNameRow.holds Tryd.pinned (OpenSpec.ofChange fnExactCondNameSpec)

/-- ITS FALSE NEIGHBOUR: 'it returns false'. Refute it at one input. -/
def fnExactCondNameWrong : ChangeSpec := { name := "fnExactCondName", vars := ["loop.example/g00664/impl.condNames"], fn := fun _ => fun
  | [d, g1] => { results := [.lit (.bool false)], args := [d], vars := [g1] }
  | _ => none }
def FnExactCondNameWrongFalsely : Prop := fnExactCondNameRow.holds Tryd.pinned (OpenSpec.ofChange fnExactCondNameWrong)

/-- 'laws.FnExactCondOf': WHATEVER THE INPUT: true; the input reads as it did. -/
def fnExactCondOfSpec : ChangeSpec := { name := "fnExactCondOf", vars := ["loop.example/g00664/impl.condNames"], fn := fun _ => fun
  | [d, g1] => { results := [.lit (.bool true)], args := [d], vars := [g1] }
  | _ => none }
def fnExactCondOfRow : OpenClaim := { program := "ytdfmchknpiodkaadoor", sum := "998ca19d5c71acfa5f2a494441c7ecc01ca0f2c00a1804c9f6992e1ec9911dee", func := "loop.example/g00664/laws.FnExactCondOf", spec := "fnExactCondOf", named := ["loop.example/g00664/impl.condNames"], apart := false, laid := [("loop.example/g00664/impl.condNames", laid_loop_example_g00664_impl_condNames)] }
def FnExactCondOfSaid : Prop := fnExactCondOfRow.holds Tryd.pinned (OpenSpec.ofChange fnExactCondOfSpec)

/-- ITS FALSE NEIGHBOUR: 'it returns false'. Refute it at one input. -/
def fnExactCondOfWrong : ChangeSpec := { name := "fnExactCondOf", vars := ["loop.example/g00664/impl.condNames"], fn := fun _ => fun
  | [d, g1] => { results := [.lit (.bool false)], args := [d], vars := [g1] }
  | _ => none }
def FnExactCondOfWrongFalsely : Prop := fnExactCondOfRow.holds Tryd.pinned (OpenSpec.ofChange fnExactCondOfWrong)

/-- 'laws.FnExactRegName': WHATEVER THE INPUT: true; the input reads as it did. -/
def fnExactRegNameSpec : ChangeSpec := { name := "fnExactRegName", vars := ["loop.example/g00664/impl.byteNames", "loop.example/g00664/impl.wordNames", "loop.example/g00664/impl.dwordNames", "loop.example/g00664/impl.qwordNames"], fn := fun _ => fun
  | [d1, d2, g1, g2, g3, g4] => { results := [.lit (.bool true)], args := [d1, d2], vars := [g1, g2, g3, g4] }
  | _ => none }
def fnExactRegNameRow : OpenClaim := { program := "ytdfmchknpiodkaadoor", sum := "998ca19d5c71acfa5f2a494441c7ecc01ca0f2c00a1804c9f6992e1ec9911dee", func := "loop.example/g00664/laws.FnExactRegName", spec := "fnExactRegName", recurses := true, named := ["loop.example/g00664/impl.byteNames", "loop.example/g00664/impl.wordNames", "loop.example/g00664/impl.dwordNames", "loop.example/g00664/impl.qwordNames"], apart := false, laid := [("loop.example/g00664/impl.byteNames", laid_loop_example_g00664_impl_byteNames), ("loop.example/g00664/impl.wordNames", laid_loop_example_g00664_impl_wordNames), ("loop.example/g00664/impl.dwordNames", laid_loop_example_g00664_impl_dwordNames), ("loop.example/g00664/impl.qwordNames", laid_loop_example_g00664_impl_qwordNames)] }
def FnExactRegNameSaid : Prop := fnExactRegNameRow.holds Tryd.pinned (OpenSpec.ofChange fnExactRegNameSpec)

/-- ITS FALSE NEIGHBOUR: 'it returns false'. Refute it at one input. -/
def fnExactRegNameWrong : ChangeSpec := { name := "fnExactRegName", vars := ["loop.example/g00664/impl.byteNames", "loop.example/g00664/impl.wordNames", "loop.example/g00664/impl.dwordNames", "loop.example/g00664/impl.qwordNames"], fn := fun _ => fun
  | [d1, d2, g1, g2, g3, g4] => { results := [.lit (.bool false)], args := [d1, d2], vars := [g1, g2, g3, g4] }
  | _ => none }
def FnExactRegNameWrongFalsely : Prop := fnExactRegNameRow.holds Tryd.pinned (OpenSpec.ofChange fnExactRegNameWrong)

/-- 'laws.FnExactRegOf': WHATEVER THE INPUT: true; the input reads as it did. -/
def fnExactRegOfSpec : ChangeSpec := { name := "fnExactRegOf", vars := ["loop.example/g00664/impl.byteNames", "loop.example/g00664/impl.wordNames", "loop.example/g00664/impl.dwordNames", "loop.example/g00664/impl.qwordNames"], fn := fun _ => fun
  | [d, g1, g2, g3, g4] => { results := [.lit (.bool true)], args := [d], vars := [g1, g2, g3, g4] }
  | _ => none }
def fnExactRegOfRow : OpenClaim := { program := "ytdfmchknpiodkaadoor", sum := "998ca19d5c71acfa5f2a494441c7ecc01ca0f2c00a1804c9f6992e1ec9911dee", func := "loop.example/g00664/laws.FnExactRegOf", spec := "fnExactRegOf", recurses := true, named := ["loop.example/g00664/impl.byteNames", "loop.example/g00664/impl.wordNames", "loop.example/g00664/impl.dwordNames", "loop.example/g00664/impl.qwordNames"], apart := false, laid := [("loop.example/g00664/impl.byteNames", laid_loop_example_g00664_impl_byteNames), ("loop.example/g00664/impl.wordNames", laid_loop_example_g00664_impl_wordNames), ("loop.example/g00664/impl.dwordNames", laid_loop_example_g00664_impl_dwordNames), ("loop.example/g00664/impl.qwordNames", laid_loop_example_g00664_impl_qwordNames)] }
def FnExactRegOfSaid : Prop := fnExactRegOfRow.holds Tryd.pinned (OpenSpec.ofChange fnExactRegOfSpec)

/-- ITS FALSE NEIGHBOUR: 'it returns false'. Refute it at one input. -/
def fnExactRegOfWrong : ChangeSpec := { name := "fnExactRegOf", vars := ["loop.example/g00664/impl.byteNames", "loop.example/g00664/impl.wordNames", "loop.example/g00664/impl.dwordNames", "loop.example/g00664/impl.qwordNames"], fn := fun _ => fun
  | [d, g1, g2, g3, g4] => { results := [.lit (.bool false)], args := [d], vars := [g1, g2, g3, g4] }
  | _ => none }
def FnExactRegOfWrongFalsely : Prop := fnExactRegOfRow.holds Tryd.pinned (OpenSpec.ofChange fnExactRegOfWrong)

/- THE SECOND FORM. 'bulk': how many values and letters a reading holds, each counted each time it is reached (what is shared counts as often as it is met; a slice's spare places count too). A statement '..UptoSaid' is the law's where the arguments, and the package variables that the reading takes, are together of bulk at most 1048576: NARROWER than '..Said'. Prove '..Said' where nothing that the law and all that it calls make is longer than what came in: it says more and counts as full. Else prove '..UptoSaid'. A law counts once. -/
mutual
def uptoBulk {H : Type} : DataW H → Nat
  | .lit (.string bytes) => bytes.length + 1
  | .lit _ => 1
  | .nil => 1
  | .ptr d => uptoBulk d + 1
  | .slice elems spare => uptoBulkAll elems + uptoBulkAll spare + 1
  | .agg parts => uptoBulkAll parts + 1
  | .iface _ d => uptoBulk d + 1
  | .map entries => uptoBulkEntries entries + 1
  | .held _ => 1
def uptoBulkAll {H : Type} : List (DataW H) → Nat
  | [] => 0
  | d :: r => uptoBulk d + uptoBulkAll r
def uptoBulkEntries {H : Type} : List (Lit × DataW H) → Nat
  | [] => 0
  | x :: r => uptoBulkEntry x + uptoBulkEntries r
def uptoBulkEntry {H : Type} : Lit × DataW H → Nat
  | (.string bytes, d) => bytes.length + uptoBulk d + 1
  | (_, d) => uptoBulk d + 1
 end
def uptoSmall : (H : Type) → List (DataW H) → Bool := fun _ ds => decide (uptoBulkAll ds ≤ 1048576)
def OpenSpec.upto (s : _root_.Go.ChangeSpec) : _root_.Go.OpenSpec := { _root_.Go.OpenSpec.ofChange s with cond := some uptoSmall }

/-- 'laws.FnNames', WHERE WHAT IT READS IS OF BULK AT MOST 1048576: true; the input reads as it did. -/
def fnNamesUptoRow : OpenClaim := { program := "ytdfmchknpiodkaadoor", sum := "998ca19d5c71acfa5f2a494441c7ecc01ca0f2c00a1804c9f6992e1ec9911dee", func := "loop.example/g00664/laws.FnNames", spec := "fnNames", unfollowed := true, recurses := true, named := ["loop.example/g00664/impl.byteNames", "loop.example/g00664/impl.wordNames", "loop.example/g00664/impl.dwordNames", "loop.example/g00664/impl.qwordNames", "loop.example/g00664/impl.arithShapes", "loop.example/g00664/impl.groupOps", "loop.example/g00664/impl.opNames", "loop.example/g00664/impl.condNames"], apart := false, laid := [("loop.example/g00664/impl.opNames", laid_loop_example_g00664_impl_opNames), ("loop.example/g00664/impl.condNames", laid_loop_example_g00664_impl_condNames), ("loop.example/g00664/impl.byteNames", laid_loop_example_g00664_impl_byteNames), ("loop.example/g00664/impl.wordNames", laid_loop_example_g00664_impl_wordNames), ("loop.example/g00664/impl.dwordNames", laid_loop_example_g00664_impl_dwordNames), ("loop.example/g00664/impl.qwordNames", laid_loop_example_g00664_impl_qwordNames), ("loop.example/g00664/impl.groupOps", laid_loop_example_g00664_impl_groupOps), ("loop.example/g00664/impl.arithShapes", laid_loop_example_g00664_impl_arithShapes)], narrowed := true }
def FnNamesUptoSaid : Prop := fnNamesUptoRow.holds Tryd.pinned (OpenSpec.upto fnNamesSpec)

/-- 'laws.FnExactShapeOf', WHERE WHAT IT READS IS OF BULK AT MOST 1048576: true; the input reads as it did. -/
def fnExactShapeOfUptoRow : OpenClaim := { program := "ytdfmchknpiodkaadoor", sum := "998ca19d5c71acfa5f2a494441c7ecc01ca0f2c00a1804c9f6992e1ec9911dee", func := "loop.example/g00664/laws.FnExactShapeOf", spec := "fnExactShapeOf", unfollowed := true, recurses := true, named := ["loop.example/g00664/impl.arithShapes"], apart := false, laid := [("loop.example/g00664/impl.arithShapes", laid_loop_example_g00664_impl_arithShapes)], narrowed := true }
def FnExactShapeOfUptoSaid : Prop := fnExactShapeOfUptoRow.holds Tryd.pinned (OpenSpec.upto fnExactShapeOfSpec)

/-- 'laws.FnExactGroupOp', WHERE WHAT IT READS IS OF BULK AT MOST 1048576: true; the input reads as it did. -/
def fnExactGroupOpUptoRow : OpenClaim := { program := "ytdfmchknpiodkaadoor", sum := "998ca19d5c71acfa5f2a494441c7ecc01ca0f2c00a1804c9f6992e1ec9911dee", func := "loop.example/g00664/laws.FnExactGroupOp", spec := "fnExactGroupOp", named := ["loop.example/g00664/impl.groupOps"], apart := false, laid := [("loop.example/g00664/impl.groupOps", laid_loop_example_g00664_impl_groupOps)], narrowed := true }
def FnExactGroupOpUptoSaid : Prop := fnExactGroupOpUptoRow.holds Tryd.pinned (OpenSpec.upto fnExactGroupOpSpec)

/-- 'laws.FnExactOpName', WHERE WHAT IT READS IS OF BULK AT MOST 1048576: true; the input reads as it did. -/
def fnExactOpNameUptoRow : OpenClaim := { program := "ytdfmchknpiodkaadoor", sum := "998ca19d5c71acfa5f2a494441c7ecc01ca0f2c00a1804c9f6992e1ec9911dee", func := "loop.example/g00664/laws.FnExactOpName", spec := "fnExactOpName", named := ["loop.example/g00664/impl.opNames"], apart := false, laid := [("loop.example/g00664/impl.opNames", laid_loop_example_g00664_impl_opNames)], narrowed := true }
def FnExactOpNameUptoSaid : Prop := fnExactOpNameUptoRow.holds Tryd.pinned (OpenSpec.upto fnExactOpNameSpec)

/-- 'laws.FnExactOpOf', WHERE WHAT IT READS IS OF BULK AT MOST 1048576: true; the input reads as it did. -/
def fnExactOpOfUptoRow : OpenClaim := { program := "ytdfmchknpiodkaadoor", sum := "998ca19d5c71acfa5f2a494441c7ecc01ca0f2c00a1804c9f6992e1ec9911dee", func := "loop.example/g00664/laws.FnExactOpOf", spec := "fnExactOpOf", named := ["loop.example/g00664/impl.opNames"], apart := false, laid := [("loop.example/g00664/impl.opNames", laid_loop_example_g00664_impl_opNames)], narrowed := true }
def FnExactOpOfUptoSaid : Prop := fnExactOpOfUptoRow.holds Tryd.pinned (OpenSpec.upto fnExactOpOfSpec)

/-- 'laws.FnExactCondName', WHERE WHAT IT READS IS OF BULK AT MOST 1048576: true; the input reads as it did. -/
def fnExactCondNameUptoRow : OpenClaim := { program := "ytdfmchknpiodkaadoor", sum := "998ca19d5c71acfa5f2a494441c7ecc01ca0f2c00a1804c9f6992e1ec9911dee", func := "loop.example/g00664/laws.FnExactCondName", spec := "fnExactCondName", named := ["loop.example/g00664/impl.condNames"], apart := false, laid := [("loop.example/g00664/impl.condNames", laid_loop_example_g00664_impl_condNames)], narrowed := true }
def FnExactCondNameUptoSaid : Prop := fnExactCondNameUptoRow.holds Tryd.pinned (OpenSpec.upto fnExactCondNameSpec)

/-- 'laws.FnExactCondOf', WHERE WHAT IT READS IS OF BULK AT MOST 1048576: true; the input reads as it did. -/
def fnExactCondOfUptoRow : OpenClaim := { program := "ytdfmchknpiodkaadoor", sum := "998ca19d5c71acfa5f2a494441c7ecc01ca0f2c00a1804c9f6992e1ec9911dee", func := "loop.example/g00664/laws.FnExactCondOf", spec := "fnExactCondOf", named := ["loop.example/g00664/impl.condNames"], apart := false, laid := [("loop.example/g00664/impl.condNames", laid_loop_example_g00664_impl_condNames)], narrowed := true }
def FnExactCondOfUptoSaid : Prop := fnExactCondOfUptoRow.holds Tryd.pinned (OpenSpec.upto fnExactCondOfSpec)

/-- 'laws.FnExactRegName', WHERE WHAT IT READS IS OF BULK AT MOST 1048576: true; the input reads as it did. -/
def fnExactRegNameUptoRow : OpenClaim := { program := "ytdfmchknpiodkaadoor", sum := "998ca19d5c71acfa5f2a494441c7ecc01ca0f2c00a1804c9f6992e1ec9911dee", func := "loop.example/g00664/laws.FnExactRegName", spec := "fnExactRegName", recurses := true, named := ["loop.example/g00664/impl.byteNames", "loop.example/g00664/impl.wordNames", "loop.example/g00664/impl.dwordNames", "loop.example/g00664/impl.qwordNames"], apart := false, laid := [("loop.example/g00664/impl.byteNames", laid_loop_example_g00664_impl_byteNames), ("loop.example/g00664/impl.wordNames", laid_loop_example_g00664_impl_wordNames), ("loop.example/g00664/impl.dwordNames", laid_loop_example_g00664_impl_dwordNames), ("loop.example/g00664/impl.qwordNames", laid_loop_example_g00664_impl_qwordNames)], narrowed := true }
def FnExactRegNameUptoSaid : Prop := fnExactRegNameUptoRow.holds Tryd.pinned (OpenSpec.upto fnExactRegNameSpec)

/-- 'laws.FnExactRegOf', WHERE WHAT IT READS IS OF BULK AT MOST 1048576: true; the input reads as it did. -/
def fnExactRegOfUptoRow : OpenClaim := { program := "ytdfmchknpiodkaadoor", sum := "998ca19d5c71acfa5f2a494441c7ecc01ca0f2c00a1804c9f6992e1ec9911dee", func := "loop.example/g00664/laws.FnExactRegOf", spec := "fnExactRegOf", recurses := true, named := ["loop.example/g00664/impl.byteNames", "loop.example/g00664/impl.wordNames", "loop.example/g00664/impl.dwordNames", "loop.example/g00664/impl.qwordNames"], apart := false, laid := [("loop.example/g00664/impl.byteNames", laid_loop_example_g00664_impl_byteNames), ("loop.example/g00664/impl.wordNames", laid_loop_example_g00664_impl_wordNames), ("loop.example/g00664/impl.dwordNames", laid_loop_example_g00664_impl_dwordNames), ("loop.example/g00664/impl.qwordNames", laid_loop_example_g00664_impl_qwordNames)], narrowed := true }
def FnExactRegOfUptoSaid : Prop := fnExactRegOfUptoRow.holds Tryd.pinned (OpenSpec.upto fnExactRegOfSpec)

end Rows
end Go.Proofs.YtdfmchknpiodkaaDoor
