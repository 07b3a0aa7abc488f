/-
  No cell of these rows narrows 'for every input' (looked for: loops, veiled, ifaces, maps, wideKeys, modest, calm, conditions, laid).
  DERIVED. THE GIVEN ROWS OF THIS SEAT. 4 by the template 'for every input the law returns true; each argument reads behind the call as it read before'; 0 by the template 'total and deterministic' (their statements: YtcnmklgcifdmoaaTotals.lean).
  GIVEN WITH THE SEED: the statements are not yours to turn. If you find one false, say at which input.
  Laid BY PROGRAM, IN A SANDBOX (cutbox-rows.mjs): the forced cells as the released guide's own fill.sh prints them over the translation c33ad3d60004af55… (all of the seat's roots in one cut). By AI agents, Wed Nov 11 2026. No macro, syntax, notation, axiom, sorry.
-/
import Derived.Test.YtcnmklgcifdmoaaChecked
import GoSem.Claim
import GoSem.ClaimJoined
import GoSem.ClaimMapViews
import Derived.JoinedTies
import Derived.KernelRfl
namespace Go.Proofs.Ytcnmklgcifdmoaa
/- THE CELL 'sum', in the pinned program and in every row, IS THE sha256 OF THE DUMP (.gsa) THAT YtcnmklgcifdmoaaProg.lean LOADS. Nothing in Lean hashes anything: it is a label: what it is worth is what the hold of that sum in a sandbox is worth. -/
noncomputable def Try.pinned : Pinned := { name := "ytcnmklgcifdmoaa", sum := "c33ad3d60004af556c84f44afff3b6d4d7a1522b141bb973bb4389e6a1c1c494", checked := Try.checked }
namespace Rows
def none {H : Type} : Left H := { results := [], args := [] }

/-- 'laws.FnExactNewBox': WHATEVER THE INPUT: true; the input reads as it did. -/
def fnExactNewBoxSpec : ChangeSpec := { name := "fnExactNewBox", fn := fun _ => fun
  | [d1, d2, d3] => { results := [.lit (.bool true)], args := [d1, d2, d3] }
  | _ => none }
def fnExactNewBoxRow : OpenClaim := { program := "ytcnmklgcifdmoaa", sum := "c33ad3d60004af556c84f44afff3b6d4d7a1522b141bb973bb4389e6a1c1c494", func := "loop.example/g00664/laws.FnExactNewBox", spec := "fnExactNewBox", unfollowed := true, recurses := true, apart := false }
def FnExactNewBoxSaid : Prop := fnExactNewBoxRow.holds Try.pinned (OpenSpec.ofChange fnExactNewBoxSpec)

/-- ITS FALSE NEIGHBOUR: 'it returns false'. Refute it at one input. -/
def fnExactNewBoxWrong : ChangeSpec := { name := "fnExactNewBox", fn := fun _ => fun
  | [d1, d2, d3] => { results := [.lit (.bool false)], args := [d1, d2, d3] }
  | _ => none }
def FnExactNewBoxWrongFalsely : Prop := fnExactNewBoxRow.holds Try.pinned (OpenSpec.ofChange fnExactNewBoxWrong)

/-- 'laws.FnExactBoxOK': WHATEVER THE INPUT: true; the input reads as it did. -/
def fnExactBoxOKSpec : ChangeSpec := { name := "fnExactBoxOK", fn := fun _ => fun
  | [d] => { results := [.lit (.bool true)], args := [d] }
  | _ => none }
def fnExactBoxOKRow : OpenClaim := { program := "ytcnmklgcifdmoaa", sum := "c33ad3d60004af556c84f44afff3b6d4d7a1522b141bb973bb4389e6a1c1c494", func := "loop.example/g00664/laws.FnExactBoxOK", spec := "fnExactBoxOK", unfollowed := true, recurses := true, apart := false }
def FnExactBoxOKSaid : Prop := fnExactBoxOKRow.holds Try.pinned (OpenSpec.ofChange fnExactBoxOKSpec)

/-- ITS FALSE NEIGHBOUR: 'it returns false'. Refute it at one input. -/
def fnExactBoxOKWrong : ChangeSpec := { name := "fnExactBoxOK", fn := fun _ => fun
  | [d] => { results := [.lit (.bool false)], args := [d] }
  | _ => none }
def FnExactBoxOKWrongFalsely : Prop := fnExactBoxOKRow.holds Try.pinned (OpenSpec.ofChange fnExactBoxOKWrong)

/-- 'laws.FnExactSpanOK': WHATEVER THE INPUT: true; the input reads as it did. -/
def fnExactSpanOKSpec : ChangeSpec := { name := "fnExactSpanOK", fn := fun _ => fun
  | [d1, d2, d3, d4] => { results := [.lit (.bool true)], args := [d1, d2, d3, d4] }
  | _ => none }
def fnExactSpanOKRow : OpenClaim := { program := "ytcnmklgcifdmoaa", sum := "c33ad3d60004af556c84f44afff3b6d4d7a1522b141bb973bb4389e6a1c1c494", func := "loop.example/g00664/laws.FnExactSpanOK", spec := "fnExactSpanOK", unfollowed := true, recurses := true, apart := false }
def FnExactSpanOKSaid : Prop := fnExactSpanOKRow.holds Try.pinned (OpenSpec.ofChange fnExactSpanOKSpec)

/-- ITS FALSE NEIGHBOUR: 'it returns false'. Refute it at one input. -/
def fnExactSpanOKWrong : ChangeSpec := { name := "fnExactSpanOK", fn := fun _ => fun
  | [d1, d2, d3, d4] => { results := [.lit (.bool false)], args := [d1, d2, d3, d4] }
  | _ => none }
def FnExactSpanOKWrongFalsely : Prop := fnExactSpanOKRow.holds Try.pinned (OpenSpec.ofChange fnExactSpanOKWrong)

/-- 'laws.FnExactSameBox': WHATEVER THE INPUT: true; the input reads as it did. -/
def fnExactSameBoxSpec : ChangeSpec := { name := "fnExactSameBox", fn := fun _ => fun
  | [d1, d2] => { results := [.lit (.bool true)], args := [d1, d2] }
  | _ => none }
def fnExactSameBoxRow : OpenClaim := { program := "ytcnmklgcifdmoaa", sum := "c33ad3d60004af556c84f44afff3b6d4d7a1522b141bb973bb4389e6a1c1c494", func := "loop.example/g00664/laws.FnExactSameBox", spec := "fnExactSameBox", unfollowed := true, recurses := true, apart := false }
def FnExactSameBoxSaid : Prop := fnExactSameBoxRow.holds Try.pinned (OpenSpec.ofChange fnExactSameBoxSpec)

/-- ITS FALSE NEIGHBOUR: 'it returns false'. Refute it at one input. -/
def fnExactSameBoxWrong : ChangeSpec := { name := "fnExactSameBox", fn := fun _ => fun
  | [d1, d2] => { results := [.lit (.bool false)], args := [d1, d2] }
  | _ => none }
def FnExactSameBoxWrongFalsely : Prop := fnExactSameBoxRow.holds Try.pinned (OpenSpec.ofChange fnExactSameBoxWrong)

/- THE SECOND FORM. 'bulk': how many values and letters a reading holds, each counted each time it is reached (what is shared counts as often as it is met; a slice's spare places count too). A statement '..UptoSaid' is the law's where the arguments, and the package variables that the reading takes, are together of bulk at most 1048576: NARROWER than '..Said'. Prove '..Said' where nothing that the law and all that it calls make is longer than what came in: it says more and counts as full. Else prove '..UptoSaid'. A law counts once. -/
mutual
def uptoBulk {H : Type} : DataW H → Nat
  | .lit (.string bytes) => bytes.length + 1
  | .lit _ => 1
  | .nil => 1
  | .ptr d => uptoBulk d + 1
  | .slice elems spare => uptoBulkAll elems + uptoBulkAll spare + 1
  | .agg parts => uptoBulkAll parts + 1
  | .iface _ d => uptoBulk d + 1
  | .map entries => uptoBulkEntries entries + 1
  | .held _ => 1
def uptoBulkAll {H : Type} : List (DataW H) → Nat
  | [] => 0
  | d :: r => uptoBulk d + uptoBulkAll r
def uptoBulkEntries {H : Type} : List (Lit × DataW H) → Nat
  | [] => 0
  | x :: r => uptoBulkEntry x + uptoBulkEntries r
def uptoBulkEntry {H : Type} : Lit × DataW H → Nat
  | (.string bytes, d) => bytes.length + uptoBulk d + 1
  | (_, d) => uptoBulk d + 1
 end
def uptoSmall : (H : Type) → List (DataW H) → Bool := fun _ ds => decide (uptoBulkAll ds ≤ 1048576)
def OpenSpec.upto (s : _root_.Go.ChangeSpec) : _root_.Go.OpenSpec := { _root_.Go.OpenSpec.ofChange s with cond := some uptoSmall }

/-- 'laws.FnExactNewBox', WHERE WHAT IT READS IS OF BULK AT MOST 1048576: true; the input reads as it did. -/
def fnExactNewBoxUptoRow : OpenClaim := { program := "ytcnmklgcifdmoaa", sum := "c33ad3d60004af556c84f44afff3b6d4d7a1522b141bb973bb4389e6a1c1c494", func := "loop.example/g00664/laws.FnExactNewBox", spec := "fnExactNewBox", unfollowed := true, recurses := true, apart := false, narrowed := true }
def FnExactNewBoxUptoSaid : Prop := fnExactNewBoxUptoRow.holds Try.pinned (OpenSpec.upto fnExactNewBoxSpec)

/-- 'laws.FnExactBoxOK', WHERE WHAT IT READS IS OF BULK AT MOST 1048576: true; the input reads as it did. -/
def fnExactBoxOKUptoRow : OpenClaim := { program := "ytcnmklgcifdmoaa", sum := "c33ad3d60004af556c84f44afff3b6d4d7a1522b141bb973bb4389e6a1c1c494", func := "loop.example/g00664/laws.FnExactBoxOK", spec := "fnExactBoxOK", unfollowed := true, recurses := true, apart := false, narrowed := true }
def FnExactBoxOKUptoSaid : Prop := fnExactBoxOKUptoRow.holds Try.pinned (OpenSpec.upto fnExactBoxOKSpec)

/-- 'laws.FnExactSpanOK', WHERE WHAT IT READS IS OF BULK AT MOST 1048576: true; the input reads as it did. -/
def fnExactSpanOKUptoRow : OpenClaim := { program := "ytcnmklgcifdmoaa", sum := "c33ad3d60004af556c84f44afff3b6d4d7a1522b141bb973bb4389e6a1c1c494", func := "loop.example/g00664/laws.FnExactSpanOK", spec := "fnExactSpanOK", unfollowed := true, recurses := true, apart := false, narrowed := true }
def FnExactSpanOKUptoSaid : Prop := fnExactSpanOKUptoRow.holds Try.pinned (OpenSpec.upto fnExactSpanOKSpec)

/-- 'laws.FnExactSameBox', WHERE WHAT IT READS IS OF BULK AT MOST 1048576: true; the input reads as it did. -/
def fnExactSameBoxUptoRow : OpenClaim := { program := "ytcnmklgcifdmoaa", sum := "c33ad3d60004af556c84f44afff3b6d4d7a1522b141bb973bb4389e6a1c1c494", func := "loop.example/g00664/laws.FnExactSameBox", spec := "fnExactSameBox", unfollowed := true, recurses := true, apart := false, narrowed := true }
def FnExactSameBoxUptoSaid : Prop := fnExactSameBoxUptoRow.holds Try.pinned (OpenSpec.upto fnExactSameBoxSpec)

end Rows
end Go.Proofs.Ytcnmklgcifdmoaa
