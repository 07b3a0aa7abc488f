/-
  No cell of these rows narrows 'for every input' (looked for: loops, veiled, ifaces, maps, wideKeys, modest, calm, conditions, laid).
  DERIVED. THE GIVEN ROWS OF THIS SEAT. 5 by the template 'for every input the law returns true; each argument reads behind the call as it read before'; 0 by the template 'total and deterministic' (their statements: YtbecfkbilpbihaaTotals.lean).
  GIVEN WITH THE SEED: the statements are not yours to turn. If you find one false, say at which input.
  Laid BY PROGRAM, IN A SANDBOX (cutbox-rows.mjs): the forced cells as the released guide's own fill.sh prints them over the translation d2b4a627dec4140d… (all of the seat's roots in one cut). By AI agents, Wed Nov 11 2026. No macro, syntax, notation, axiom, sorry.
-/
import Derived.Test.YtbecfkbilpbihaaChecked
import GoSem.Claim
import GoSem.ClaimJoined
import GoSem.ClaimMapViews
import Derived.JoinedTies
import Derived.KernelRfl
namespace Go.Proofs.Ytbecfkbilpbihaa
/- THE CELL 'sum', in the pinned program and in every row, IS THE sha256 OF THE DUMP (.gsa) THAT YtbecfkbilpbihaaProg.lean LOADS. Nothing in Lean hashes anything: it is a label: what it is worth is what the hold of that sum in a sandbox is worth. -/
noncomputable def Try.pinned : Pinned := { name := "ytbecfkbilpbihaa", sum := "d2b4a627dec4140dcf4de97e14982575af06410cbc89c8831b8e0aaafbfb2071", checked := Try.checked }
namespace Rows
def none {H : Type} : Left H := { results := [], args := [] }

/-- 'laws.FnExactZoneOf': WHATEVER THE INPUT: true; the input reads as it did. -/
def fnExactZoneOfSpec : ChangeSpec := { name := "fnExactZoneOf", fn := fun _ => fun
  | [d] => { results := [.lit (.bool true)], args := [d] }
  | _ => none }
def fnExactZoneOfRow : OpenClaim := { program := "ytbecfkbilpbihaa", sum := "d2b4a627dec4140dcf4de97e14982575af06410cbc89c8831b8e0aaafbfb2071", func := "loop.example/g00664/laws.FnExactZoneOf", spec := "fnExactZoneOf", apart := false }
def FnExactZoneOfSaid : Prop := fnExactZoneOfRow.holds Try.pinned (OpenSpec.ofChange fnExactZoneOfSpec)

/-- ITS FALSE NEIGHBOUR: 'it returns false'. Refute it at one input. -/
def fnExactZoneOfWrong : ChangeSpec := { name := "fnExactZoneOf", fn := fun _ => fun
  | [d] => { results := [.lit (.bool false)], args := [d] }
  | _ => none }
def FnExactZoneOfWrongFalsely : Prop := fnExactZoneOfRow.holds Try.pinned (OpenSpec.ofChange fnExactZoneOfWrong)

/-- 'laws.FnExactMasked': WHATEVER THE INPUT: true; the input reads as it did. -/
def fnExactMaskedSpec : ChangeSpec := { name := "fnExactMasked", fn := fun _ => fun
  | [d1, d2] => { results := [.lit (.bool true)], args := [d1, d2] }
  | _ => none }
def fnExactMaskedRow : OpenClaim := { program := "ytbecfkbilpbihaa", sum := "d2b4a627dec4140dcf4de97e14982575af06410cbc89c8831b8e0aaafbfb2071", func := "loop.example/g00664/laws.FnExactMasked", spec := "fnExactMasked", apart := false }
def FnExactMaskedSaid : Prop := fnExactMaskedRow.holds Try.pinned (OpenSpec.ofChange fnExactMaskedSpec)

/-- ITS FALSE NEIGHBOUR: 'it returns false'. Refute it at one input. -/
def fnExactMaskedWrong : ChangeSpec := { name := "fnExactMasked", fn := fun _ => fun
  | [d1, d2] => { results := [.lit (.bool false)], args := [d1, d2] }
  | _ => none }
def FnExactMaskedWrongFalsely : Prop := fnExactMaskedRow.holds Try.pinned (OpenSpec.ofChange fnExactMaskedWrong)

/-- 'laws.FnExactTrampolineOf': WHATEVER THE INPUT: true; the input reads as it did. -/
def fnExactTrampolineOfSpec : ChangeSpec := { name := "fnExactTrampolineOf", fn := fun _ => fun
  | [d] => { results := [.lit (.bool true)], args := [d] }
  | _ => none }
def fnExactTrampolineOfRow : OpenClaim := { program := "ytbecfkbilpbihaa", sum := "d2b4a627dec4140dcf4de97e14982575af06410cbc89c8831b8e0aaafbfb2071", func := "loop.example/g00664/laws.FnExactTrampolineOf", spec := "fnExactTrampolineOf", apart := false }
def FnExactTrampolineOfSaid : Prop := fnExactTrampolineOfRow.holds Try.pinned (OpenSpec.ofChange fnExactTrampolineOfSpec)

/-- ITS FALSE NEIGHBOUR: 'it returns false'. Refute it at one input. -/
def fnExactTrampolineOfWrong : ChangeSpec := { name := "fnExactTrampolineOf", fn := fun _ => fun
  | [d] => { results := [.lit (.bool false)], args := [d] }
  | _ => none }
def FnExactTrampolineOfWrongFalsely : Prop := fnExactTrampolineOfRow.holds Try.pinned (OpenSpec.ofChange fnExactTrampolineOfWrong)

/-- 'laws.FnExactMayGo': WHATEVER THE INPUT: true; the input reads as it did. -/
def fnExactMayGoSpec : ChangeSpec := { name := "fnExactMayGo", fn := fun _ => fun
  | [d1, d2, d3] => { results := [.lit (.bool true)], args := [d1, d2, d3] }
  | _ => none }
def fnExactMayGoRow : OpenClaim := { program := "ytbecfkbilpbihaa", sum := "d2b4a627dec4140dcf4de97e14982575af06410cbc89c8831b8e0aaafbfb2071", func := "loop.example/g00664/laws.FnExactMayGo", spec := "fnExactMayGo", apart := false }
def FnExactMayGoSaid : Prop := fnExactMayGoRow.holds Try.pinned (OpenSpec.ofChange fnExactMayGoSpec)

/-- ITS FALSE NEIGHBOUR: 'it returns false'. Refute it at one input. -/
def fnExactMayGoWrong : ChangeSpec := { name := "fnExactMayGo", fn := fun _ => fun
  | [d1, d2, d3] => { results := [.lit (.bool false)], args := [d1, d2, d3] }
  | _ => none }
def FnExactMayGoWrongFalsely : Prop := fnExactMayGoRow.holds Try.pinned (OpenSpec.ofChange fnExactMayGoWrong)

/-- 'laws.FnExactPadded': WHATEVER THE INPUT: true; the input reads as it did. -/
def fnExactPaddedSpec : ChangeSpec := { name := "fnExactPadded", fn := fun _ => fun
  | [d] => { results := [.lit (.bool true)], args := [d] }
  | _ => none }
def fnExactPaddedRow : OpenClaim := { program := "ytbecfkbilpbihaa", sum := "d2b4a627dec4140dcf4de97e14982575af06410cbc89c8831b8e0aaafbfb2071", func := "loop.example/g00664/laws.FnExactPadded", spec := "fnExactPadded", inPlace := ["internal/abi.NoEscape", "internal/bytealg.MakeNoZero"], apart := false }
def FnExactPaddedSaid : Prop := fnExactPaddedRow.holds Try.pinned (OpenSpec.ofChange fnExactPaddedSpec)

/-- ITS FALSE NEIGHBOUR: 'it returns false'. Refute it at one input. -/
def fnExactPaddedWrong : ChangeSpec := { name := "fnExactPadded", fn := fun _ => fun
  | [d] => { results := [.lit (.bool false)], args := [d] }
  | _ => none }
def FnExactPaddedWrongFalsely : Prop := fnExactPaddedRow.holds Try.pinned (OpenSpec.ofChange fnExactPaddedWrong)

/- THE SECOND FORM. 'bulk': how many values and letters a reading holds, each counted each time it is reached (what is shared counts as often as it is met; a slice's spare places count too). A statement '..UptoSaid' is the law's where the arguments, and the package variables that the reading takes, are together of bulk at most 1048576: NARROWER than '..Said'. Prove '..Said' where nothing that the law and all that it calls make is longer than what came in: it says more and counts as full. Else prove '..UptoSaid'. A law counts once. -/
mutual
def uptoBulk {H : Type} : DataW H → Nat
  | .lit (.string bytes) => bytes.length + 1
  | .lit _ => 1
  | .nil => 1
  | .ptr d => uptoBulk d + 1
  | .slice elems spare => uptoBulkAll elems + uptoBulkAll spare + 1
  | .agg parts => uptoBulkAll parts + 1
  | .iface _ d => uptoBulk d + 1
  | .map entries => uptoBulkEntries entries + 1
  | .held _ => 1
def uptoBulkAll {H : Type} : List (DataW H) → Nat
  | [] => 0
  | d :: r => uptoBulk d + uptoBulkAll r
def uptoBulkEntries {H : Type} : List (Lit × DataW H) → Nat
  | [] => 0
  | x :: r => uptoBulkEntry x + uptoBulkEntries r
def uptoBulkEntry {H : Type} : Lit × DataW H → Nat
  | (.string bytes, d) => bytes.length + uptoBulk d + 1
  | (_, d) => uptoBulk d + 1
 end
def uptoSmall : (H : Type) → List (DataW H) → Bool := fun _ ds => decide (uptoBulkAll ds ≤ 1048576)
def OpenSpec.upto (s : _root_.Go.ChangeSpec) : _root_.Go.OpenSpec := { _root_.Go.OpenSpec.ofChange s with cond := some uptoSmall }

/-- 'laws.FnExactZoneOf', WHERE WHAT IT READS IS OF BULK AT MOST 1048576: true; the input reads as it did. -/
def fnExactZoneOfUptoRow : OpenClaim := { program := "ytbecfkbilpbihaa", sum := "d2b4a627dec4140dcf4de97e14982575af06410cbc89c8831b8e0aaafbfb2071", func := "loop.example/g00664/laws.FnExactZoneOf", spec := "fnExactZoneOf", apart := false, narrowed := true }
def FnExactZoneOfUptoSaid : Prop := fnExactZoneOfUptoRow.holds Try.pinned (OpenSpec.upto fnExactZoneOfSpec)

/-- 'laws.FnExactMasked', WHERE WHAT IT READS IS OF BULK AT MOST 1048576: true; the input reads as it did. -/
def fnExactMaskedUptoRow : OpenClaim := { program := "ytbecfkbilpbihaa", sum := "d2b4a627dec4140dcf4de97e14982575af06410cbc89c8831b8e0aaafbfb2071", func := "loop.example/g00664/laws.FnExactMasked", spec := "fnExactMasked", apart := false, narrowed := true }
def FnExactMaskedUptoSaid : Prop := fnExactMaskedUptoRow.holds Try.pinned (OpenSpec.upto fnExactMaskedSpec)

/-- 'laws.FnExactTrampolineOf', WHERE WHAT IT READS IS OF BULK AT MOST 1048576: true; the input reads as it did. -/
def fnExactTrampolineOfUptoRow : OpenClaim := { program := "ytbecfkbilpbihaa", sum := "d2b4a627dec4140dcf4de97e14982575af06410cbc89c8831b8e0aaafbfb2071", func := "loop.example/g00664/laws.FnExactTrampolineOf", spec := "fnExactTrampolineOf", apart := false, narrowed := true }
def FnExactTrampolineOfUptoSaid : Prop := fnExactTrampolineOfUptoRow.holds Try.pinned (OpenSpec.upto fnExactTrampolineOfSpec)

/-- 'laws.FnExactMayGo', WHERE WHAT IT READS IS OF BULK AT MOST 1048576: true; the input reads as it did. -/
def fnExactMayGoUptoRow : OpenClaim := { program := "ytbecfkbilpbihaa", sum := "d2b4a627dec4140dcf4de97e14982575af06410cbc89c8831b8e0aaafbfb2071", func := "loop.example/g00664/laws.FnExactMayGo", spec := "fnExactMayGo", apart := false, narrowed := true }
def FnExactMayGoUptoSaid : Prop := fnExactMayGoUptoRow.holds Try.pinned (OpenSpec.upto fnExactMayGoSpec)

/-- 'laws.FnExactPadded', WHERE WHAT IT READS IS OF BULK AT MOST 1048576: true; the input reads as it did. -/
def fnExactPaddedUptoRow : OpenClaim := { program := "ytbecfkbilpbihaa", sum := "d2b4a627dec4140dcf4de97e14982575af06410cbc89c8831b8e0aaafbfb2071", func := "loop.example/g00664/laws.FnExactPadded", spec := "fnExactPadded", inPlace := ["internal/abi.NoEscape", "internal/bytealg.MakeNoZero"], apart := false, narrowed := true }
def FnExactPaddedUptoSaid : Prop := fnExactPaddedUptoRow.holds Try.pinned (OpenSpec.upto fnExactPaddedSpec)

end Rows
end Go.Proofs.Ytbecfkbilpbihaa
