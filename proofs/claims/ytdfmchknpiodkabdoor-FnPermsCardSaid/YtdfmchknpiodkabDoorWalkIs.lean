/-
  What errors.Is does for an impl.boundError that wraps a sentinel of errors.New, asked for a sentinel: it returns whether it is the wrapped one, and changes nothing that was there; condition: two sentinels that are not one lie in plain cells.
-/
import Derived.Test.YtdfmchknpiodkabDoorCards
import Derived.WalkKit
import Derived.WalkSpells
import Derived.WalkLawsBesides
import Derived.Lib.Hide
import Derived.LaidEql
import Derived.Stop.Asserts
import Derived.Stop.LaidTwo
import Derived.Stop.Joined
import Derived.LaidMore
import Derived.RowKitTokens
namespace Go.Proofs.YtdfmchknpiodkabDoor
open Go.RowKit Go.Extern.Stop Go.Stop Go.Extern
theorem callTypeOf (v : Value) (w : World) : (callFunc 79 #[.iface 136 v]).run Tryd.prog w = .ok (Next.value (.iface 122 (.agg #[.pointer (some ⟨3, 136, none⟩)]))) w := by kernel_rfl
theorem callComparable (w : World) : (callFunc 117 #[.agg #[.pointer (some ⟨3, 136, none⟩)]]).run Tryd.prog w = .ok (Next.value (.bool true)) w := by kernel_rfl
theorem mComparable (v : Value) (w : World) : (Go.method 268 122 v "Comparable").run Tryd.prog w = .ok (117, v) w := by kernel_rfl
theorem mUnwrap (v : Value) (w : World) : (Go.method 268 107 v "Unwrap").run Tryd.prog w = .ok (113, v) w := by kernel_rfl
theorem isComp : (Tryd.prog.info? 136).map (·.comparable) = some true := by kernel_rfl
theorem isSize : (Tryd.prog.info? 158).map (·.size) = some 1 := by kernel_rfl
theorem noIsE (v : Value) (xT : TypeId) (w : World) : (Instr.typeAssert (.iface 136 v) xT 124 true).run Tryd.prog w = .ok (.tuple #[.nilIface, .bool false]) w := run_typeAssert_lacksB Tryd.underlying124 (by kernel_rfl) (by kernel_rfl) v xT w
theorem noUnwrapE (v : Value) (xT : TypeId) (w : World) : (Instr.typeAssert (.iface 136 v) xT 127 true).run Tryd.prog w = .ok (.tuple #[.nilIface, .bool false]) w := run_typeAssert_lacksB Tryd.underlying127 (by kernel_rfl) (by kernel_rfl) v xT w
theorem noUnwrapsE (v : Value) (xT : TypeId) (w : World) : (Instr.typeAssert (.iface 136 v) xT 129 true).run Tryd.prog w = .ok (.tuple #[.nilIface, .bool false]) w := run_typeAssert_lacksB Tryd.underlying129 (by kernel_rfl) (by kernel_rfl) v xT w
theorem noIsW (v : Value) (xT : TypeId) (w : World) : (Instr.typeAssert (.iface 107 v) xT 124 true).run Tryd.prog w = .ok (.tuple #[.nilIface, .bool false]) w := run_typeAssert_lacksB Tryd.underlying124 (by kernel_rfl) (by kernel_rfl) v xT w
theorem hasUnwrapW (v : Value) (xT : TypeId) (w : World) : (Instr.typeAssert (.iface 107 v) xT 127 true).run Tryd.prog w = .ok (.tuple #[.iface 107 v, .bool true]) w := run_typeAssert_hasB Tryd.underlying127 (by kernel_rfl) v xT w
set_option maxRecDepth 100000 in
set_option maxHeartbeats 1000000 in
theorem is_bound_same (s : ByteArray) (n : Int) (b : Addr) (w : World) :
    Calls Tryd.prog 60 #[.iface 107 (.agg #[.string s, .int .i64 n, .iface 136 (.pointer (some b))]), .iface 136 (.pointer (some b))] w fun e w' => e = .returned (.bool true) ∧ Below w.heap.size w w' := by
  obtain ⟨i, hi, hcmp⟩ := Option.map_eq_some_iff.1 isComp
  obtain ⟨j, hj, hjs⟩ := Option.map_eq_some_iff.1 isSize
  have h8 := callTypeOf
  have h32 := callComparable
  have mR := mComparable
  have mU := mUnwrap
  have nE := noIsE
  have uE := noUnwrapE
  have vE := noUnwrapsE
  have nW := noIsW
  have uW := hasUnwrapW
  have hty := run_eql_iface_types (P := Tryd.prog) 107 136 (.agg #[.string s, .int .i64 n, .iface 136 (.pointer (some b))]) (.pointer (some b)) Tryd.underlying62 (by decide) w
  have heq := run_eql_iface_ptr_same (P := Tryd.prog) (w.alloc (.cells #[.string s, .int .i64 n, .iface 136 (.pointer (some b))] 107)) b Tryd.underlying62 Tryd.underlying136 hi hcmp hj
  go_enter Tryd.func60, Tryd.ntmps60
  go_wp2
  refine wp_loop_rounds 2 ?_
  rw [rounds_succ]
  go_wp2
  rw [rounds_succ]
  go_wp2
  go_ret
  exact ⟨rfl, (Below.refl _ _).alloc (Nat.le_refl _) _⟩
set_option maxRecDepth 100000 in
set_option maxHeartbeats 1000000 in
theorem is_bound_other (s : ByteArray) (n : Int) (a b : Addr) (ca cb : Array Value) (ta tb : TypeId) (w : World) (hne : a ≠ b) (ha : w.heap[a.block]? = some (.cells ca ta (0, 0))) (hb : w.heap[b.block]? = some (.cells cb tb (0, 0))) :
    Calls Tryd.prog 60 #[.iface 107 (.agg #[.string s, .int .i64 n, .iface 136 (.pointer (some a))]), .iface 136 (.pointer (some b))] w fun e w' => e = .returned (.bool false) ∧ Below w.heap.size w w' := by
  obtain ⟨i, hi, hcmp⟩ := Option.map_eq_some_iff.1 isComp
  obtain ⟨j, hj, hjs⟩ := Option.map_eq_some_iff.1 isSize
  have h8 := callTypeOf
  have h32 := callComparable
  have mR := mComparable
  have mU := mUnwrap
  have nE := noIsE
  have uE := noUnwrapE
  have vE := noUnwrapsE
  have nW := noIsW
  have uW := hasUnwrapW
  have hty := run_eql_iface_types (P := Tryd.prog) 107 136 (.agg #[.string s, .int .i64 n, .iface 136 (.pointer (some a))]) (.pointer (some b)) Tryd.underlying62 (by decide) w
  have lt : ∀ (p : Nat) (o : Obj), w.heap[p]? = some o → p < w.heap.size := fun p o h => by
    rcases Nat.lt_or_ge p w.heap.size with h' | h'
    · exact h'
    · rw [Array.getElem?_eq_none h'] at h; cases h
  have ha' := (Below.heap_alloc w (.cells #[.string s, .int .i64 n, .iface 136 (.pointer (some a))] 107) a.block (lt _ _ ha)).trans ha
  have hb' := (Below.heap_alloc w (.cells #[.string s, .int .i64 n, .iface 136 (.pointer (some a))] 107) b.block (lt _ _ hb)).trans hb
  have heq := run_eql_iface_ptr_other (P := Tryd.prog) (w.alloc (.cells #[.string s, .int .i64 n, .iface 136 (.pointer (some a))] 107)) Tryd.underlying62 Tryd.underlying136 hi hcmp hj (by rw [hjs]; decide) hne ha' hb'
  clear ha' hb' ha hb lt
  go_enter Tryd.func60, Tryd.ntmps60
  go_wp2
  refine wp_loop_rounds 2 ?_
  rw [rounds_succ]
  go_wp2
  rw [rounds_succ]
  go_wp2
  go_ret
  exact ⟨rfl, (Below.refl _ _).alloc (Nat.le_refl _) _⟩
end Go.Proofs.YtdfmchknpiodkabDoor
