/-
  What errors.Is does for an impl.boundError that wraps a sentinel of errors.New, asked for a sentinel: it returns whether it is the wrapped one, and changes nothing that was there; condition: two sentinels that are not one lie in plain cells.
-/
import Derived.Test.YtceoomihncchfaaDoorCards
import Derived.WalkKit
import Derived.WalkSpells
import Derived.WalkLawsBesides
import Derived.Lib.Hide
import Derived.LaidEql
import Derived.Stop.Asserts
import Derived.Stop.LaidTwo
import Derived.Stop.Joined
import Derived.LaidMore
import Derived.RowKitTokens
namespace Go.Proofs.YtceoomihncchfaaDoor
open Go.RowKit Go.Extern.Stop Go.Stop Go.Extern
theorem callTypeOf (v : Value) (w : World) : (callFunc 99 #[.iface 152 v]).run Tryd.prog w = .ok (Next.value (.iface 138 (.agg #[.pointer (some ⟨3, 152, none⟩)]))) w := by kernel_rfl
theorem callComparable (w : World) : (callFunc 137 #[.agg #[.pointer (some ⟨3, 152, none⟩)]]).run Tryd.prog w = .ok (Next.value (.bool true)) w := by kernel_rfl
theorem mComparable (v : Value) (w : World) : (Go.method 284 138 v "Comparable").run Tryd.prog w = .ok (137, v) w := by kernel_rfl
theorem mUnwrap (v : Value) (w : World) : (Go.method 284 123 v "Unwrap").run Tryd.prog w = .ok (133, v) w := by kernel_rfl
theorem isComp : (Tryd.prog.info? 152).map (·.comparable) = some true := by kernel_rfl
theorem isSize : (Tryd.prog.info? 174).map (·.size) = some 1 := by kernel_rfl
theorem noIsE (v : Value) (xT : TypeId) (w : World) : (Instr.typeAssert (.iface 152 v) xT 140 true).run Tryd.prog w = .ok (.tuple #[.nilIface, .bool false]) w := run_typeAssert_lacksB Tryd.underlying140 (by kernel_rfl) (by kernel_rfl) v xT w
theorem noUnwrapE (v : Value) (xT : TypeId) (w : World) : (Instr.typeAssert (.iface 152 v) xT 143 true).run Tryd.prog w = .ok (.tuple #[.nilIface, .bool false]) w := run_typeAssert_lacksB Tryd.underlying143 (by kernel_rfl) (by kernel_rfl) v xT w
theorem noUnwrapsE (v : Value) (xT : TypeId) (w : World) : (Instr.typeAssert (.iface 152 v) xT 145 true).run Tryd.prog w = .ok (.tuple #[.nilIface, .bool false]) w := run_typeAssert_lacksB Tryd.underlying145 (by kernel_rfl) (by kernel_rfl) v xT w
theorem noIsW (v : Value) (xT : TypeId) (w : World) : (Instr.typeAssert (.iface 123 v) xT 140 true).run Tryd.prog w = .ok (.tuple #[.nilIface, .bool false]) w := run_typeAssert_lacksB Tryd.underlying140 (by kernel_rfl) (by kernel_rfl) v xT w
theorem hasUnwrapW (v : Value) (xT : TypeId) (w : World) : (Instr.typeAssert (.iface 123 v) xT 143 true).run Tryd.prog w = .ok (.tuple #[.iface 123 v, .bool true]) w := run_typeAssert_hasB Tryd.underlying143 (by kernel_rfl) v xT w
set_option maxRecDepth 100000 in
set_option maxHeartbeats 1000000 in
theorem is_bound_same (s : ByteArray) (n : Int) (b : Addr) (w : World) :
    Calls Tryd.prog 74 #[.iface 123 (.agg #[.string s, .int .i64 n, .iface 152 (.pointer (some b))]), .iface 152 (.pointer (some b))] w fun e w' => e = .returned (.bool true) ∧ Below w.heap.size w w' := by
  obtain ⟨i, hi, hcmp⟩ := Option.map_eq_some_iff.1 isComp
  obtain ⟨j, hj, hjs⟩ := Option.map_eq_some_iff.1 isSize
  have h8 := callTypeOf
  have h32 := callComparable
  have mR := mComparable
  have mU := mUnwrap
  have nE := noIsE
  have uE := noUnwrapE
  have vE := noUnwrapsE
  have nW := noIsW
  have uW := hasUnwrapW
  have hty := run_eql_iface_types (P := Tryd.prog) 123 152 (.agg #[.string s, .int .i64 n, .iface 152 (.pointer (some b))]) (.pointer (some b)) Tryd.underlying70 (by decide) w
  have heq := run_eql_iface_ptr_same (P := Tryd.prog) (w.alloc (.cells #[.string s, .int .i64 n, .iface 152 (.pointer (some b))] 123)) b Tryd.underlying70 Tryd.underlying152 hi hcmp hj
  go_enter Tryd.func74, Tryd.ntmps74
  go_wp2
  refine wp_loop_rounds 2 ?_
  rw [rounds_succ]
  go_wp2
  rw [rounds_succ]
  go_wp2
  go_ret
  exact ⟨rfl, (Below.refl _ _).alloc (Nat.le_refl _) _⟩
set_option maxRecDepth 100000 in
set_option maxHeartbeats 1000000 in
theorem is_bound_other (s : ByteArray) (n : Int) (a b : Addr) (ca cb : Array Value) (ta tb : TypeId) (w : World) (hne : a ≠ b) (ha : w.heap[a.block]? = some (.cells ca ta (0, 0))) (hb : w.heap[b.block]? = some (.cells cb tb (0, 0))) :
    Calls Tryd.prog 74 #[.iface 123 (.agg #[.string s, .int .i64 n, .iface 152 (.pointer (some a))]), .iface 152 (.pointer (some b))] w fun e w' => e = .returned (.bool false) ∧ Below w.heap.size w w' := by
  obtain ⟨i, hi, hcmp⟩ := Option.map_eq_some_iff.1 isComp
  obtain ⟨j, hj, hjs⟩ := Option.map_eq_some_iff.1 isSize
  have h8 := callTypeOf
  have h32 := callComparable
  have mR := mComparable
  have mU := mUnwrap
  have nE := noIsE
  have uE := noUnwrapE
  have vE := noUnwrapsE
  have nW := noIsW
  have uW := hasUnwrapW
  have hty := run_eql_iface_types (P := Tryd.prog) 123 152 (.agg #[.string s, .int .i64 n, .iface 152 (.pointer (some a))]) (.pointer (some b)) Tryd.underlying70 (by decide) w
  have lt : ∀ (p : Nat) (o : Obj), w.heap[p]? = some o → p < w.heap.size := fun p o h => by
    rcases Nat.lt_or_ge p w.heap.size with h' | h'
    · exact h'
    · rw [Array.getElem?_eq_none h'] at h; cases h
  have ha' := (Below.heap_alloc w (.cells #[.string s, .int .i64 n, .iface 152 (.pointer (some a))] 123) a.block (lt _ _ ha)).trans ha
  have hb' := (Below.heap_alloc w (.cells #[.string s, .int .i64 n, .iface 152 (.pointer (some a))] 123) b.block (lt _ _ hb)).trans hb
  have heq := run_eql_iface_ptr_other (P := Tryd.prog) (w.alloc (.cells #[.string s, .int .i64 n, .iface 152 (.pointer (some a))] 123)) Tryd.underlying70 Tryd.underlying152 hi hcmp hj (by rw [hjs]; decide) hne ha' hb'
  clear ha' hb' ha hb lt
  go_enter Tryd.func74, Tryd.ntmps74
  go_wp2
  refine wp_loop_rounds 2 ?_
  rw [rounds_succ]
  go_wp2
  rw [rounds_succ]
  go_wp2
  go_ret
  exact ⟨rfl, (Below.refl _ _).alloc (Nat.le_refl _) _⟩
end Go.Proofs.YtceoomihncchfaaDoor
