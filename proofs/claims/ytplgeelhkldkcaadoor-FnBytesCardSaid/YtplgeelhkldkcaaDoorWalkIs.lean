/-
  What errors.Is does for an impl.boundError that wraps a sentinel of errors.New, asked for a sentinel: it returns whether it is the wrapped one, and changes nothing that was there; condition: two sentinels that are not one lie in plain cells.
-/
import Derived.Test.YtplgeelhkldkcaaDoorCards
import Derived.WalkKit
import Derived.WalkSpells
import Derived.WalkLawsBesides
import Derived.Lib.Hide
import Derived.LaidEql
import Derived.Stop.Asserts
import Derived.Stop.LaidTwo
import Derived.Stop.Joined
import Derived.LaidMore
import Derived.RowKitTokens
namespace Go.Proofs.YtplgeelhkldkcaaDoor
open Go.RowKit Go.Extern.Stop Go.Stop Go.Extern
theorem callTypeOf (v : Value) (w : World) : (callFunc 49 #[.iface 80 v]).run Tryd.prog w = .ok (Next.value (.iface 70 (.agg #[.pointer (some ⟨2, 80, none⟩)]))) w := by kernel_rfl
theorem callComparable (w : World) : (callFunc 72 #[.agg #[.pointer (some ⟨2, 80, none⟩)]]).run Tryd.prog w = .ok (Next.value (.bool true)) w := by kernel_rfl
theorem mComparable (v : Value) (w : World) : (Go.method 215 70 v "Comparable").run Tryd.prog w = .ok (72, v) w := by kernel_rfl
theorem mUnwrap (v : Value) (w : World) : (Go.method 215 63 v "Unwrap").run Tryd.prog w = .ok (68, v) w := by kernel_rfl
theorem isComp : (Tryd.prog.info? 80).map (·.comparable) = some true := by kernel_rfl
theorem isSize : (Tryd.prog.info? 104).map (·.size) = some 1 := by kernel_rfl
theorem noIsE (v : Value) (xT : TypeId) (w : World) : (Instr.typeAssert (.iface 80 v) xT 72 true).run Tryd.prog w = .ok (.tuple #[.nilIface, .bool false]) w := run_typeAssert_lacksB Tryd.underlying72 (by kernel_rfl) (by kernel_rfl) v xT w
theorem noUnwrapE (v : Value) (xT : TypeId) (w : World) : (Instr.typeAssert (.iface 80 v) xT 75 true).run Tryd.prog w = .ok (.tuple #[.nilIface, .bool false]) w := run_typeAssert_lacksB Tryd.underlying75 (by kernel_rfl) (by kernel_rfl) v xT w
theorem noUnwrapsE (v : Value) (xT : TypeId) (w : World) : (Instr.typeAssert (.iface 80 v) xT 77 true).run Tryd.prog w = .ok (.tuple #[.nilIface, .bool false]) w := run_typeAssert_lacksB Tryd.underlying77 (by kernel_rfl) (by kernel_rfl) v xT w
theorem noIsW (v : Value) (xT : TypeId) (w : World) : (Instr.typeAssert (.iface 63 v) xT 72 true).run Tryd.prog w = .ok (.tuple #[.nilIface, .bool false]) w := run_typeAssert_lacksB Tryd.underlying72 (by kernel_rfl) (by kernel_rfl) v xT w
theorem hasUnwrapW (v : Value) (xT : TypeId) (w : World) : (Instr.typeAssert (.iface 63 v) xT 75 true).run Tryd.prog w = .ok (.tuple #[.iface 63 v, .bool true]) w := run_typeAssert_hasB Tryd.underlying75 (by kernel_rfl) v xT w
set_option maxRecDepth 100000 in
set_option maxHeartbeats 1000000 in
theorem is_bound_same (s : ByteArray) (n : Int) (b : Addr) (w : World) :
    Calls Tryd.prog 38 #[.iface 63 (.agg #[.string s, .int .i64 n, .iface 80 (.pointer (some b))]), .iface 80 (.pointer (some b))] w fun e w' => e = .returned (.bool true) ∧ Below w.heap.size w w' := by
  obtain ⟨i, hi, hcmp⟩ := Option.map_eq_some_iff.1 isComp
  obtain ⟨j, hj, hjs⟩ := Option.map_eq_some_iff.1 isSize
  have h8 := callTypeOf
  have h32 := callComparable
  have mR := mComparable
  have mU := mUnwrap
  have nE := noIsE
  have uE := noUnwrapE
  have vE := noUnwrapsE
  have nW := noIsW
  have uW := hasUnwrapW
  have hty := run_eql_iface_types (P := Tryd.prog) 63 80 (.agg #[.string s, .int .i64 n, .iface 80 (.pointer (some b))]) (.pointer (some b)) Tryd.underlying42 (by decide) w
  have heq := run_eql_iface_ptr_same (P := Tryd.prog) (w.alloc (.cells #[.string s, .int .i64 n, .iface 80 (.pointer (some b))] 63)) b Tryd.underlying42 Tryd.underlying80 hi hcmp hj
  go_enter Tryd.func38, Tryd.ntmps38
  go_wp2
  refine wp_loop_rounds 2 ?_
  rw [rounds_succ]
  go_wp2
  rw [rounds_succ]
  go_wp2
  go_ret
  exact ⟨rfl, (Below.refl _ _).alloc (Nat.le_refl _) _⟩
set_option maxRecDepth 100000 in
set_option maxHeartbeats 1000000 in
theorem is_bound_other (s : ByteArray) (n : Int) (a b : Addr) (ca cb : Array Value) (ta tb : TypeId) (w : World) (hne : a ≠ b) (ha : w.heap[a.block]? = some (.cells ca ta (0, 0))) (hb : w.heap[b.block]? = some (.cells cb tb (0, 0))) :
    Calls Tryd.prog 38 #[.iface 63 (.agg #[.string s, .int .i64 n, .iface 80 (.pointer (some a))]), .iface 80 (.pointer (some b))] w fun e w' => e = .returned (.bool false) ∧ Below w.heap.size w w' := by
  obtain ⟨i, hi, hcmp⟩ := Option.map_eq_some_iff.1 isComp
  obtain ⟨j, hj, hjs⟩ := Option.map_eq_some_iff.1 isSize
  have h8 := callTypeOf
  have h32 := callComparable
  have mR := mComparable
  have mU := mUnwrap
  have nE := noIsE
  have uE := noUnwrapE
  have vE := noUnwrapsE
  have nW := noIsW
  have uW := hasUnwrapW
  have hty := run_eql_iface_types (P := Tryd.prog) 63 80 (.agg #[.string s, .int .i64 n, .iface 80 (.pointer (some a))]) (.pointer (some b)) Tryd.underlying42 (by decide) w
  have lt : ∀ (p : Nat) (o : Obj), w.heap[p]? = some o → p < w.heap.size := fun p o h => by
    rcases Nat.lt_or_ge p w.heap.size with h' | h'
    · exact h'
    · rw [Array.getElem?_eq_none h'] at h; cases h
  have ha' := (Below.heap_alloc w (.cells #[.string s, .int .i64 n, .iface 80 (.pointer (some a))] 63) a.block (lt _ _ ha)).trans ha
  have hb' := (Below.heap_alloc w (.cells #[.string s, .int .i64 n, .iface 80 (.pointer (some a))] 63) b.block (lt _ _ hb)).trans hb
  have heq := run_eql_iface_ptr_other (P := Tryd.prog) (w.alloc (.cells #[.string s, .int .i64 n, .iface 80 (.pointer (some a))] 63)) Tryd.underlying42 Tryd.underlying80 hi hcmp hj (by rw [hjs]; decide) hne ha' hb'
  clear ha' hb' ha hb lt
  go_enter Tryd.func38, Tryd.ntmps38
  go_wp2
  refine wp_loop_rounds 2 ?_
  rw [rounds_succ]
  go_wp2
  rw [rounds_succ]
  go_wp2
  go_ret
  exact ⟨rfl, (Below.refl _ _).alloc (Nat.le_refl _) _⟩
end Go.Proofs.YtplgeelhkldkcaaDoor
