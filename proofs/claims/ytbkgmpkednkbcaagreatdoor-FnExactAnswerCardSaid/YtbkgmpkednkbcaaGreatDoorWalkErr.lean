/-
  What errors.Is does for an impl.boundError that wraps a sentinel of errors.New, asked for a sentinel: it returns whether it is the wrapped one, and changes nothing that was there; condition: two sentinels that are not one lie in plain cells.
  What the program's errors of numbers out of bounds are, and what code impl.boundCode gives each: 0 for none, 9 for one that wraps errEnd, 4 for one that wraps errRange, changing nothing that was there; condition: the two sentinels hold what the program's text lays there.
-/
import Derived.Test.YtbkgmpkednkbcaaGreatDoorCards
import Derived.WalkKit
import Derived.WalkSpells
import Derived.WalkLawsBesides
import Derived.Lib.Hide
import Derived.LaidEql
import Derived.Stop.Asserts
import Derived.Stop.LaidTwo
import Derived.Stop.Joined
import Derived.LaidMore
import Derived.RowKitTokens
namespace Go.Proofs.YtbkgmpkednkbcaaGreatDoor
open Go.RowKit Go.Extern.Stop Go.Stop Go.Extern
theorem callTypeOf (v : Value) (w : World) : (callFunc 123 #[.iface 181 v]).run Tryz.prog w = .ok (Next.value (.iface 150 (.agg #[.pointer (some ⟨3, 181, none⟩)]))) w := by kernel_rfl
theorem callComparable (w : World) : (callFunc 175 #[.agg #[.pointer (some ⟨3, 181, none⟩)]]).run Tryz.prog w = .ok (Next.value (.bool true)) w := by kernel_rfl
theorem mComparable (v : Value) (w : World) : (Go.method 313 150 v "Comparable").run Tryz.prog w = .ok (175, v) w := by kernel_rfl
theorem mUnwrap (v : Value) (w : World) : (Go.method 313 138 v "Unwrap").run Tryz.prog w = .ok (171, v) w := by kernel_rfl
theorem isComp : (Tryz.prog.info? 181).map (·.comparable) = some true := by kernel_rfl
theorem isSize : (Tryz.prog.info? 203).map (·.size) = some 1 := by kernel_rfl
theorem noIsE (v : Value) (xT : TypeId) (w : World) : (Instr.typeAssert (.iface 181 v) xT 152 true).run Tryz.prog w = .ok (.tuple #[.nilIface, .bool false]) w := run_typeAssert_lacksB Tryz.underlying152 (by kernel_rfl) (by kernel_rfl) v xT w
theorem noUnwrapE (v : Value) (xT : TypeId) (w : World) : (Instr.typeAssert (.iface 181 v) xT 155 true).run Tryz.prog w = .ok (.tuple #[.nilIface, .bool false]) w := run_typeAssert_lacksB Tryz.underlying155 (by kernel_rfl) (by kernel_rfl) v xT w
theorem noUnwrapsE (v : Value) (xT : TypeId) (w : World) : (Instr.typeAssert (.iface 181 v) xT 157 true).run Tryz.prog w = .ok (.tuple #[.nilIface, .bool false]) w := run_typeAssert_lacksB Tryz.underlying157 (by kernel_rfl) (by kernel_rfl) v xT w
theorem noIsW (v : Value) (xT : TypeId) (w : World) : (Instr.typeAssert (.iface 138 v) xT 152 true).run Tryz.prog w = .ok (.tuple #[.nilIface, .bool false]) w := run_typeAssert_lacksB Tryz.underlying152 (by kernel_rfl) (by kernel_rfl) v xT w
theorem hasUnwrapW (v : Value) (xT : TypeId) (w : World) : (Instr.typeAssert (.iface 138 v) xT 155 true).run Tryz.prog w = .ok (.tuple #[.iface 138 v, .bool true]) w := run_typeAssert_hasB Tryz.underlying155 (by kernel_rfl) v xT w
set_option maxRecDepth 100000 in
set_option maxHeartbeats 1000000 in
theorem is_bound_same (s : ByteArray) (n : Int) (b : Addr) (w : World) :
    Calls Tryz.prog 105 #[.iface 138 (.agg #[.string s, .int .i64 n, .iface 181 (.pointer (some b))]), .iface 181 (.pointer (some b))] w fun e w' => e = .returned (.bool true) ∧ Below w.heap.size w w' := by
  obtain ⟨i, hi, hcmp⟩ := Option.map_eq_some_iff.1 isComp
  obtain ⟨j, hj, hjs⟩ := Option.map_eq_some_iff.1 isSize
  have h8 := callTypeOf
  have h32 := callComparable
  have mR := mComparable
  have mU := mUnwrap
  have nE := noIsE
  have uE := noUnwrapE
  have vE := noUnwrapsE
  have nW := noIsW
  have uW := hasUnwrapW
  have hty := run_eql_iface_types (P := Tryz.prog) 138 181 (.agg #[.string s, .int .i64 n, .iface 181 (.pointer (some b))]) (.pointer (some b)) Tryz.underlying105 (by decide) w
  have heq := run_eql_iface_ptr_same (P := Tryz.prog) (w.alloc (.cells #[.string s, .int .i64 n, .iface 181 (.pointer (some b))] 138)) b Tryz.underlying105 Tryz.underlying181 hi hcmp hj
  go_enter Tryz.func105, Tryz.ntmps105
  go_wp2
  refine wp_loop_rounds 2 ?_
  rw [rounds_succ]
  go_wp2
  rw [rounds_succ]
  go_wp2
  go_ret
  exact ⟨rfl, (Below.refl _ _).alloc (Nat.le_refl _) _⟩
set_option maxRecDepth 100000 in
set_option maxHeartbeats 1000000 in
theorem is_bound_other (s : ByteArray) (n : Int) (a b : Addr) (ca cb : Array Value) (ta tb : TypeId) (w : World) (hne : a ≠ b) (ha : w.heap[a.block]? = some (.cells ca ta (0, 0))) (hb : w.heap[b.block]? = some (.cells cb tb (0, 0))) :
    Calls Tryz.prog 105 #[.iface 138 (.agg #[.string s, .int .i64 n, .iface 181 (.pointer (some a))]), .iface 181 (.pointer (some b))] w fun e w' => e = .returned (.bool false) ∧ Below w.heap.size w w' := by
  obtain ⟨i, hi, hcmp⟩ := Option.map_eq_some_iff.1 isComp
  obtain ⟨j, hj, hjs⟩ := Option.map_eq_some_iff.1 isSize
  have h8 := callTypeOf
  have h32 := callComparable
  have mR := mComparable
  have mU := mUnwrap
  have nE := noIsE
  have uE := noUnwrapE
  have vE := noUnwrapsE
  have nW := noIsW
  have uW := hasUnwrapW
  have hty := run_eql_iface_types (P := Tryz.prog) 138 181 (.agg #[.string s, .int .i64 n, .iface 181 (.pointer (some a))]) (.pointer (some b)) Tryz.underlying105 (by decide) w
  have lt : ∀ (p : Nat) (o : Obj), w.heap[p]? = some o → p < w.heap.size := fun p o h => by
    rcases Nat.lt_or_ge p w.heap.size with h' | h'
    · exact h'
    · rw [Array.getElem?_eq_none h'] at h; cases h
  have ha' := (Below.heap_alloc w (.cells #[.string s, .int .i64 n, .iface 181 (.pointer (some a))] 138) a.block (lt _ _ ha)).trans ha
  have hb' := (Below.heap_alloc w (.cells #[.string s, .int .i64 n, .iface 181 (.pointer (some a))] 138) b.block (lt _ _ hb)).trans hb
  have heq := run_eql_iface_ptr_other (P := Tryz.prog) (w.alloc (.cells #[.string s, .int .i64 n, .iface 181 (.pointer (some a))] 138)) Tryz.underlying105 Tryz.underlying181 hi hcmp hj (by rw [hjs]; decide) hne ha' hb'
  clear ha' hb' ha hb lt
  go_enter Tryz.func105, Tryz.ntmps105
  go_wp2
  refine wp_loop_rounds 2 ?_
  rw [rounds_succ]
  go_wp2
  rw [rounds_succ]
  go_wp2
  go_ret
  exact ⟨rfl, (Below.refl _ _).alloc (Nat.le_refl _) _⟩
end Go.Proofs.YtbkgmpkednkbcaaGreatDoor
namespace Go.Proofs.YtbkgmpkednkbcaaGreatDoor
open Go.RowKit Go.Extern.Stop Go.Stop Go.Extern
theorem star : "*errors.errorString" = "*" ++ "errors.errorString" := by decide
theorem rowES (u : TypeId) (h : Tryz.prog.typeName? 3 u = some "*errors.errorString") : u = 181 :=
  typeName_ptr_named (nm := "errors.errorString") (by rw [← star]; kernel_rfl) (by kernel_rfl) (by decide) u (by rw [← star]; exact h)
theorem gEnd : Tryz.prog.globalNamed "loop.example/g00664/impl.errEnd" = some 0 := by kernel_rfl
theorem gRange : Tryz.prog.globalNamed "loop.example/g00664/impl.errRange" = some 1 := by kernel_rfl
theorem tEnd : (Tryz.prog.globals[0]?).map (·.type) = some 105 := by kernel_rfl
theorem tRange : (Tryz.prog.globals[1]?).map (·.type) = some 105 := by kernel_rfl
theorem cES : Tryz.prog.cellsOf 203 = 1 := by kernel_rfl
theorem cStrE : Tryz.prog.cellsOf 9 = 1 := by kernel_rfl
/-- the two sentinels: aE for errEnd, aR for errRange -/
structure Sent (w : World) (aE aR : Addr) : Prop where
  cE : w.cell? ⟨0, 0, none⟩ = some (.iface 181 (.pointer (some aE)))
  cR : w.cell? ⟨1, 0, none⟩ = some (.iface 181 (.pointer (some aR)))
  ne : aR ≠ aE
  bE : ∃ c t, w.heap[aE.block]? = some (.cells c t (0, 0))
  bR : ∃ c t, w.heap[aR.block]? = some (.cells c t (0, 0))
theorem lt_of_cell {w : World} {b o : Nat} {v : Value} (h : w.cell? ⟨b, o, none⟩ = some v) : b < w.heap.size := by
  rcases Nat.lt_or_ge b w.heap.size with h' | h'
  · exact h'
  · simp [World.cell?, Array.getElem?_eq_none h'] at h
theorem lt_of_blk {w : World} {b : Nat} {o : Obj} (h : w.heap[b]? = some o) : b < w.heap.size := by
  rcases Nat.lt_or_ge b w.heap.size with h' | h'
  · exact h'
  · rw [Array.getElem?_eq_none h'] at h; cases h
theorem Sent.below {w w' : World} {aE aR : Addr} (h : Sent w aE aR) (hb : Below w.heap.size w w') : Sent w' aE aR := by
  obtain ⟨h1, h2, h3, ⟨c, t, h4⟩, ⟨c', t', h5⟩⟩ := h
  exact ⟨(hb.cell (p := ⟨0, 0, none⟩) (lt_of_cell h1)).trans h1, (hb.cell (p := ⟨1, 0, none⟩) (lt_of_cell h2)).trans h2, h3, ⟨c, t, (hb.block _ (lt_of_blk h4)).trans h4⟩, ⟨c', t', (hb.block _ (lt_of_blk h5)).trans h5⟩⟩
theorem sent_of_laid {W : World} {q : List (String × DataW Unit)} (hq : q = [("loop.example/g00664/impl.errRange", Rows.laid_loop_example_g00664_impl_errRange), ("loop.example/g00664/impl.errEnd", Rows.laid_loop_example_g00664_impl_errEnd)]) (h : laidMetH Tryz.prog q W) : ∃ aE aR, Sent W aE aR := by
  subst hq
  rw [MakeChecks.laidMetH_plain _ _ _ (by kernel_rfl)] at h
  obtain ⟨a0, a1, s0, s1, c0, c1, t0, t1, hv0, hv1, _, _, _, _, _, _, hne, hb0, hb1⟩ := laid_sentinels2 h gRange tRange gEnd tEnd Tryz.underlying105 rowES Tryz.underlying181 Tryz.underlying203 rfl rfl Tryz.underlying9 cES cStrE
  exact ⟨a1, a0, ⟨World.var?_cell gEnd hv1 0, World.var?_cell gRange hv0 0, hne, ⟨c1, t1, hb1⟩, ⟨c0, t0, hb0⟩⟩⟩
/-- an error of a number out of bounds, wrapping the sentinel at a -/
def bErr (s : ByteArray) (n : Int) (a : Addr) : Value := .iface 138 (.agg #[.string s, .int .i64 n, .iface 181 (.pointer (some a))])
def sizeT : ByteArray := ⟨#[115, 105, 122, 101]⟩
def placeT : ByteArray := ⟨#[112, 108, 97, 99, 101]⟩
set_option maxHeartbeats 400000 in
theorem noSizeC (n : Int) (w : World) (aE aR : Addr) (h : Sent w aE aR) :
    Calls Tryz.prog 104 #[.int .i64 n] w fun e w' => e = .returned (bErr sizeT n aR) ∧ w = w' := by
  have h1 := h.cR
  clear h
  go_enter Tryz.func104, Tryz.ntmps104
  go_wp2
  go_ret
  exact ⟨rfl, rfl⟩
set_option maxHeartbeats 400000 in
theorem codeNil (w : World) : Calls Tryz.prog 85 #[.nilIface] w fun e w' => e = .returned (.int .i64 0) ∧ w = w' := by
  go_enter Tryz.func85, Tryz.ntmps85
  go_wp2
  go_ret
  exact ⟨rfl, rfl⟩
set_option maxHeartbeats 400000 in
theorem codeRange (s : ByteArray) (n : Int) (w : World) (aE aR : Addr) (h : Sent w aE aR) :
    Calls Tryz.prog 85 #[bErr s n aR] w fun e w' => e = .returned (.int .i64 4) ∧ Below w.heap.size w w' := by
  obtain ⟨h1, h2, hne, ⟨c, t, hE⟩, ⟨c', t', hR⟩⟩ := h
  have HC := Lib.hid (is_bound_other s n aR aE c' c t' t w hne hR hE)
  clear h2 hne hE hR
  unfold bErr
  go_enter Tryz.func85, Tryz.ntmps85
  go_wp2_with (go_at_call 105; refine (HC.out).mono ?_; rintro e w1 ⟨rfl, hb⟩)
  go_ret
  exact ⟨rfl, hb⟩
set_option maxHeartbeats 400000 in
theorem codeEnd (s : ByteArray) (n : Int) (w : World) (aE aR : Addr) (h : Sent w aE aR) :
    Calls Tryz.prog 85 #[bErr s n aE] w fun e w' => e = .returned (.int .i64 9) ∧ Below w.heap.size w w' := by
  obtain ⟨h1, h2, hne, ⟨c, t, hE⟩, ⟨c', t', hR⟩⟩ := h
  have HC := Lib.hid (is_bound_same s n aE w)
  clear h2 hne hE hR
  unfold bErr
  go_enter Tryz.func85, Tryz.ntmps85
  go_wp2_with (go_at_call 105; refine (HC.out).mono ?_; rintro e w1 ⟨rfl, hb⟩)
  go_ret
  exact ⟨rfl, hb⟩
end Go.Proofs.YtbkgmpkednkbcaaGreatDoor
