/-
  What the program's errors of numbers out of bounds are, and what code impl.boundCode gives each: 0 for none, 9 for one that wraps errEnd, 4 for one that wraps errRange, changing nothing that was there; condition: the two sentinels hold what the program's text lays there.
-/
import Derived.Test.YtinjpobepcenfaaDoorWalkIs
namespace Go.Proofs.YtinjpobepcenfaaDoor
open Go.RowKit Go.Extern.Stop Go.Stop Go.Extern
theorem star : "*errors.errorString" = "*" ++ "errors.errorString" := by decide
theorem rowES (u : TypeId) (h : Tryd.prog.typeName? 3 u = some "*errors.errorString") : u = 134 :=
  typeName_ptr_named (nm := "errors.errorString") (by rw [← star]; kernel_rfl) (by kernel_rfl) (by decide) u (by rw [← star]; exact h)
theorem gEnd : Tryd.prog.globalNamed "loop.example/g00664/impl.errEnd" = some 8 := by kernel_rfl
theorem gRange : Tryd.prog.globalNamed "loop.example/g00664/impl.errRange" = some 0 := by kernel_rfl
theorem tEnd : (Tryd.prog.globals[8]?).map (·.type) = some 49 := by kernel_rfl
theorem tRange : (Tryd.prog.globals[0]?).map (·.type) = some 49 := by kernel_rfl
theorem cES : Tryd.prog.cellsOf 150 = 1 := by kernel_rfl
theorem cStrE : Tryd.prog.cellsOf 9 = 1 := by kernel_rfl
/-- the two sentinels: aE for errEnd, aR for errRange -/
structure Sent (w : World) (aE aR : Addr) : Prop where
  cE : w.cell? ⟨8, 0, none⟩ = some (.iface 134 (.pointer (some aE)))
  cR : w.cell? ⟨0, 0, none⟩ = some (.iface 134 (.pointer (some aR)))
  ne : aR ≠ aE
  bE : ∃ c t, w.heap[aE.block]? = some (.cells c t (0, 0))
  bR : ∃ c t, w.heap[aR.block]? = some (.cells c t (0, 0))
theorem lt_of_cell {w : World} {b o : Nat} {v : Value} (h : w.cell? ⟨b, o, none⟩ = some v) : b < w.heap.size := by
  rcases Nat.lt_or_ge b w.heap.size with h' | h'
  · exact h'
  · simp [World.cell?, Array.getElem?_eq_none h'] at h
theorem lt_of_blk {w : World} {b : Nat} {o : Obj} (h : w.heap[b]? = some o) : b < w.heap.size := by
  rcases Nat.lt_or_ge b w.heap.size with h' | h'
  · exact h'
  · rw [Array.getElem?_eq_none h'] at h; cases h
theorem Sent.below {w w' : World} {aE aR : Addr} (h : Sent w aE aR) (hb : Below w.heap.size w w') : Sent w' aE aR := by
  obtain ⟨h1, h2, h3, ⟨c, t, h4⟩, ⟨c', t', h5⟩⟩ := h
  exact ⟨(hb.cell (p := ⟨8, 0, none⟩) (lt_of_cell h1)).trans h1, (hb.cell (p := ⟨0, 0, none⟩) (lt_of_cell h2)).trans h2, h3, ⟨c, t, (hb.block _ (lt_of_blk h4)).trans h4⟩, ⟨c', t', (hb.block _ (lt_of_blk h5)).trans h5⟩⟩
theorem sent_of_laid {W : World} {q : List (String × DataW Unit)} (hq : q = [("loop.example/g00664/impl.errRange", Rows.laid_loop_example_g00664_impl_errRange), ("loop.example/g00664/impl.errEnd", Rows.laid_loop_example_g00664_impl_errEnd)]) (h : laidMetH Tryd.prog q W) : ∃ aE aR, Sent W aE aR := by
  subst hq
  rw [MakeChecks.laidMetH_plain _ _ _ (by kernel_rfl)] at h
  obtain ⟨a0, a1, s0, s1, c0, c1, t0, t1, hv0, hv1, _, _, _, _, _, _, hne, hb0, hb1⟩ := laid_sentinels2 h gRange tRange gEnd tEnd Tryd.underlying49 rowES Tryd.underlying134 Tryd.underlying150 rfl rfl Tryd.underlying9 cES cStrE
  exact ⟨a1, a0, ⟨World.var?_cell gEnd hv1 0, World.var?_cell gRange hv0 0, hne, ⟨c1, t1, hb1⟩, ⟨c0, t0, hb0⟩⟩⟩
/-- an error of a number out of bounds, wrapping the sentinel at a -/
def bErr (s : ByteArray) (n : Int) (a : Addr) : Value := .iface 84 (.agg #[.string s, .int .i64 n, .iface 134 (.pointer (some a))])
def sizeT : ByteArray := ⟨#[115, 105, 122, 101]⟩
def placeT : ByteArray := ⟨#[112, 108, 97, 99, 101]⟩
set_option maxHeartbeats 400000 in
theorem noSizeC (n : Int) (w : World) (aE aR : Addr) (h : Sent w aE aR) :
    Calls Tryd.prog 43 #[.int .i64 n] w fun e w' => e = .returned (bErr sizeT n aR) ∧ w = w' := by
  have h1 := h.cR
  clear h
  go_enter Tryd.func43, Tryd.ntmps43
  go_wp2
  go_ret
  exact ⟨rfl, rfl⟩
end Go.Proofs.YtinjpobepcenfaaDoor
