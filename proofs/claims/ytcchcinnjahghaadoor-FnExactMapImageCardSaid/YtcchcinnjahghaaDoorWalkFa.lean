/-
  What impl.imageFault tells of the errors that impl.checkImage makes, and what impl.CheckImage answers; condition: the library's own variable of errors.As holds what Go's text lays there.
-/
import Derived.Test.YtcchcinnjahghaaDoorWalkAs
namespace Go.Proofs.YtcchcinnjahghaaDoor
open Go.RowKit
set_option linter.unusedVariables false
set_option linter.unusedSimpArgs false
/-- the variable of package errors that errors.As reads -/
def EtOk (w : World) : Prop := w.cell? ⟨0, 0, none⟩ = some (.iface 136 (.agg #[.pointer (some ⟨4, 49, none⟩)]))
theorem lt_cell {w : World} {b o : Nat} {v : Value} (h : w.cell? ⟨b, o, none⟩ = some v) : b < w.heap.size := by
  rcases Nat.lt_or_ge b w.heap.size with h' | h'
  · exact h'
  · simp [World.cell?, Array.getElem?_eq_none h'] at h
theorem EtOk.lt {w : World} (h : EtOk w) : 0 < w.heap.size := lt_cell h
theorem EtOk.next {w w' : World} (h : EtOk w) (hb : Below w.heap.size w w') : EtOk w' := (hb.cell (p := ⟨0, 0, none⟩) h.lt).trans h
theorem below_up {w W : World} {t : Nat} (h : Below w.heap.size w W) (ht : t ≤ w.heap.size) : Below t w W := h.mono ht
theorem hitI (c : Int) (t : Nat) (w : World) (hg : EtOk w) (old : Value) (ht0 : w.cell? ⟨t, 0, none⟩ = some old) (hf0 : w.frozen? ⟨t, 0, none⟩ = false) :
    Calls Tryd.prog 44 #[.iface 83 (.int .i64 c), .iface 84 (.pointer (some ⟨t, 0, none⟩))] w fun ev w' => ev = .returned (.bool true) ∧ w'.cell? ⟨t, 0, none⟩ = some (.int .i64 c) ∧ Below t w w' := by
  have htl := lt_cell ht0
  refine (as_hitI c t w hg htl old ht0 hf0).mono fun e w' ⟨he, hw⟩ => ?_
  subst hw
  have hb := ((((belowA w (.cells #[.pointer (some ⟨t, 0, none⟩)] 84)).alloc (by simp) (.cells #[.pointer (some ⟨4, 84, none⟩), .pointer (some ⟨w.heap.size, 0, none⟩), .int .u64 150] 113)).alloc (by simp; omega) (.cells #[.pointer (some ⟨4, 84, none⟩), .pointer (some ⟨w.heap.size, 0, none⟩), .int .u64 150] 113)).alloc (by simp; omega) (.cells #[.int .i64 c] 83))
  exact ⟨he, cellSame ((hb.cell (p := ⟨t, 0, none⟩) htl).trans ht0) _, (hb.mono (Nat.le_of_lt htl)).setCell (Nat.le_refl _) _⟩
theorem hitS (k c : Int) (t : Nat) (w : World) (hg : EtOk w) (o0 o1 : Value) (ht0 : w.cell? ⟨t, 0, none⟩ = some o0) (ht1 : w.cell? ⟨t, 1, none⟩ = some o1) (hf0 : w.frozen? ⟨t, 0, none⟩ = false) (hf1 : w.frozen? ⟨t, 1, none⟩ = false) :
    Calls Tryd.prog 44 #[.iface 79 (.agg #[.int .i64 k, .iface 83 (.int .i64 c)]), .iface 82 (.pointer (some ⟨t, 0, none⟩))] w fun ev w' => ev = .returned (.bool true) ∧ w'.cell? ⟨t, 0, none⟩ = some (.int .i64 k) ∧ Below t w w' := by
  have htl := lt_cell ht0
  refine (as_hitS k c t w hg htl o0 o1 ht0 ht1 hf0 hf1).mono fun e w' ⟨he, hw⟩ => ?_
  subst hw
  have hb := ((((belowA w (.cells #[.pointer (some ⟨t, 0, none⟩)] 82)).alloc (by simp) (.cells #[.pointer (some ⟨4, 82, none⟩), .pointer (some ⟨w.heap.size, 0, none⟩), .int .u64 150] 113)).alloc (by simp; omega) (.cells #[.pointer (some ⟨4, 82, none⟩), .pointer (some ⟨w.heap.size, 0, none⟩), .int .u64 150] 113)).alloc (by simp; omega) (.cells #[.int .i64 k, .iface 83 (.int .i64 c)] 79))
  exact ⟨he, (cellOther (by simp) _).trans (cellSame ((hb.cell (p := ⟨t, 0, none⟩) htl).trans ht0) _), ((hb.mono (Nat.le_of_lt htl)).setCell (Nat.le_refl _) _).setCell (Nat.le_refl _) _⟩
theorem missS (c : Int) (t : Nat) (w : World) (hg : EtOk w) (o0 : Value) (ht0 : w.cell? ⟨t, 0, none⟩ = some o0) :
    Calls Tryd.prog 44 #[.iface 83 (.int .i64 c), .iface 82 (.pointer (some ⟨t, 0, none⟩))] w fun ev w' => ev = .returned (.bool false) ∧ Below w.heap.size w w' := by
  refine (as_miss c t w hg (lt_cell ht0)).mono fun e w' ⟨he, hw⟩ => ?_
  subst hw
  exact ⟨he, ((belowA w (.cells #[.pointer (some ⟨t, 0, none⟩)] 82)).alloc (by simp) _).alloc (by simp; omega) _⟩
theorem nextI (k c : Int) (t : Nat) (w : World) (hg : EtOk w) (old : Value) (ht0 : w.cell? ⟨t, 0, none⟩ = some old) (hf0 : w.frozen? ⟨t, 0, none⟩ = false) :
    Calls Tryd.prog 44 #[.iface 79 (.agg #[.int .i64 k, .iface 83 (.int .i64 c)]), .iface 84 (.pointer (some ⟨t, 0, none⟩))] w fun ev w' => ev = .returned (.bool true) ∧ w'.cell? ⟨t, 0, none⟩ = some (.int .i64 c) ∧ Below t w w' := by
  have htl := lt_cell ht0
  refine (as_next k c t w hg htl old ht0 hf0).mono fun e w' ⟨he, hw⟩ => ?_
  subst hw
  have hb := (((((belowA w (.cells #[.pointer (some ⟨t, 0, none⟩)] 84)).alloc (by simp) (.cells #[.pointer (some ⟨4, 84, none⟩), .pointer (some ⟨w.heap.size, 0, none⟩), .int .u64 150] 113)).alloc (by simp; omega) (.cells #[.pointer (some ⟨4, 84, none⟩), .pointer (some ⟨w.heap.size, 0, none⟩), .int .u64 150] 113)).alloc (by simp; omega) (.cells #[.int .i64 k, .iface 83 (.int .i64 c)] 79)).alloc (by simp; omega) (.cells #[.int .i64 c] 83))
  exact ⟨he, cellSame ((hb.cell (p := ⟨t, 0, none⟩) htl).trans ht0) _, (hb.mono (Nat.le_of_lt htl)).setCell (Nat.le_refl _) _⟩
set_option maxHeartbeats 1000000 in
theorem faultC (k : Nat) (c : Int) (V : Value) (w : World) (hg : EtOk w) (hV : ErrIs k c V) :
    Calls Tryd.prog 19 #[V] w fun e w' => e = .returned (.tuple #[.int .i64 (k : Int), .int .i64 c]) ∧ Below w.heap.size w w' := by
  have A1 := Lib.hid (belowA w (.cells #[.int .i64 0, .nilIface] 79))
  have G1 := Lib.hid (hg.next A1.out)
  have c0 : (w.alloc (.cells #[.int .i64 0, .nilIface] 79)).cell? ⟨w.heap.size, 0, none⟩ = some (.int .i64 0) := by go_cell
  have c1 : (w.alloc (.cells #[.int .i64 0, .nilIface] 79)).cell? ⟨w.heap.size, 1, none⟩ = some .nilIface := by go_cell
  have f0 : (w.alloc (.cells #[.int .i64 0, .nilIface] 79)).frozen? ⟨w.heap.size, 0, none⟩ = false := by simp [go_sem]
  have f1 : (w.alloc (.cells #[.int .i64 0, .nilIface] 79)).frozen? ⟨w.heap.size, 1, none⟩ = false := by simp [go_sem]
  rcases hV with ⟨rfl, rfl⟩ | ⟨hn, rfl⟩
  · by_cases h0 : c = 0
    · subst h0
      rw [show imE 0 = .nilIface from rfl]
      clear c0 c1 f0 f1
      go_enter Tryd.func19, Tryd.ntmps19
      go_wp2_with fail
      refine (as_nil _ _).mono ?_
      rintro e w1 ⟨rfl, rfl⟩
      go_wp2_with fail
      refine (as_nil _ _).mono ?_
      rintro e w1 ⟨rfl, rfl⟩
      go_wp2
      go_returns
      exact ⟨rfl, A1.out.alloc A1.out.size _⟩
    · rw [show imE c = .iface 83 (.int .i64 c) from if_neg h0]
      have M := Lib.hid (missS c w.heap.size _ G1.out _ c0)
      clear c1 f0 f1 h0
      have C0 := Lib.hid c0
      clear c0
      go_enter Tryd.func19, Tryd.ntmps19
      go_wp2_with fail
      refine (M.out).mono ?_
      rintro e w1 ⟨rfl, b1⟩
      have L1 := A1.out.trans (b1.mono A1.out.size)
      have G2 := G1.out.next b1
      have lw : w.heap.size < w1.heap.size := by have := b1.size; simp at this; omega
      have B2 := Lib.hid (belowA w1 (.cells #[.int .i64 0] 83))
      have H := Lib.hid (hitI c w1.heap.size (w1.alloc (.cells #[.int .i64 0] 83)) (G2.next B2.out) (.int .i64 0) (by go_cell) (by simp [go_sem]))
      clear b1 M C0 G1
      go_wp2_with fail
      refine (H.out).mono ?_
      rintro e w2 ⟨rfl, d0, b2⟩
      have L2 : Below w.heap.size w w2 := (L1.alloc L1.size _).trans (b2.mono (Nat.le_of_lt lw))
      clear H B2 G2
      go_wp2
      go_returns
      exact ⟨rfl, L2⟩
  · unfold sgE
    have M := Lib.hid (hitS (k : Int) c w.heap.size _ G1.out _ _ c0 c1 f0 f1)
    clear c0 c1 f0 f1 hn
    go_enter Tryd.func19, Tryd.ntmps19
    go_wp2_with fail
    refine (M.out).mono ?_
    rintro e w1 ⟨rfl, d0, b1⟩
    have lw : w.heap.size < w1.heap.size := lt_cell d0
    have L1 : Below w.heap.size w w1 := A1.out.trans b1
    have G2 := hg.next L1
    have B2 := Lib.hid (belowA w1 (.cells #[.int .i64 0] 83))
    have H := Lib.hid (nextI (k : Int) c w1.heap.size (w1.alloc (.cells #[.int .i64 0] 83)) (G2.next B2.out) (.int .i64 0) (by go_cell) (by simp [go_sem]))
    clear b1 M G1
    go_wp2_with fail
    refine (H.out).mono ?_
    rintro e w2 ⟨rfl, d2, b2⟩
    have L2 : Below w.heap.size w w2 := (L1.alloc L1.size _).trans (b2.mono (Nat.le_of_lt lw))
    clear H B2 G2
    go_wp2
    go_returns
    exact ⟨rfl, L2⟩
theorem checkI (n : Int) (p : Option Addr) (cap : Nat) (l : List Sg) (w : World) (hg : EtOk w) (hcap : l.length ≤ cap) (hr : RdS w p l) (hs : SmallS l) (k : Nat) (c : Int) (hc : Chk n l k c) :
    Calls Tryd.prog 27 #[.agg #[.int .i64 n, .slice p l.length cap]] w fun e w' => e = .returned (.tuple #[.int .i64 (k : Int), .int .i64 c]) ∧ Below w.heap.size w w' := by
  have b0 := Lib.hid (belowA w (.cells #[.int .i64 n, .slice p l.length cap] 24))
  have C := Lib.hid (chkI n p cap l _ hcap (hr.below b0.out) hs k c hc)
  have HG := Lib.hid hg
  clear hr hs hc hg
  go_enter Tryd.func27, Tryd.ntmps27
  go_wp2_with fail
  refine (C.out).mono ?_
  rintro e w1 ⟨⟨V, rfl, hV⟩, b1⟩
  have L := b0.out.trans (b1.mono b0.out.size)
  have D := Lib.hid (faultC k c V w1 (HG.out.next L) hV)
  clear hV b1
  go_wp2_with fail
  refine (D.out).mono ?_
  rintro e w2 ⟨rfl, b2⟩
  go_wp2
  go_returns
  exact ⟨rfl, L.trans (b2.mono L.size)⟩
theorem etName : Tryd.prog.globalNamed "errors.errorType" = some 0 := by kernel_rfl
theorem rtName : (Tryd.prog.cutTypes.find? (·.1 == "internal/reflectlite.rtype")).map (·.2) = some 136 := by kernel_rfl
theorem errRow : ((List.range (302 - 100)).filter fun t => Tryd.prog.rowNamed t [101, 114, 114, 111, 114]) = [49] := by kernel_rfl
theorem typesSize : Tryd.prog.types.size = 302 - 100 := by kernel_rfl
/-- from what the row lays to the variable's cell -/
theorem et_of_laid {W : World} {q : List (String × DataW Unit)} (hq : q.filter (fun x => x.2.handleName?.isSome) = [("errors.errorType", Rows.laid_errors_errorType)]) (h : laidMetH Tryd.prog q W) : EtOk W := by
  unfold laidMetH at h
  rw [hq] at h
  obtain ⟨name, u, ty, e1, e2, e3, e4, e5⟩ := h.2 _ (List.mem_singleton.2 rfl)
  have en : name = [101, 114, 114, 111, 114] := (Option.some.inj e1).symm
  subst en
  obtain rfl := Option.some.inj (rtName.symm.trans e2)
  have hm : ty ∈ (List.range (302 - 100)).filter fun t => Tryd.prog.rowNamed t [101, 114, 114, 111, 114] := List.mem_filter.2 ⟨List.mem_range.2 (by rw [← typesSize]; exact e3), e4⟩
  rw [errRow] at hm
  obtain rfl := List.mem_singleton.1 hm
  have hh : typeHandle Tryd.prog 49 = .pointer (some ⟨4, 49, none⟩) := by kernel_rfl
  rw [hh] at e5
  unfold EtOk
  simpa using World.var?_cell etName e5 0
end Go.Proofs.YtcchcinnjahghaaDoor
