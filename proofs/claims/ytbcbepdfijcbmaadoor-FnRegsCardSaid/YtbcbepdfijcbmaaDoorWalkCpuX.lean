/-
  SetReg of both: what is refused, and what is answered; conditions: those in each head.
-/
import Derived.Test.YtbcbepdfijcbmaaDoorWalkCpuU
import Derived.Test.YtbcbepdfijcbmaaDoorMathCs
import Derived.Test.YtbcbepdfijcbmaaDoorWalkWd
namespace Go.Proofs.YtbcbepdfijcbmaaDoor
open Go.RowKit
set_option linter.unusedVariables false
theorem res_cell_row2 {P : Program} {fn : Func} {p u : Tmp} {ty : TypeId} (h : fn.results = #[.cell p ty, .tmp u]) (tmps : Array Value) (w : World) (g : Nat) (t : TypeId) (cs : Array Value) (fr : Nat × Nat) (d : TypeDesc)
    (hp : tmps.getD p undef = .pointer (some ⟨g, 0, none⟩)) (hg : w.heap[g]? = some (.cells cs t fr))
    (hu : P.underlying ty = some d) (hd : (match d with | .struct _ | .array _ _ => true | _ => false) = true) (hi : (P.info? ty).map (·.size) = some cs.size) :
    (results fn tmps).run P w = .ok (.tuple #[.agg cs, tmps.getD u undef]) w := by
  have hp' : tmps[p]?.getD undef = .pointer (some ⟨g, 0, none⟩) := by simpa using hp
  simp [results, h, hp', asAddr, run_loadVar_row w g t ty cs fr d hg hu hd hi]
/-- a call that writes into block b alone: the processor there is c' now -/
structure SetOut (W W' : World) (b : Nat) (c' : Cp) : Prop where
  row : Cpb W' b (cpV c')
  far : ∀ g V, g ≠ b → Cpb W g V → Cpb W' g V
  be : ∀ B w, Below B w W → B ≤ b → Below B w W'
theorem SetOut.cell {W : World} {b : Nat} {c : Cp} (h : Cpb W b (cpV c)) (k : Nat) (hk : k < 16) (v : Int) : SetOut W (W.setCell ⟨b, k, none⟩ (.int .i64 v)) b (c.set k v) :=
  ⟨h.set k hk v, fun g V hg hV => hV.far k _ hg, fun B w hB hb => hB.setCell hb _⟩
theorem SetOut.drew {W W' : World} {b : Nat} {c : Cp} (h : SetOut W W' b c) : SetOut W W'.drew b c := ⟨h.row, h.far, fun B w hB hb => (h.be B w hB hb).drew⟩
theorem free_row {W : World} {b : Nat} {V : Array Value} (h : Cpb W b V) (k : Nat) : W.frozen? ⟨b, k, none⟩ = false := by unfold Cpb at h; simp [World.frozen?, h]
/-- the register and its new number -/
theorem setBoth (c : Cp) (a n v : Int) (hw : CpW c) (h : okSize n ∧ 0 ≤ a ∧ a ≤ topReg n) : ∃ (k : Nat) (y : Int), k < 16 ∧
    (∀ W b, Cpb W b (cpV c) → Calls Tryd.prog 37 #[.pointer (some ⟨b, 0, none⟩), .int .i64 a, .int .i64 n, .int .i64 v] W fun e w' => e = .returned (.tuple #[]) ∧ SetOut W w' b (c.set k y)) ∧
    (∀ W, Calls Tryd.prog 36 #[.agg (cpV c), .int .i64 a, .int .i64 n, .int .i64 v] W fun e w' => e = .returned (.agg (cpV (c.set k y))) ∧ Below W.heap.size W w') := by
  obtain ⟨hn, h0, h1⟩ := h
  obtain ⟨X, hX⟩ := natU v
  by_cases ha : a ≤ 15
  · obtain ⟨k, rfl⟩ := Int.eq_ofNat_of_zero_le h0
    have hk : k < 16 := by omega
    have cell (W : World) (b : Nat) (hb : Cpb W b (cpV c)) := (cell_of_row W b k _ _ _ hb).trans (cpV_at c k hk)
    rcases hn with rfl | rfl | rfl | rfl
    · have hx : wrap64 ((X % 2 ^ (8 * 1) : Nat) : Int) = v % 256 := by rw [eqZ1 hX]
      have ho : ∀ (V : Nat) (u : Int), IntKind.u64.wrap u = (V : Int) → wrap64 ((V % 2 ^ (8 * 1) : Nat) : Int) = u % 256 := fun V u hV => by rw [eqZ1 hV]
      obtain ⟨O, hO⟩ := natU (c.rs k)
      refine ⟨k, wrap64 (c.rs k + wrap64 (v % 256 - c.rs k % 256)), hk, fun W b hb => ?_, fun W => ?_⟩
      · refine (setIL W b (c.rs k) v (v % 256) (c.rs k % 256) 1 k hk (by decide) (cell W b hb) (free_row hb k) (fun w => ?_) (fun w => ?_)).mono ?_
        · rw [← hx, eqZ1 hX]; exact unsigned1 v w
        · rw [← ho O _ hO, eqZ1 hO]; exact unsigned1 _ w
        · rintro e w' ⟨rfl, rfl⟩
          exact ⟨rfl, (SetOut.cell hb k hk _).drew⟩
      · refine setS1 c v (v % 256) _ k hk (loEq1 _ _ (by omega) (by omega)) (fun w => ?_) W
        rw [← hx]; exact specZeroL v X 1 w hX (by decide) (by decide)
    · have hx : wrap64 ((X % 2 ^ (8 * 2) : Nat) : Int) = v % 65536 := by rw [eqZ2 hX, show IntKind.u16.wrap v = v % 65536 from by simp [IntKind.wrap, IntKind.bits, IntKind.signed]]; unfold wrap64; omega
      have ho : ∀ (V : Nat) (u : Int), IntKind.u64.wrap u = (V : Int) → wrap64 ((V % 2 ^ (8 * 2) : Nat) : Int) = u % 65536 := fun V u hV => by rw [eqZ2 hV, show IntKind.u16.wrap u = u % 65536 from by simp [IntKind.wrap, IntKind.bits, IntKind.signed]]; unfold wrap64; omega
      obtain ⟨O, hO⟩ := natU (c.rs k)
      refine ⟨k, wrap64 (c.rs k + wrap64 (v % 65536 - c.rs k % 65536)), hk, fun W b hb => ?_, fun W => ?_⟩
      · refine (setIL W b (c.rs k) v (v % 65536) (c.rs k % 65536) 2 k hk (by decide) (cell W b hb) (free_row hb k) (fun w => ?_) (fun w => ?_)).mono ?_
        · rw [← hx, eqZ2 hX]; exact unsigned2 v w
        · rw [← ho O _ hO, eqZ2 hO]; exact unsigned2 _ w
        · rintro e w' ⟨rfl, rfl⟩
          exact ⟨rfl, (SetOut.cell hb k hk _).drew⟩
      · refine setS2 c v (v % 65536) _ k hk (loEq2 _ _ (by omega) (by omega)) (fun w => ?_) W
        rw [← hx]; exact specZeroL v X 2 w hX (by decide) (by decide)
    · refine ⟨k, wrap64 ((X % 2 ^ (8 * 4) : Nat) : Int), hk, fun W b hb => ?_, fun W => ?_⟩
      · refine (setIW W b (c.rs k) v (wrap64 ((X % 2 ^ (8 * 4) : Nat) : Int)) 4 k hk (by decide) (cell W b hb) (free_row hb k) (fun w => ?_)).mono ?_
        · rw [eqZ4 hX]; exact unsigned4 v w
        · rintro e w' ⟨rfl, rfl⟩
          exact ⟨rfl, SetOut.cell hb k hk _⟩
      · exact setS4 c v _ 0 k hk (fun w => specZeroL v X 4 w hX (by decide) (by decide)) W
    · refine ⟨k, wrap64 ((X % 2 ^ (8 * 8) : Nat) : Int), hk, fun W b hb => ?_, fun W => ?_⟩
      · refine (setIW W b (c.rs k) v (wrap64 ((X % 2 ^ (8 * 8) : Nat) : Int)) 8 k hk (by decide) (cell W b hb) (free_row hb k) (fun w => ?_)).mono ?_
        · rw [eqZ8 hX]; exact unsigned8 v w
        · rintro e w' ⟨rfl, rfl⟩
          exact ⟨rfl, SetOut.cell hb k hk _⟩
      · exact setS8 c v _ 0 k hk (fun w => specZeroL v X 8 w hX (by decide) (by decide)) W
  · obtain ⟨k, rfl⟩ : ∃ k : Nat, a = (k : Int) + 16 := ⟨(a - 16).toNat, by omega⟩
    have hk : k < 4 := by unfold topReg at h1; split at h1 <;> omega
    have hn1 : n = 1 := by unfold topReg at h1; split at h1 <;> first | assumption | omega
    subst hn1
    have cell (W : World) (b : Nat) (hb : Cpb W b (cpV c)) := (cell_of_row W b k _ _ _ hb).trans (cpV_at c k (by omega))
    refine ⟨k, bits .or .i64 (bits .andNot .i64 (c.rs k) 65280) (wrap64 (v % 256 * 256)), by omega, fun W b hb => ?_, fun W => ?_⟩
    · refine (setIH W b (c.rs k) v (v % 256) 1 k hk (cell W b hb) (free_row hb k) (fun w => unsigned1 v w)).mono ?_
      rintro e w' ⟨rfl, rfl⟩
      exact ⟨rfl, SetOut.cell hb k (by omega) _⟩
    · refine setSh c v (v % 256) _ k hk (hiEq _ _) (fun w => ?_) W
      rw [← eqZ1 hX]; exact specZeroL v X 1 w hX (by decide) (by decide)
set_option maxRecDepth 100000 in
set_option maxHeartbeats 2000000 in
theorem setRegIBad (c d : Cp) (a n v : Int) (w : World) (hO : ∀ w, Calls Tryd.prog 33 #[.agg (cpV c)] w fun e w' => e = .returned (.bool false) ∧ Below w.heap.size w w') :
    Calls Tryd.prog 13 #[.agg (cpV c), .int .i64 a, .int .i64 n, .int .i64 v] w fun e w' => e = .returned (.tuple #[.agg (cpV cp0), .int .i64 1]) ∧ Below w.heap.size w w' := by
  have CO := Lib.hid hO
  clear hO
  obtain ⟨n1, n2, n3⟩ := setNew w (cpV c)
  have R0 := Lib.hid n1; have Z0 := Lib.hid n2; have B0 := Lib.hid n3
  have sz : (cpV c).size = 18 := rfl
  have szD : (cpV d).size = 18 := rfl
  have oD := cpV_one d
  generalize cpV c = V at *
  generalize hD : cpV d = D at *
  have HD := Lib.hid hD
  have HS := Lib.hid sz; have HSD := Lib.hid szD; have hOD := Lib.hid oD
  clear sz szD oD n1 n2 n3 hD
  have I18 := Lib.hid (show (Tryd.prog.info? 27).map (·.size) = some 18 by kernel_rfl)
  go_enter Tryd.func13, Tryd.ntmps13
  go_wp2_with (refine wpList_load_row rfl 27 (.tmp 4) rfl w.heap.size rfl 27 V (0, 0) _ R0.out Tryd.underlying27 rfl (by rw [HS.out]; exact I18.out) ?_)
  refine (CO.out _).mono ?_
  rintro e w1 ⟨rfl, hb1⟩
  have B1 := Lib.hid (B0.out.trans (hb1.mono B0.out.size))
  have R1 := Lib.hid (R0.out.on hb1); have Z1 := Lib.hid (Z0.out.on hb1)
  clear hb1 R0 Z0 B0
  have Y1 := Lib.hid (setRow_heap _ _ _ #[.int .i64 0, .int .i64 0, .int .i64 0, .int .i64 0, .int .i64 0, .int .i64 0, .int .i64 0, .int .i64 0, .int .i64 0, .int .i64 0, .int .i64 0, .int .i64 0, .int .i64 0, .int .i64 0, .int .i64 0, .int .i64 0, .int .i64 0, .int .i64 0] _ _ Z1.out)
  have D1 := Lib.hid (Go.below_setRow B1.out (by omega : w.heap.size ≤ w.heap.size + 1) #[.int .i64 0, .int .i64 0, .int .i64 0, .int .i64 0, .int .i64 0, .int .i64 0, .int .i64 0, .int .i64 0, .int .i64 0, .int .i64 0, .int .i64 0, .int .i64 0, .int .i64 0, .int .i64 0, .int .i64 0, .int .i64 0, .int .i64 0, .int .i64 0])
  go_wp2_with (refine wpList_store_row rfl 27 (.tmp 8) (.tmp 13) rfl (w.heap.size + 1) #[.int .i64 0, .int .i64 0, .int .i64 0, .int .i64 0, .int .i64 0, .int .i64 0, .int .i64 0, .int .i64 0, .int .i64 0, .int .i64 0, .int .i64 0, .int .i64 0, .int .i64 0, .int .i64 0, .int .i64 0, .int .i64 0, .int .i64 0, .int .i64 0] rfl rfl 27 _ Z1.out (by exact I18.out) (by rfl) (by simp [Value.oneCell']) ?_)
  refine bodyPost_ret (v := .tuple #[.agg #[.int .i64 0, .int .i64 0, .int .i64 0, .int .i64 0, .int .i64 0, .int .i64 0, .int .i64 0, .int .i64 0, .int .i64 0, .int .i64 0, .int .i64 0, .int .i64 0, .int .i64 0, .int .i64 0, .int .i64 0, .int .i64 0, .int .i64 0, .int .i64 0], .int .i64 1]) (by exact res_cell_row2 Tryd.results13 _ _ (w.heap.size + 1) 27 #[.int .i64 0, .int .i64 0, .int .i64 0, .int .i64 0, .int .i64 0, .int .i64 0, .int .i64 0, .int .i64 0, .int .i64 0, .int .i64 0, .int .i64 0, .int .i64 0, .int .i64 0, .int .i64 0, .int .i64 0, .int .i64 0, .int .i64 0, .int .i64 0] (0, 0) _ rfl Y1.out Tryd.underlying27 rfl (by exact I18.out)) (by rfl) ⟨rfl, D1.out⟩
set_option maxRecDepth 100000 in
set_option maxHeartbeats 2000000 in
theorem setRegIRange (c d : Cp) (a n v : Int) (w : World) (hO : ∀ w, Calls Tryd.prog 33 #[.agg (cpV c)] w fun e w' => e = .returned (.bool true) ∧ Below w.heap.size w w') (hR : ∀ W, Below w.heap.size w W → Calls Tryd.prog 34 #[.int .i64 a, .int .i64 n] W fun e w' => e = .returned (.bool false) ∧ W = w') :
    Calls Tryd.prog 13 #[.agg (cpV c), .int .i64 a, .int .i64 n, .int .i64 v] w fun e w' => e = .returned (.tuple #[.agg (cpV cp0), .int .i64 4]) ∧ Below w.heap.size w w' := by
  have CO := Lib.hid hO; have CR := Lib.hid hR
  clear hO hR
  obtain ⟨n1, n2, n3⟩ := setNew w (cpV c)
  have R0 := Lib.hid n1; have Z0 := Lib.hid n2; have B0 := Lib.hid n3
  have sz : (cpV c).size = 18 := rfl
  have szD : (cpV d).size = 18 := rfl
  have oD := cpV_one d
  generalize cpV c = V at *
  generalize hD : cpV d = D at *
  have HD := Lib.hid hD
  have HS := Lib.hid sz; have HSD := Lib.hid szD; have hOD := Lib.hid oD
  clear sz szD oD n1 n2 n3 hD
  have I18 := Lib.hid (show (Tryd.prog.info? 27).map (·.size) = some 18 by kernel_rfl)
  go_enter Tryd.func13, Tryd.ntmps13
  go_wp2_with (refine wpList_load_row rfl 27 (.tmp 4) rfl w.heap.size rfl 27 V (0, 0) _ R0.out Tryd.underlying27 rfl (by rw [HS.out]; exact I18.out) ?_)
  refine (CO.out _).mono ?_
  rintro e w1 ⟨rfl, hb1⟩
  have B1 := Lib.hid (B0.out.trans (hb1.mono B0.out.size))
  have R1 := Lib.hid (R0.out.on hb1); have Z1 := Lib.hid (Z0.out.on hb1)
  clear hb1 R0 Z0 B0
  go_wp2_with fail
  refine (CR.out _ B1.out).mono ?_
  rintro e w2 ⟨rfl, rfl⟩
  have Y1 := Lib.hid (setRow_heap _ _ _ #[.int .i64 0, .int .i64 0, .int .i64 0, .int .i64 0, .int .i64 0, .int .i64 0, .int .i64 0, .int .i64 0, .int .i64 0, .int .i64 0, .int .i64 0, .int .i64 0, .int .i64 0, .int .i64 0, .int .i64 0, .int .i64 0, .int .i64 0, .int .i64 0] _ _ Z1.out)
  have D1 := Lib.hid (Go.below_setRow B1.out (by omega : w.heap.size ≤ w.heap.size + 1) #[.int .i64 0, .int .i64 0, .int .i64 0, .int .i64 0, .int .i64 0, .int .i64 0, .int .i64 0, .int .i64 0, .int .i64 0, .int .i64 0, .int .i64 0, .int .i64 0, .int .i64 0, .int .i64 0, .int .i64 0, .int .i64 0, .int .i64 0, .int .i64 0])
  go_wp2_with (refine wpList_store_row rfl 27 (.tmp 8) (.tmp 18) rfl (w.heap.size + 1) #[.int .i64 0, .int .i64 0, .int .i64 0, .int .i64 0, .int .i64 0, .int .i64 0, .int .i64 0, .int .i64 0, .int .i64 0, .int .i64 0, .int .i64 0, .int .i64 0, .int .i64 0, .int .i64 0, .int .i64 0, .int .i64 0, .int .i64 0, .int .i64 0] rfl rfl 27 _ Z1.out (by exact I18.out) (by rfl) (by simp [Value.oneCell']) ?_)
  refine bodyPost_ret (v := .tuple #[.agg #[.int .i64 0, .int .i64 0, .int .i64 0, .int .i64 0, .int .i64 0, .int .i64 0, .int .i64 0, .int .i64 0, .int .i64 0, .int .i64 0, .int .i64 0, .int .i64 0, .int .i64 0, .int .i64 0, .int .i64 0, .int .i64 0, .int .i64 0, .int .i64 0], .int .i64 4]) (by exact res_cell_row2 Tryd.results13 _ _ (w.heap.size + 1) 27 #[.int .i64 0, .int .i64 0, .int .i64 0, .int .i64 0, .int .i64 0, .int .i64 0, .int .i64 0, .int .i64 0, .int .i64 0, .int .i64 0, .int .i64 0, .int .i64 0, .int .i64 0, .int .i64 0, .int .i64 0, .int .i64 0, .int .i64 0, .int .i64 0] (0, 0) _ rfl Y1.out Tryd.underlying27 rfl (by exact I18.out)) (by rfl) ⟨rfl, D1.out⟩
set_option maxRecDepth 100000 in
set_option maxHeartbeats 2000000 in
theorem setRegIYes (c d : Cp) (a n v : Int) (w : World) (hO : ∀ w, Calls Tryd.prog 33 #[.agg (cpV c)] w fun e w' => e = .returned (.bool true) ∧ Below w.heap.size w w') (hR : ∀ W, Below w.heap.size w W → Calls Tryd.prog 34 #[.int .i64 a, .int .i64 n] W fun e w' => e = .returned (.bool true) ∧ W = w') (hG : ∀ W b, Cpb W b (cpV c) → Calls Tryd.prog 37 #[.pointer (some ⟨b, 0, none⟩), .int .i64 a, .int .i64 n, .int .i64 v] W fun e w' => e = .returned (.tuple #[]) ∧ SetOut W w' b d) :
    Calls Tryd.prog 13 #[.agg (cpV c), .int .i64 a, .int .i64 n, .int .i64 v] w fun e w' => e = .returned (.tuple #[.agg (cpV d), .int .i64 0]) ∧ Below w.heap.size w w' := by
  have CO := Lib.hid hO; have CR := Lib.hid hR; have CG := Lib.hid hG
  clear hO hR hG
  obtain ⟨n1, n2, n3⟩ := setNew w (cpV c)
  have R0 := Lib.hid n1; have Z0 := Lib.hid n2; have B0 := Lib.hid n3
  have sz : (cpV c).size = 18 := rfl
  have szD : (cpV d).size = 18 := rfl
  have oD := cpV_one d
  generalize cpV c = V at *
  generalize hD : cpV d = D at *
  have HD := Lib.hid hD
  have HS := Lib.hid sz; have HSD := Lib.hid szD; have hOD := Lib.hid oD
  clear sz szD oD n1 n2 n3 hD
  have I18 := Lib.hid (show (Tryd.prog.info? 27).map (·.size) = some 18 by kernel_rfl)
  go_enter Tryd.func13, Tryd.ntmps13
  go_wp2_with (refine wpList_load_row rfl 27 (.tmp 4) rfl w.heap.size rfl 27 V (0, 0) _ R0.out Tryd.underlying27 rfl (by rw [HS.out]; exact I18.out) ?_)
  refine (CO.out _).mono ?_
  rintro e w1 ⟨rfl, hb1⟩
  have B1 := Lib.hid (B0.out.trans (hb1.mono B0.out.size))
  have R1 := Lib.hid (R0.out.on hb1); have Z1 := Lib.hid (Z0.out.on hb1)
  clear hb1 R0 Z0 B0
  go_wp2_with fail
  refine (CR.out _ B1.out).mono ?_
  rintro e w2 ⟨rfl, rfl⟩
  go_wp2_with fail
  refine (CG.out _ _ R1.out).mono ?_
  rintro e w3 ⟨rfl, hs⟩
  have R3 := Lib.hid (show Cpb w3 w.heap.size D from HD.out ▸ hs.row)
  have Z3 := Lib.hid (hs.far _ _ (by omega : w.heap.size + 1 ≠ w.heap.size) Z1.out)
  have B3 := Lib.hid (hs.be _ _ B1.out (Nat.le_refl _))
  clear hs R1 Z1 B1
  have Y3 := Lib.hid (setRow_heap _ _ _ D _ _ Z3.out)
  have D3 := Lib.hid (Go.below_setRow B3.out (by omega : w.heap.size ≤ w.heap.size + 1) D)
  go_wp2_with (first | (refine wpList_load_row rfl 27 (.tmp 4) rfl w.heap.size rfl 27 D (0, 0) _ R3.out Tryd.underlying27 rfl (by rw [HSD.out]; exact I18.out) ?_) | (refine wpList_store_row rfl 27 (.tmp 8) (.tmp 23) rfl (w.heap.size + 1) D rfl rfl 27 _ Z3.out (by rw [HSD.out]; exact I18.out) (by rw [HSD.out]; rfl) hOD.out ?_))
  refine bodyPost_ret (v := .tuple #[.agg D, .int .i64 0]) (by exact res_cell_row2 Tryd.results13 _ _ (w.heap.size + 1) 27 D (0, 0) _ rfl Y3.out Tryd.underlying27 rfl (by rw [HSD.out]; exact I18.out)) (by rfl) ⟨rfl, D3.out⟩
set_option maxRecDepth 100000 in
set_option maxHeartbeats 2000000 in
theorem setRegSBad (c d : Cp) (a n v : Int) (w : World) (hO : ∀ w, Calls Tryd.prog 29 #[.agg (cpV c)] w fun e w' => e = .returned (.bool false) ∧ Below w.heap.size w w') :
    Calls Tryd.prog 12 #[.agg (cpV c), .int .i64 a, .int .i64 n, .int .i64 v] w fun e w' => e = .returned (.tuple #[.agg (cpV cp0), .int .i64 1]) ∧ Below w.heap.size w w' := by
  have CO := Lib.hid hO
  clear hO
  obtain ⟨n1, n2, n3⟩ := setNew w (cpV c)
  have R0 := Lib.hid n1; have Z0 := Lib.hid n2; have B0 := Lib.hid n3
  have sz : (cpV c).size = 18 := rfl
  have szD : (cpV d).size = 18 := rfl
  have oD := cpV_one d
  generalize cpV c = V at *
  generalize hD : cpV d = D at *
  have HD := Lib.hid hD
  have HS := Lib.hid sz; have HSD := Lib.hid szD; have hOD := Lib.hid oD
  clear sz szD oD n1 n2 n3 hD
  have I18 := Lib.hid (show (Tryd.prog.info? 27).map (·.size) = some 18 by kernel_rfl)
  go_enter Tryd.func12, Tryd.ntmps12
  go_wp2_with (refine wpList_load_row rfl 27 (.tmp 4) rfl w.heap.size rfl 27 V (0, 0) _ R0.out Tryd.underlying27 rfl (by rw [HS.out]; exact I18.out) ?_)
  refine (CO.out _).mono ?_
  rintro e w1 ⟨rfl, hb1⟩
  have B1 := Lib.hid (B0.out.trans (hb1.mono B0.out.size))
  have R1 := Lib.hid (R0.out.on hb1); have Z1 := Lib.hid (Z0.out.on hb1)
  clear hb1 R0 Z0 B0
  have Y1 := Lib.hid (setRow_heap _ _ _ #[.int .i64 0, .int .i64 0, .int .i64 0, .int .i64 0, .int .i64 0, .int .i64 0, .int .i64 0, .int .i64 0, .int .i64 0, .int .i64 0, .int .i64 0, .int .i64 0, .int .i64 0, .int .i64 0, .int .i64 0, .int .i64 0, .int .i64 0, .int .i64 0] _ _ Z1.out)
  have D1 := Lib.hid (Go.below_setRow B1.out (by omega : w.heap.size ≤ w.heap.size + 1) #[.int .i64 0, .int .i64 0, .int .i64 0, .int .i64 0, .int .i64 0, .int .i64 0, .int .i64 0, .int .i64 0, .int .i64 0, .int .i64 0, .int .i64 0, .int .i64 0, .int .i64 0, .int .i64 0, .int .i64 0, .int .i64 0, .int .i64 0, .int .i64 0])
  go_wp2_with (refine wpList_store_row rfl 27 (.tmp 8) (.tmp 13) rfl (w.heap.size + 1) #[.int .i64 0, .int .i64 0, .int .i64 0, .int .i64 0, .int .i64 0, .int .i64 0, .int .i64 0, .int .i64 0, .int .i64 0, .int .i64 0, .int .i64 0, .int .i64 0, .int .i64 0, .int .i64 0, .int .i64 0, .int .i64 0, .int .i64 0, .int .i64 0] rfl rfl 27 _ Z1.out (by exact I18.out) (by rfl) (by simp [Value.oneCell']) ?_)
  refine bodyPost_ret (v := .tuple #[.agg #[.int .i64 0, .int .i64 0, .int .i64 0, .int .i64 0, .int .i64 0, .int .i64 0, .int .i64 0, .int .i64 0, .int .i64 0, .int .i64 0, .int .i64 0, .int .i64 0, .int .i64 0, .int .i64 0, .int .i64 0, .int .i64 0, .int .i64 0, .int .i64 0], .int .i64 1]) (by exact res_cell_row2 Tryd.results12 _ _ (w.heap.size + 1) 27 #[.int .i64 0, .int .i64 0, .int .i64 0, .int .i64 0, .int .i64 0, .int .i64 0, .int .i64 0, .int .i64 0, .int .i64 0, .int .i64 0, .int .i64 0, .int .i64 0, .int .i64 0, .int .i64 0, .int .i64 0, .int .i64 0, .int .i64 0, .int .i64 0] (0, 0) _ rfl Y1.out Tryd.underlying27 rfl (by exact I18.out)) (by rfl) ⟨rfl, D1.out⟩
set_option maxRecDepth 100000 in
set_option maxHeartbeats 2000000 in
theorem setRegSRange (c d : Cp) (a n v : Int) (w : World) (hO : ∀ w, Calls Tryd.prog 29 #[.agg (cpV c)] w fun e w' => e = .returned (.bool true) ∧ Below w.heap.size w w') (hR : ∀ W, Below w.heap.size w W → Calls Tryd.prog 30 #[.int .i64 a, .int .i64 n] W fun e w' => e = .returned (.bool false) ∧ W = w') :
    Calls Tryd.prog 12 #[.agg (cpV c), .int .i64 a, .int .i64 n, .int .i64 v] w fun e w' => e = .returned (.tuple #[.agg (cpV cp0), .int .i64 4]) ∧ Below w.heap.size w w' := by
  have CO := Lib.hid hO; have CR := Lib.hid hR
  clear hO hR
  obtain ⟨n1, n2, n3⟩ := setNew w (cpV c)
  have R0 := Lib.hid n1; have Z0 := Lib.hid n2; have B0 := Lib.hid n3
  have sz : (cpV c).size = 18 := rfl
  have szD : (cpV d).size = 18 := rfl
  have oD := cpV_one d
  generalize cpV c = V at *
  generalize hD : cpV d = D at *
  have HD := Lib.hid hD
  have HS := Lib.hid sz; have HSD := Lib.hid szD; have hOD := Lib.hid oD
  clear sz szD oD n1 n2 n3 hD
  have I18 := Lib.hid (show (Tryd.prog.info? 27).map (·.size) = some 18 by kernel_rfl)
  go_enter Tryd.func12, Tryd.ntmps12
  go_wp2_with (refine wpList_load_row rfl 27 (.tmp 4) rfl w.heap.size rfl 27 V (0, 0) _ R0.out Tryd.underlying27 rfl (by rw [HS.out]; exact I18.out) ?_)
  refine (CO.out _).mono ?_
  rintro e w1 ⟨rfl, hb1⟩
  have B1 := Lib.hid (B0.out.trans (hb1.mono B0.out.size))
  have R1 := Lib.hid (R0.out.on hb1); have Z1 := Lib.hid (Z0.out.on hb1)
  clear hb1 R0 Z0 B0
  go_wp2_with fail
  refine (CR.out _ B1.out).mono ?_
  rintro e w2 ⟨rfl, rfl⟩
  have Y1 := Lib.hid (setRow_heap _ _ _ #[.int .i64 0, .int .i64 0, .int .i64 0, .int .i64 0, .int .i64 0, .int .i64 0, .int .i64 0, .int .i64 0, .int .i64 0, .int .i64 0, .int .i64 0, .int .i64 0, .int .i64 0, .int .i64 0, .int .i64 0, .int .i64 0, .int .i64 0, .int .i64 0] _ _ Z1.out)
  have D1 := Lib.hid (Go.below_setRow B1.out (by omega : w.heap.size ≤ w.heap.size + 1) #[.int .i64 0, .int .i64 0, .int .i64 0, .int .i64 0, .int .i64 0, .int .i64 0, .int .i64 0, .int .i64 0, .int .i64 0, .int .i64 0, .int .i64 0, .int .i64 0, .int .i64 0, .int .i64 0, .int .i64 0, .int .i64 0, .int .i64 0, .int .i64 0])
  go_wp2_with (refine wpList_store_row rfl 27 (.tmp 8) (.tmp 18) rfl (w.heap.size + 1) #[.int .i64 0, .int .i64 0, .int .i64 0, .int .i64 0, .int .i64 0, .int .i64 0, .int .i64 0, .int .i64 0, .int .i64 0, .int .i64 0, .int .i64 0, .int .i64 0, .int .i64 0, .int .i64 0, .int .i64 0, .int .i64 0, .int .i64 0, .int .i64 0] rfl rfl 27 _ Z1.out (by exact I18.out) (by rfl) (by simp [Value.oneCell']) ?_)
  refine bodyPost_ret (v := .tuple #[.agg #[.int .i64 0, .int .i64 0, .int .i64 0, .int .i64 0, .int .i64 0, .int .i64 0, .int .i64 0, .int .i64 0, .int .i64 0, .int .i64 0, .int .i64 0, .int .i64 0, .int .i64 0, .int .i64 0, .int .i64 0, .int .i64 0, .int .i64 0, .int .i64 0], .int .i64 4]) (by exact res_cell_row2 Tryd.results12 _ _ (w.heap.size + 1) 27 #[.int .i64 0, .int .i64 0, .int .i64 0, .int .i64 0, .int .i64 0, .int .i64 0, .int .i64 0, .int .i64 0, .int .i64 0, .int .i64 0, .int .i64 0, .int .i64 0, .int .i64 0, .int .i64 0, .int .i64 0, .int .i64 0, .int .i64 0, .int .i64 0] (0, 0) _ rfl Y1.out Tryd.underlying27 rfl (by exact I18.out)) (by rfl) ⟨rfl, D1.out⟩
set_option maxRecDepth 100000 in
set_option maxHeartbeats 2000000 in
theorem setRegSYes (c d : Cp) (a n v : Int) (w : World) (hO : ∀ w, Calls Tryd.prog 29 #[.agg (cpV c)] w fun e w' => e = .returned (.bool true) ∧ Below w.heap.size w w') (hR : ∀ W, Below w.heap.size w W → Calls Tryd.prog 30 #[.int .i64 a, .int .i64 n] W fun e w' => e = .returned (.bool true) ∧ W = w') (hG : ∀ W, Calls Tryd.prog 36 #[.agg (cpV c), .int .i64 a, .int .i64 n, .int .i64 v] W fun e w' => e = .returned (.agg (cpV d)) ∧ Below W.heap.size W w') :
    Calls Tryd.prog 12 #[.agg (cpV c), .int .i64 a, .int .i64 n, .int .i64 v] w fun e w' => e = .returned (.tuple #[.agg (cpV d), .int .i64 0]) ∧ Below w.heap.size w w' := by
  have CO := Lib.hid hO; have CR := Lib.hid hR; have CG := Lib.hid hG
  clear hO hR hG
  obtain ⟨n1, n2, n3⟩ := setNew w (cpV c)
  have R0 := Lib.hid n1; have Z0 := Lib.hid n2; have B0 := Lib.hid n3
  have sz : (cpV c).size = 18 := rfl
  have szD : (cpV d).size = 18 := rfl
  have oD := cpV_one d
  generalize cpV c = V at *
  generalize hD : cpV d = D at *
  have HD := Lib.hid hD
  have HS := Lib.hid sz; have HSD := Lib.hid szD; have hOD := Lib.hid oD
  clear sz szD oD n1 n2 n3 hD
  have I18 := Lib.hid (show (Tryd.prog.info? 27).map (·.size) = some 18 by kernel_rfl)
  go_enter Tryd.func12, Tryd.ntmps12
  go_wp2_with (refine wpList_load_row rfl 27 (.tmp 4) rfl w.heap.size rfl 27 V (0, 0) _ R0.out Tryd.underlying27 rfl (by rw [HS.out]; exact I18.out) ?_)
  refine (CO.out _).mono ?_
  rintro e w1 ⟨rfl, hb1⟩
  have B1 := Lib.hid (B0.out.trans (hb1.mono B0.out.size))
  have R1 := Lib.hid (R0.out.on hb1); have Z1 := Lib.hid (Z0.out.on hb1)
  clear hb1 R0 Z0 B0
  go_wp2_with fail
  refine (CR.out _ B1.out).mono ?_
  rintro e w2 ⟨rfl, rfl⟩
  go_wp2_with (refine wpList_load_row rfl 27 (.tmp 4) rfl w.heap.size rfl 27 V (0, 0) _ R1.out Tryd.underlying27 rfl (by rw [HS.out]; exact I18.out) ?_)
  refine (CG.out _).mono ?_
  rintro e w3 ⟨rfl, hb3⟩
  have Z3 := Lib.hid (Z1.out.on hb3)
  have B3 := Lib.hid (B1.out.trans (hb3.mono B1.out.size))
  clear hb3 R1 Z1 B1
  have Y3 := Lib.hid (setRow_heap _ _ _ D _ _ Z3.out)
  have D3 := Lib.hid (Go.below_setRow B3.out (by omega : w.heap.size ≤ w.heap.size + 1) D)
  go_wp2_with (refine wpList_store_row rfl 27 (.tmp 8) (.tmp 23) rfl (w.heap.size + 1) D rfl rfl 27 _ Z3.out (by rw [HSD.out]; exact I18.out) (by rw [HSD.out]; rfl) hOD.out ?_)
  refine bodyPost_ret (v := .tuple #[.agg D, .int .i64 0]) (by exact res_cell_row2 Tryd.results12 _ _ (w.heap.size + 1) 27 D (0, 0) _ rfl Y3.out Tryd.underlying27 rfl (by rw [HSD.out]; exact I18.out)) (by rfl) ⟨rfl, D3.out⟩
end Go.Proofs.YtbcbepdfijcbmaaDoor
