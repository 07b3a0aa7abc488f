/-
  What drawing a processor does: one that is right, all memory that was there kept; conditions: the bytes can be read, and few draws have been made.
-/
import Derived.Test.YtbcbepdfijcbmaaDoorWalkFlagsD
import Derived.Test.YtbcbepdfijcbmaaDoorMathCpu
import Derived.Test.YtbcbepdfijcbmaaDoorWalkCpuT
import Derived.Deep.Cut
import Derived.Deep.WholeRow
namespace Go.Proofs.YtbcbepdfijcbmaaDoor
open Go.RowKit
set_option linter.unusedVariables false
theorem grown_alloc (w : World) (g : Nat) (o : Obj) : w.grownBy (w.alloc o) (some g) := ⟨rfl, rfl, rfl, by simp, fun k hk _ => Below.heap_alloc _ _ _ hk⟩
theorem grown_cell {w W : World} {g b : Nat} (h : w.grownBy W (some g)) (hb : w.heap.size ≤ b) (k : Nat) (v : Value) : w.grownBy (W.setCell ⟨b, k, none⟩ v) (some g) :=
  ⟨h.os, h.tape, h.output, by simpa [World.setCell] using h.size, fun j hj hne => (Below.heap_setCell _ _ _ _ (by simp; omega)).trans (h.block j hj hne)⟩
theorem grown_row {w W : World} {g b : Nat} (h : w.grownBy W (some g)) (hb : w.heap.size ≤ b) (cs : Array Value) : w.grownBy (W.setRow b cs) (some g) :=
  ⟨h.os, h.tape, h.output, by simpa using h.size, fun j hj hne => (setRow_other _ _ _ _ (by omega)).trans (h.block j hj hne)⟩
set_option maxHeartbeats 1000000 in
theorem src_flags2 (g len cap N B : Nat) (A : Option Addr) (w : World) (h : Src w g (.slice A len cap) N) (hN : N ≤ 400000) (hr : Rdb w B A len) (hB : B ≤ g) :
    Calls Tryd.prog 57 #[.pointer (some ⟨g, 0, none⟩)] w fun e w' => ∃ f : Int, FlOK f ∧ e = .returned (.int .i64 f) ∧ Src w' g (.slice A len cap) (N + 5) ∧ w.grownBy w' (some g) := by
  have hlt := h.lt
  go_enter Tryd.func57, Tryd.ntmps57
  have HC : ∀ k : Nat, k < 5 → ∃ m : Int, (m = 1 ∨ m = 4 ∨ m = 64 ∨ m = 128 ∨ m = 2048) ∧ (#[.int .i64 1, .int .i64 4, .int .i64 64, .int .i64 128, .int .i64 2048] : Array Value)[k]? = some (.int .i64 m) := by
    intro k hk
    rcases (by omega : k = 0 ∨ k = 1 ∨ k = 2 ∨ k = 3 ∨ k = 4) with rfl | rfl | rfl | rfl | rfl
    · exact ⟨1, by simp, rfl⟩
    · exact ⟨4, by simp, rfl⟩
    · exact ⟨64, by simp, rfl⟩
    · exact ⟨128, by simp, rfl⟩
    · exact ⟨2048, by simp, rfl⟩
  have HC := Lib.hid HC
  go_wp2_with fail
  go_loopw [3, 8] (fun v i wr => ∃ (k : Nat) (f : Int), k ≤ 5 ∧ i = .int .i64 k ∧ v = .int .i64 f ∧ FlOK f ∧ Src wr g (.slice A len cap) (N + k) ∧ Rdb wr B A len ∧ w.grownBy wr (some g) ∧ wr.heap[w.heap.size]? = some (.cells #[.int .i64 1, .int .i64 4, .int .i64 64, .int .i64 128, .int .i64 2048] 3 (0, 0))) (fun _ i _ => 5 - (intOf i).toNat)
  case atStart =>
    exact ⟨0, 0, Nat.zero_le _, rfl, rfl, ⟨false, false, false, false, false, rfl⟩, h.alloc _, hr.alloc (by omega) _, grown_alloc w g _, heap_alloc_new w _⟩
  case round =>
    obtain ⟨k, f, hk, rfl, rfl, hf, hsr, hrr, hbr, hrow⟩ := hrel
    by_cases hlt2 : k < 5
    · obtain ⟨m, hm, hmv⟩ := HC.out k hlt2
      have hcell : wr.cell? ⟨w.heap.size, k, none⟩ = some (.int .i64 m) := (cell_of_row wr _ k _ _ _ hrow).trans hmv
      have HM := Lib.hid hm; have HV := Lib.hid hmv; have HR := Lib.hid hrow; have HF := Lib.hid hf
      clear hm hmv hrow hf
      go_wp2_with fail
      refine (src_chance 2 g len cap (N + k) B A _ hsr (by omega) hrr hB (by omega) (by omega)).mono ?_
      rintro e w1 ⟨b, rfl, hs1, hg1⟩
      have hr1 := hrr.grown hg1 hB (by have := hsr.lt; omega)
      have hb1 : w.grownBy w1 (some g) := grown_trans hbr hg1
      have hrow1 : w1.heap[w.heap.size]? = some (.cells #[.int .i64 1, .int .i64 4, .int .i64 64, .int .i64 128, .int .i64 2048] 3 (0, 0)) := (hg1.block w.heap.size (by have h1 := HR.out; rcases Nat.lt_or_ge w.heap.size wr.heap.size with h | h; exact h; simp [Array.getElem?_eq_none h] at h1) (fun e => by cases e; omega)).trans HR.out
      have HR1 := Lib.hid hrow1; have HB1 := Lib.hid hb1; have HS1 := Lib.hid hs1; have HD1 := Lib.hid hr1
      clear hrow1 hb1 hs1 hr1 hg1 hsr hrr hbr hcell
      cases b
      · go_wp2
        go_roundw
        case rel => exact ⟨k + 1, f, by omega, by go_num, rfl, HF.out, HS1.out, HD1.out, HB1.out, HR1.out⟩
        case measure => simp [intOf]; omega
      · go_wp2
        go_roundw
        case rel => exact ⟨k + 1, bits .or .i64 f m, by omega, by go_num, rfl, fl_or HF.out HM.out, HS1.out, HD1.out, HB1.out, HR1.out⟩
        case measure => simp [intOf]; omega
    · have HF := Lib.hid hf
      clear hf
      go_wp2
      go_ret
      exact ⟨f, HF.out, rfl, hsr.mono (by omega), hbr⟩
/-- within cpu: the source, its bytes, what is kept, and the results' block -/
structure DrS (w W : World) (g : Nat) (v : Value) (N B : Nat) (A : Option Addr) (len : Nat) : Prop where
  src : Src W g v N
  rd : Rdb W B A len
  gr : w.grownBy W (some g)
  r : W.heap[w.heap.size]? = some (.cells #[.int .i64 0, .int .i64 0, .int .i64 0, .int .i64 0, .int .i64 0, .int .i64 0, .int .i64 0, .int .i64 0, .int .i64 0, .int .i64 0, .int .i64 0, .int .i64 0, .int .i64 0, .int .i64 0, .int .i64 0, .int .i64 0, .int .i64 0, .int .i64 0] 27 (0, 0))
theorem DrS.step {w W W' : World} {g N M B len : Nat} {v : Value} {A : Option Addr} (h : DrS w W g v N B A len) (hB : B ≤ g) (hg : g < w.heap.size) (hs : Src W' g v M) (hgr : W.grownBy W' (some g)) : DrS w W' g v M B A len :=
  ⟨hs, h.rd.grown hgr hB (by have := h.gr.size; omega), grown_trans h.gr hgr, (hgr.block _ (lt_of_blk' h.r) (by intro e; cases e; omega)).trans h.r⟩
theorem DrS.alloc {w W : World} {g N B len : Nat} {v : Value} {A : Option Addr} (h : DrS w W g v N B A len) (hB : B ≤ W.heap.size) (o : Obj) : DrS w (W.alloc o) g v N B A len :=
  ⟨h.src.alloc _, h.rd.alloc hB _, grown_trans h.gr (grown_alloc _ _ _), (Below.heap_alloc _ _ _ (lt_of_blk' h.r)).trans h.r⟩
theorem DrS.cell {w W : World} {g N B len b : Nat} {v : Value} {A : Option Addr} (h : DrS w W g v N B A len) (hB : B ≤ g) (hg : g < w.heap.size) (hb : w.heap.size < b) (k : Nat) (u : Value) : DrS w (W.setCell ⟨b, k, none⟩ u) g v N B A len :=
  ⟨h.src.same (Below.heap_setCell _ _ _ _ (by simp; omega)), fun hl => by
    obtain ⟨b', off, e, hb', hc⟩ := h.rd hl
    refine ⟨b', off, e, hb', fun j hj => ?_⟩
    obtain ⟨z, hz, h1, h2⟩ := hc j hj
    exact ⟨z, (World.cell?_of_block (Below.heap_setCell _ _ _ _ (by simp; omega))).trans hz, h1, h2⟩, grown_cell h.gr (by omega) _ _, (Below.heap_setCell _ _ _ _ (by simp; omega)).trans h.r⟩
theorem Cpc.on {W W' : World} {b g : Nat} {V : Array Value} {t : TypeId} (h : W.heap[b]? = some (.cells V t (0, 0))) (hne : b ≠ g) (hg : W.grownBy W' (some g)) : W'.heap[b]? = some (.cells V t (0, 0)) := (hg.block _ (lt_of_blk' h) (by intro e; cases e; exact hne rfl)).trans h
theorem CpW.set {c : Cp} (h : CpW c) (k : Nat) {v : Int} (hv : (Lit.int .i64 v).wf = true) : CpW (c.set k v) := ⟨fun i hi => by unfold Cp.set upd; simp only; split; exact hv; exact h.rs i hi, h.ip, h.fl⟩
theorem flV_wf' (c p z s o : Bool) : (Lit.int .i64 (flV c p z s o)).wf = true := by revert c p z s o; decide +kernel
set_option maxRecDepth 100000 in
set_option maxHeartbeats 8000000 in
theorem src_cpu (g len cap N B : Nat) (A : Option Addr) (w : World) (h : Src w g (.slice A len cap) N) (hN : N ≤ 100000) (hr : Rdb w B A len) (hB : B ≤ g) :
    Calls Tryd.prog 44 #[.pointer (some ⟨g, 0, none⟩)] w fun e w' => ∃ c : Cp, CpW c ∧ FlOK c.fl ∧ e = .returned (.agg (cpV c)) ∧ Src w' g (.slice A len cap) (N + 1000) ∧ w.grownBy w' (some g) := by
  have hlt := h.lt
  have D0 := Lib.hid (show DrS w (w.alloc (.cells #[.int .i64 0, .int .i64 0, .int .i64 0, .int .i64 0, .int .i64 0, .int .i64 0, .int .i64 0, .int .i64 0, .int .i64 0, .int .i64 0, .int .i64 0, .int .i64 0, .int .i64 0, .int .i64 0, .int .i64 0, .int .i64 0, .int .i64 0, .int .i64 0] 27)) g (.slice A len cap) N B A len from ⟨h.alloc _, hr.alloc (by omega) _, grown_alloc w g _, heap_alloc_new w _⟩)
  clear h hr
  go_enter Tryd.func44, Tryd.ntmps44
  go_wp2_with fail
  refine (src_next 40 g len cap N B A _ D0.out.src (by omega) D0.out.rd hB (by omega) (by omega)).mono ?_
  rintro e w1 ⟨r1, r10, r11, rfl, hs1, hg1⟩
  have D1 := Lib.hid (D0.out.step hB hlt hs1 hg1)
  clear D0 hs1 hg1
  go_wp2_with fail
  refine (src_flags2 g len cap (N + 1) B A _ D1.out.src (by omega) D1.out.rd hB).mono ?_
  rintro e w2 ⟨f, hf, rfl, hs2, hg2⟩
  have D2 := Lib.hid (D1.out.step hB hlt hs2 hg2)
  have hip : wrap64 (16896 + r1) = 16896 + r1 := by unfold wrap64; omega
  have wip : (Lit.int .i64 (16896 + r1)).wf = true := wf_small (by omega) (by omega)
  have wfl : (Lit.int .i64 f).wf = true := by obtain ⟨a1, a2, a3, a4, a5, rfl⟩ := hf; exact flV_wf' _ _ _ _ _
  have HF := Lib.hid hf
  have hsz2 := D2.out.gr.size
  have hp : w.heap.size < w2.heap.size := lt_of_blk' D2.out.r
  clear D1 hs2 hg2 hf
  have c0W : CpW ⟨fun _ => 0, 16896 + r1, f⟩ := ⟨fun _ _ => rfl, wip, wfl⟩
  have W0 := Lib.hid c0W
  have N2 := Lib.hid (heap_alloc_new w2 (.cells #[.int .i64 0, .int .i64 0, .int .i64 0, .int .i64 0, .int .i64 0, .int .i64 0, .int .i64 0, .int .i64 0, .int .i64 0, .int .i64 0, .int .i64 0, .int .i64 0, .int .i64 0, .int .i64 0, .int .i64 0, .int .i64 0, .int .i64 0, .int .i64 0] 27))
  have E2 := Lib.hid (World.setRow_alloc_new w2 #[.int .i64 0, .int .i64 0, .int .i64 0, .int .i64 0, .int .i64 0, .int .i64 0, .int .i64 0, .int .i64 0, .int .i64 0, .int .i64 0, .int .i64 0, .int .i64 0, .int .i64 0, .int .i64 0, .int .i64 0, .int .i64 0, .int .i64 0, .int .i64 0] (cpV ⟨fun _ => 0, 16896 + r1, f⟩) 27)
  have P2 := Lib.hid (heap_alloc_new w2 (.cells (cpV ⟨fun _ => 0, 16896 + r1, f⟩) 27))
  have D3 := Lib.hid (D2.out.alloc (by omega) (.cells (cpV ⟨fun _ => 0, 16896 + r1, f⟩) 27))
  have hO := Lib.hid (cpV_one ⟨fun _ => 0, 16896 + r1, f⟩)
  have I18 := Lib.hid (show (Tryd.prog.info? 27).map (·.size) = some 18 by kernel_rfl)
  clear c0W wip wfl D2
  go_wp2_with (refine wpList_store_row rfl 27 (.tmp 3) (.tmp 10) rfl w2.heap.size (cpV ⟨fun _ => 0, 16896 + r1, f⟩) rfl rfl 27 _ N2.out (by exact I18.out) (by rfl) hO.out ?_; rw [E2.out])
  generalize w2.alloc (.cells (cpV ⟨fun _ => 0, 16896 + r1, f⟩) 27) = V3 at *
  clear N2 E2 hO
  generalize hpd : w2.heap.size = p at *
  clear hpd
  go_loopw [4] (fun i wr => ∃ (k M : Nat) (c : Cp), k ≤ 16 ∧ i = .int .i64 k ∧ M ≤ N + 6 + 15 * k ∧ c.fl = f ∧ Hid (CpW c) ∧ Hid (DrS w wr g (.slice A len cap) M B A len) ∧ Hid (wr.heap[p]? = some (.cells (cpV c) 27 (0, 0)))) (fun i _ => 16 - (intOf i).toNat)
  case atStart => exact ⟨0, N + 6, ⟨fun _ => 0, 16896 + r1, f⟩, by omega, rfl, by omega, rfl, W0, D3, P2⟩
  case round =>
    obtain ⟨k, M, c, hk, rfl, hM, hcf, CW, DR, PR⟩ := hrel
    clear W0 D3 P2
    have hBr : B ≤ wr.heap.size := by have := DR.out.gr.size; omega
    by_cases hlt2 : k < 16
    · go_wp2_with fail
      refine (src_nextBig 400 g len cap M B A _ DR.out.src (by omega) DR.out.rd hB hBr (by omega) (by omega)).mono ?_
      rintro e w4 ⟨a1, a10, a11, rfl, hs4, hg4⟩
      have D4 := Lib.hid (DR.out.step hB hlt hs4 hg4)
      have P4 := Lib.hid (Cpc.on PR.out (by omega) hg4)
      have s4 := hg4.size
      have e1 : wrap64 (17408 + a1) = 17408 + a1 := by unfold wrap64; omega
      clear hs4 hg4 DR PR
      go_wp2_with fail
      refine (src_wide g len cap (M + 3) B A _ D4.out.src (by omega) D4.out.rd hB (by omega)).mono ?_
      rintro e w5 ⟨a2, a2w, rfl, hs5, hg5⟩
      have D5 := Lib.hid (D4.out.step hB hlt hs5 hg5)
      have P5 := Lib.hid (Cpc.on P4.out (by omega) hg5)
      have s5 := hg5.size
      have A2 := Lib.hid a2w
      clear hs5 hg5 D4 P4 a2w
      go_wp2_with fail
      refine (src_next 40 g len cap (M + 3 + 9) B A _ D5.out.src (by omega) D5.out.rd hB (by omega) (by omega)).mono ?_
      rintro e w6 ⟨a3, a30, a31, rfl, hs6, hg6⟩
      have D6 := Lib.hid (D5.out.step hB hlt hs6 hg6)
      have P6 := Lib.hid (Cpc.on P5.out (by omega) hg6)
      have s6 := hg6.size
      clear hs6 hg6 D5 P5
      go_wp2_with fail
      refine (src_next 30 g len cap (M + 3 + 9 + 1) B A _ D6.out.src (by omega) D6.out.rd hB (by omega) (by omega)).mono ?_
      rintro e w7 ⟨a4, a40, a41, rfl, hs7, hg7⟩
      have D7 := Lib.hid (D6.out.step hB hlt hs7 hg7)
      have P7 := Lib.hid (Cpc.on P6.out (by omega) hg7)
      have s7 := hg7.size
      have e4 : wrap64 (8 * a4) = 8 * a4 := by unfold wrap64; omega
      have e5 : wrap64 (17408 + 8 * a4) = 17408 + 8 * a4 := by unfold wrap64; omega
      clear hs7 hg7 D6 P6
      go_wp2_with fail
      have DL := Lib.hid (D7.out.alloc (by omega) (.cells #[.int .i64 (17408 + a1), .int .i64 a2, .int .i64 a3, .int .i64 (17408 + 8 * a4)] 3))
      have PL := Lib.hid ((Below.heap_alloc w7 (.cells #[.int .i64 (17408 + a1), .int .i64 a2, .int .i64 a3, .int .i64 (17408 + 8 * a4)] 3) _ (lt_of_blk' P7.out)).trans P7.out)
      have LL := Lib.hid (heap_alloc_new w7 (.cells #[.int .i64 (17408 + a1), .int .i64 a2, .int .i64 a3, .int .i64 (17408 + 8 * a4)] 3))
      have hp7 : p < w7.heap.size := lt_of_blk' P7.out
      refine (src_next 4 g len cap (M + 3 + 9 + 1 + 1) B A _ DL.out.src (by omega) DL.out.rd hB (by omega) (by omega)).mono ?_
      rintro e w8 ⟨r8, r80, r81, rfl, hs8, hg8⟩
      have D8 := Lib.hid (DL.out.step hB hlt hs8 hg8)
      have P8 := Lib.hid (Cpc.on PL.out (by omega) hg8)
      have L8 := Lib.hid (Cpc.on LL.out (by omega) hg8)
      clear hs8 hg8 D7 P7 DL PL LL
      have cp := (cell_of_row _ _ k _ _ _ P8.out).trans (cpV_at c k hlt2)
      have fp : w8.frozen? ⟨p, k, none⟩ = false := by simp [World.frozen?, P8.out]
      have l0 := (cell_of_row _ _ 0 _ _ _ L8.out).trans (show (#[.int .i64 (17408 + a1), .int .i64 a2, .int .i64 a3, .int .i64 (17408 + 8 * a4)] : Array Value)[0]? = some (.int .i64 (17408 + a1)) from rfl)
      have l1 := (cell_of_row _ _ 1 _ _ _ L8.out).trans (show (#[.int .i64 (17408 + a1), .int .i64 a2, .int .i64 a3, .int .i64 (17408 + 8 * a4)] : Array Value)[1]? = some (.int .i64 a2) from rfl)
      have l2 := (cell_of_row _ _ 2 _ _ _ L8.out).trans (show (#[.int .i64 (17408 + a1), .int .i64 a2, .int .i64 a3, .int .i64 (17408 + 8 * a4)] : Array Value)[2]? = some (.int .i64 a3) from rfl)
      have l3 := (cell_of_row _ _ 3 _ _ _ L8.out).trans (show (#[.int .i64 (17408 + a1), .int .i64 a2, .int .i64 a3, .int .i64 (17408 + 8 * a4)] : Array Value)[3]? = some (.int .i64 (17408 + 8 * a4)) from rfl)
      have hi0 : (0 : Int) ≤ (k : Int) := by omega
      have hi1 : (k : Int) < 16 := by omega
      have hk' : ((k : Int)).toNat = k := by omega
      have fin : ∀ v : Int, (Lit.int .i64 v).wf = true → ∃ (k1 M1 : Nat) (c1 : Cp), k1 ≤ 16 ∧ Value.int .i64 ((k : Int) + 1) = .int .i64 k1 ∧ M1 ≤ N + 6 + 15 * k1 ∧ c1.fl = f ∧ Hid (CpW c1) ∧ Hid (DrS w (w8.setCell ⟨p, k, none⟩ (.int .i64 v)) g (.slice A len cap) M1 B A len) ∧ Hid ((w8.setCell ⟨p, k, none⟩ (.int .i64 v)).heap[p]? = some (.cells (cpV c1) 27 (0, 0))) := fun v hv =>
        ⟨k + 1, M + 3 + 9 + 1 + 1 + 1, c.set k v, by omega, by go_num, by omega, hcf, Lib.hid (CpW.set CW.out k hv), Lib.hid (D8.out.cell hB hlt hp k _), Lib.hid (row_set P8.out k _ (cpV_set c v k hlt2))⟩
      have v0 := wf_small (show -4294967296 ≤ 17408 + a1 by omega) (by omega)
      have v2 := wf_small (show -4294967296 ≤ a3 by omega) (by omega)
      have v3 := wf_small (show -4294967296 ≤ 17408 + 8 * a4 by omega) (by omega)
      have FIN := Lib.hid fin; have V0 := Lib.hid v0; have V2 := Lib.hid v2; have V3' := Lib.hid v3
      clear fin v0 v2 v3
      rcases (by omega : r8 = 0 ∨ r8 = 1 ∨ r8 = 2 ∨ r8 = 3) with rfl | rfl | rfl | rfl
      · go_wp2
        go_roundw
        case rel => exact FIN.out _ V0.out
        case measure => simp [intOf]; omega
      · go_wp2
        go_roundw
        case rel => exact FIN.out _ A2.out
        case measure => simp [intOf]; omega
      · go_wp2
        go_roundw
        case rel => exact FIN.out _ V2.out
        case measure => simp [intOf]; omega
      · go_wp2
        go_roundw
        case rel => exact FIN.out _ V3'.out
        case measure => simp [intOf]; omega
    · obtain rfl : k = 16 := by omega
      go_wp2_with fail
      refine (src_chance 2 g len cap M B A _ DR.out.src (by omega) DR.out.rd hB (by omega) (by omega)).mono ?_
      rintro e w4 ⟨b, rfl, hs4, hg4⟩
      have D4 := Lib.hid (DR.out.step hB hlt hs4 hg4)
      have P4 := Lib.hid (Cpc.on PR.out (by omega) hg4)
      clear hs4 hg4 DR PR
      have fin : ∀ (W : World) (c' : Cp) (M' : Nat), M' ≤ N + 1000 → CpW c' → c'.fl = f → DrS w W g (.slice A len cap) M' B A len → W.heap[p]? = some (.cells (cpV c') 27 (0, 0)) →
          (W.setRow w.heap.size (cpV c')).heap[w.heap.size]? = some (.cells (cpV c') 27 (0, 0)) ∧ Src (W.setRow w.heap.size (cpV c')) g (.slice A len cap) (N + 1000) ∧ w.grownBy (W.setRow w.heap.size (cpV c')) (some g) := fun W c' M' h1 h2 h3 h4 h5 =>
        ⟨setRow_heap _ _ _ _ _ _ h4.r, (h4.src.same (setRow_other _ _ _ _ (by omega))).mono h1, grown_row h4.gr (Nat.le_refl _) _⟩
      cases b
      · obtain ⟨y1, y2, y3⟩ := fin w4 c (M + 1) (by omega) CW.out hcf D4.out P4.out
        have Y1 := Lib.hid y1; have Y2 := Lib.hid y2; have Y3 := Lib.hid y3; have Z := Lib.hid D4.out.r
        have hO := Lib.hid (cpV_one c)
        have sz : (cpV c).size = 18 := rfl
        clear fin y1 y2 y3
        go_wp2_with (first | (refine wpList_load_row rfl 27 (.tmp 3) rfl p rfl 27 (cpV c) (0, 0) _ P4.out Tryd.underlying27 rfl (by exact I18.out) ?_) | (refine wpList_store_row rfl 27 (.tmp 2) (.tmp 42) rfl w.heap.size (cpV c) rfl rfl 27 _ Z.out (by exact I18.out) (by rfl) hO.out ?_))
        refine bodyPost_ret (v := .agg (cpV c)) (by exact results_cell_row Tryd.results44 _ _ w.heap.size 27 (cpV c) (0, 0) _ rfl Y1.out Tryd.underlying27 rfl (by exact I18.out)) (by rfl) ⟨c, CW.out, hcf ▸ HF.out, rfl, Y2.out, Y3.out⟩
      · go_wp2_with fail
        refine (src_next 60 g len cap (M + 1) B A _ D4.out.src (by omega) D4.out.rd hB (by omega) (by omega)).mono ?_
        rintro e w5 ⟨a5, a50, a51, rfl, hs5, hg5⟩
        have D5 := Lib.hid (D4.out.step hB hlt hs5 hg5)
        have P5 := Lib.hid (Cpc.on P4.out (by omega) hg5)
        clear hs5 hg5 D4 P4
        have e4 : wrap64 (8 * a5) = 8 * a5 := by unfold wrap64; omega
        have e5 : wrap64 (17408 + 8 * a5) = 17408 + 8 * a5 := by unfold wrap64; omega
        have cp := (cell_of_row _ _ 4 _ _ _ P5.out).trans (cpV_at c 4 (by decide))
        have fp : w5.frozen? ⟨p, 4, none⟩ = false := by simp [World.frozen?, P5.out]
        have wv := wf_small (show -4294967296 ≤ 17408 + 8 * a5 by omega) (by omega)
        have D6 := D5.out.cell hB hlt hp 4 (.int .i64 (17408 + 8 * a5))
        have P6 := row_set P5.out 4 (.int .i64 (17408 + 8 * a5)) (cpV_set c (17408 + 8 * a5) 4 (by decide))
        have W6 := CpW.set CW.out 4 wv
        obtain ⟨y1, y2, y3⟩ := fin _ (c.set 4 (17408 + 8 * a5)) (M + 1 + 1) (by omega) W6 hcf D6 P6
        have Y1 := Lib.hid y1; have Y2 := Lib.hid y2; have Y3 := Lib.hid y3; have Z := Lib.hid D6.r; have Q6 := Lib.hid P6; have CW6 := Lib.hid W6
        have hO := Lib.hid (cpV_one (c.set 4 (17408 + 8 * a5)))
        have hcf6 : (c.set 4 (17408 + 8 * a5)).fl = f := hcf
        clear fin y1 y2 y3 D6 P6 W6 wv
        generalize c.set 4 (17408 + 8 * a5) = c6 at *
        have sz : (cpV c6).size = 18 := rfl
        go_wp2_with (first | (refine wpList_load_row rfl 27 (.tmp 3) rfl p rfl 27 (cpV c6) (0, 0) _ Q6.out Tryd.underlying27 rfl (by exact I18.out) ?_) | (refine wpList_store_row rfl 27 (.tmp 2) (.tmp 42) rfl w.heap.size (cpV c6) rfl rfl 27 _ Z.out (by exact I18.out) (by rfl) hO.out ?_))
        refine bodyPost_ret (v := .agg (cpV c6)) (by exact results_cell_row Tryd.results44 _ _ w.heap.size 27 (cpV c6) (0, 0) _ rfl Y1.out Tryd.underlying27 rfl (by exact I18.out)) (by rfl) ⟨c6, CW6.out, hcf6 ▸ HF.out, rfl, Y2.out, Y3.out⟩
set_option maxRecDepth 100000 in
set_option maxHeartbeats 2000000 in
theorem cpuDrawn (len cap : Nat) (A : Option Addr) (w : World) (hl : len ≤ 140737488355328) (hr : Rdb w w.heap.size A len) :
    Calls Tryd.prog 18 #[.slice A len cap] w fun e w' => ∃ c : Cp, CpW c ∧ FlOK c.fl ∧ e = .returned (.agg (cpV c)) ∧ Below w.heap.size w w' := by
  have r0 := heap_alloc_new w (.cells #[.int .i64 0, .int .i64 0, .int .i64 0, .int .i64 0, .int .i64 0, .int .i64 0, .int .i64 0, .int .i64 0, .int .i64 0, .int .i64 0, .int .i64 0, .int .i64 0, .int .i64 0, .int .i64 0, .int .i64 0, .int .i64 0, .int .i64 0, .int .i64 0] 27)
  have hr0 := hr.alloc (Nat.le_refl _) (.cells #[.int .i64 0, .int .i64 0, .int .i64 0, .int .i64 0, .int .i64 0, .int .i64 0, .int .i64 0, .int .i64 0, .int .i64 0, .int .i64 0, .int .i64 0, .int .i64 0, .int .i64 0, .int .i64 0, .int .i64 0, .int .i64 0, .int .i64 0, .int .i64 0] 27)
  have b0 := (Below.refl w.heap.size w).alloc (Nat.le_refl _) (.cells #[.int .i64 0, .int .i64 0, .int .i64 0, .int .i64 0, .int .i64 0, .int .i64 0, .int .i64 0, .int .i64 0, .int .i64 0, .int .i64 0, .int .i64 0, .int .i64 0, .int .i64 0, .int .i64 0, .int .i64 0, .int .i64 0, .int .i64 0, .int .i64 0] 27)
  have z0 : (w.alloc (.cells #[.int .i64 0, .int .i64 0, .int .i64 0, .int .i64 0, .int .i64 0, .int .i64 0, .int .i64 0, .int .i64 0, .int .i64 0, .int .i64 0, .int .i64 0, .int .i64 0, .int .i64 0, .int .i64 0, .int .i64 0, .int .i64 0, .int .i64 0, .int .i64 0] 27)).heap.size = w.heap.size + 1 := by simp
  have I18 := Lib.hid (show (Tryd.prog.info? 27).map (·.size) = some 18 by kernel_rfl)
  go_enter Tryd.func18, Tryd.ntmps18
  go_wp2_with fail
  refine (src_new len cap A _ hl).mono ?_
  rintro e w1 ⟨rfl, hs1, hb1⟩
  rw [z0] at *
  have r1 := (hb1.block _ (by omega)).trans r0
  have hr1 := (hr0.more (show w.heap.size ≤ w.heap.size + 1 by omega)).below hb1
  have b1 := b0.trans (hb1.mono (by omega))
  have R1 := Lib.hid r1; have HR1 := Lib.hid hr1; have B1 := Lib.hid b1; have HS1 := Lib.hid hs1
  clear r0 hr0 b0 hb1 r1 hr1 b1 hs1
  go_wp2_with fail
  refine (src_cpu (w.heap.size + 1) len cap 0 (w.heap.size + 1) A _ HS1.out (by omega) HR1.out (Nat.le_refl _)).mono ?_
  rintro e w2 ⟨c, hc, hf, rfl, hs2, hg2⟩
  have R2 := Lib.hid (Cpc.on R1.out (by omega) hg2)
  have B2 := Lib.hid (show Below w.heap.size w w2 from B1.out.trans ⟨hg2.os, hg2.tape, hg2.output, hg2.size, fun k hk => hg2.block k (by have := B1.out.size; omega) (by intro e; cases e; omega)⟩)
  have HC := Lib.hid hc; have HF := Lib.hid hf
  have hO := Lib.hid (cpV_one c)
  have Y2 := Lib.hid (setRow_heap _ _ _ (cpV c) _ _ R2.out)
  have D2 := Lib.hid (Go.below_setRow B2.out (Nat.le_refl _) (cpV c))
  have sz : (cpV c).size = 18 := rfl
  clear hc hf hs2 hg2 HS1 HR1 R1 B1
  go_wp2_with (refine wpList_store_row rfl 27 (.tmp 2) (.tmp 5) rfl w.heap.size (cpV c) rfl rfl 27 _ R2.out (by exact I18.out) (by rfl) hO.out ?_)
  refine bodyPost_ret (v := .agg (cpV c)) (by exact results_cell_row Tryd.results18 _ _ w.heap.size 27 (cpV c) (0, 0) _ rfl Y2.out Tryd.underlying27 rfl (by exact I18.out)) (by rfl) ⟨c, HC.out, HF.out, rfl, D2.out⟩
end Go.Proofs.YtbcbepdfijcbmaaDoor
