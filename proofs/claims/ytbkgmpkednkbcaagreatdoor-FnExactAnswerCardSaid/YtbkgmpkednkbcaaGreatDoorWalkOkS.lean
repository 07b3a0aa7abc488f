/-
  What spec.MemoryOK does: it tells whether a list of pages is a memory that is right, changing nothing that was there; conditions: those in each head.
-/
import Derived.Test.YtbkgmpkednkbcaaGreatDoorWalkEq
import Derived.BigQuiet
namespace Go.Proofs.YtbkgmpkednkbcaaGreatDoor
open Go.RowKit Go.Sort
set_option maxHeartbeats 400000 in
theorem inYes (v lo hi : Int) (w : World) (h1 : lo ≤ v) (h2 : v ≤ hi) : Calls Tryz.prog 30 #[.int .i64 v, .int .i64 lo, .int .i64 hi] w fun e w' => e = .returned (.bool true) ∧ w' = w := by
  go_enter Tryz.func30, Tryz.ntmps30
  go_wp2
  go_ret
  exact ⟨rfl, rfl⟩
set_option maxHeartbeats 400000 in
theorem inNo (v lo hi : Int) (w : World) (h : v < lo ∨ hi < v) : Calls Tryz.prog 30 #[.int .i64 v, .int .i64 lo, .int .i64 hi] w fun e w' => e = .returned (.bool false) ∧ w' = w := by
  by_cases h1 : v < lo
  · clear h
    go_enter Tryz.func30, Tryz.ntmps30
    go_wp2
    go_ret
    exact ⟨rfl, rfl⟩
  · have h2 : decide (v ≤ hi) = false := decide_eq_false (by omega)
    have h3 : lo ≤ v := by omega
    clear h h1
    go_enter Tryz.func30, Tryz.ntmps30
    go_wp2
    go_ret
    exact ⟨rfl, rfl⟩
theorem below_draw {w : World} (n : Nat) {B : Nat} : Below B w (w.drewN n) := ⟨rfl, rfl, rfl, Nat.le_refl _, fun _ _ => rfl⟩
theorem cell_new {w : World} {b i n : Nat} {o : Obj} {v : Value} (h : b < w.heap.size) (hc : w.cell? ⟨b, i, none⟩ = some v) : ((w.alloc o).drewN n).cell? ⟨b, i, none⟩ = some v :=
  (World.cell?_of_block (w := w) (w' := (w.alloc o).drewN n) (Below.heap_alloc _ _ _ h)).trans hc
def BaseOk (b : Int) : Prop := 0 ≤ b ∧ b ≤ 65535 ∧ b % 256 = 0
def PermOk (p : Int) : Prop := 0 ≤ p ∧ p ≤ 7
set_option maxHeartbeats 400000 in
theorem baseYes (b : Int) (w : World) (h : BaseOk b) : Calls Tryz.prog 90 #[.int .i64 b] w fun e w' => e = .returned (.bool true) ∧ w' = w := by
  obtain ⟨h1, h2, h3⟩ := h
  have C := Lib.hid (fun w => inYes b 0 65535 w h1 h2)
  have h4 : b.tmod 256 = 0 := by rw [Int.tmod_eq_emod_of_nonneg h1]; exact h3
  clear h3
  go_enter Tryz.func90, Tryz.ntmps90
  go_wp2_with (go_at_call 30; refine (C.out _).mono ?_; rintro e w' ⟨rfl, rfl⟩)
  go_ret
  exact ⟨rfl, rfl⟩
set_option maxHeartbeats 400000 in
theorem baseNo (b : Int) (w : World) (h : ¬ BaseOk b) : Calls Tryz.prog 90 #[.int .i64 b] w fun e w' => e = .returned (.bool false) ∧ w' = w := by
  by_cases h1 : 0 ≤ b ∧ b ≤ 65535
  · obtain ⟨h1, h2⟩ := h1
    have C := Lib.hid (fun w => inYes b 0 65535 w h1 h2)
    have h4 : (b % 256 == 0) = false := beq_eq_false_iff_ne.mpr fun e => h ⟨h1, h2, e⟩
    clear h
    go_enter Tryz.func90, Tryz.ntmps90
    go_wp2_with (go_at_call 30; refine (C.out _).mono ?_; rintro e w' ⟨rfl, rfl⟩)
    go_ret
    exact ⟨rfl, rfl⟩
  · have C := Lib.hid (fun w => inNo b 0 65535 w (by omega))
    clear h h1
    go_enter Tryz.func90, Tryz.ntmps90
    go_wp2_with (go_at_call 30; refine (C.out _).mono ?_; rintro e w' ⟨rfl, rfl⟩)
    go_ret
    exact ⟨rfl, rfl⟩
set_option maxHeartbeats 400000 in
theorem permYes (p : Int) (w : World) (h : PermOk p) : Calls Tryz.prog 91 #[.int .i64 p] w fun e w' => e = .returned (.bool true) ∧ w' = w := by
  have C := Lib.hid (fun w => inYes p 0 7 w h.1 h.2)
  clear h
  go_enter Tryz.func91, Tryz.ntmps91
  go_wp2_with (go_at_call 30; refine (C.out _).mono ?_; rintro e w' ⟨rfl, rfl⟩)
  go_ret
  exact ⟨rfl, rfl⟩
set_option maxHeartbeats 400000 in
theorem permNo (p : Int) (w : World) (h : ¬ PermOk p) : Calls Tryz.prog 91 #[.int .i64 p] w fun e w' => e = .returned (.bool false) ∧ w' = w := by
  have C := Lib.hid (fun w => inNo p 0 7 w (by unfold PermOk at h; omega))
  clear h
  go_enter Tryz.func91, Tryz.ntmps91
  go_wp2_with (go_at_call 30; refine (C.out _).mono ?_; rintro e w' ⟨rfl, rfl⟩)
  go_ret
  exact ⟨rfl, rfl⟩
set_option maxHeartbeats 1000000 in
theorem specOk (p : Option Addr) (cap : Nat) (l : List Pg) (w : World) (hn : Fits l) (hr : Rd w p l) :
    Calls Tryz.prog 57 #[.agg #[.slice p l.length cap]] w fun e w' => e = .returned (.bool (okB l)) ∧ Below w.heap.size w w' := by
  have hm := mixed
  have HR := Lib.hid hr
  have hl := hn.1
  have HN := Lib.hid hn.2
  clear hr hn
  by_cases h32 : 32 < l.length
  · rw [okB_no (fun h => by have := h.1; omega)]
    go_enter Tryz.func57, Tryz.ntmps57
    go_wp2
    go_ret
    exact ⟨rfl, by go_grown⟩
  · have h32' : l.length ≤ 32 := by omega
    have h33 : decide (32 < (l.length : Int)) = false := decide_eq_false (by omega)
    clear h32
    go_enter Tryz.func57, Tryz.ntmps57
    go_wp2
    go_loopw [3] (fun i wr => ∃ k : Nat, k ≤ l.length ∧ i = .int .i64 k ∧ Hid ((∀ (j : Nat) x, j < k → l[j]? = some x → PgOk x) ∧ ∀ (j : Nat) x y, j + 1 < k → l[j]? = some x → l[j + 1]? = some y → x.b < y.b) ∧ wr.cell? ⟨w.heap.size, 0, none⟩ = some (.slice p l.length cap) ∧ w.heap.size < wr.heap.size ∧ Below w.heap.size w wr) (fun i _ => l.length - (intOf i).toNat)
    case atStart => exact ⟨0, Nat.zero_le _, rfl, Lib.hid ⟨fun j x h => by omega, fun j x y h => by omega⟩, by simp, by simp, by go_grown⟩
    case round =>
      obtain ⟨k, hk, rfl, HI, hbx, hsz, hb⟩ := hrel
      by_cases hlt : k < l.length
      · obtain ⟨x, hx⟩ : ∃ x, l[k]? = some x := ⟨_, List.getElem?_eq_getElem hlt⟩
        obtain ⟨b, off, rfl, h0, a0, a1, a2⟩ := HR.out k x hx
        have g0 := (hb.cell (p := ⟨b, off + k * 3, none⟩) h0).trans a0
        have g1 := (hb.cell (p := ⟨b, off + k * 3 + 1, none⟩) h0).trans a1
        have g2 := (hb.cell (p := ⟨b, off + k * 3 + 2, none⟩) h0).trans a2
        have HX := Lib.hid hx
        have hds := HN.out k x hx
        clear hx a0 a1 a2 h0
        by_cases hbase : BaseOk x.b
        · have C := Lib.hid (fun w => baseYes x.b w hbase)
          have HB := Lib.hid hbase
          clear hbase
          by_cases hperm : PermOk x.p
          · have C2 := Lib.hid (fun w => permYes x.p w hperm)
            have HP := Lib.hid hperm
            clear hperm
            by_cases hsize : x.d.size = 256
            · have hd : ((x.d.size : Int) != 256) = false := by rw [bne_eq_false_iff_eq]; omega
              have HS := Lib.hid hsize
              clear hsize
              have HPg : Hid (PgOk x) := Lib.hid ⟨HB.out.1, HB.out.2.1, HB.out.2.2, HP.out.1, HP.out.2, HS.out⟩
              by_cases hk0 : k = 0
              · have e3 : decide (0 < k) = false := decide_eq_false (by omega)
                have HK0 := Lib.hid hk0
                clear hk0
                go_wp2_with fail
                go_quiet (first | (go_at_call 90; refine Calls.quiet_of_same (C.out _)) | (go_at_call 91; refine Calls.quiet_of_same (C2.out _)))
                go_wp2
                go_roundw
                case rel =>
                  have hk0 := HK0.out
                  refine ⟨k + 1, by omega, by go_num, Lib.hid ⟨fun j y hj hy => ?_, fun j y z hj => by omega⟩, ?_, ?_, (hb.alloc (by omega) _).trans (below_draw _)⟩
                  · obtain rfl : j = k := by omega
                    rw [HX.out] at hy; cases hy; exact HPg.out
                  · exact cell_new hsz hbx
                  · simp; omega
                case measure => simp [intOf]; omega
              · obtain ⟨j, hj⟩ : ∃ j : Nat, j + 1 = k := ⟨k - 1, by omega⟩
                have hjl : j < l.length := by omega
                obtain ⟨y, hy⟩ : ∃ y, l[j]? = some y := ⟨_, List.getElem?_eq_getElem hjl⟩
                obtain ⟨b', off', e1, h0, a0, a1, a2⟩ := HR.out j y hy
                cases e1
                have hbw : b < wr.heap.size := by have := hb.size; omega
                have g3 := (hb.cell (p := ⟨b, off + j * 3, none⟩) h0).trans a0
                have ew : IntKind.i64.wrap ((k : Int) - 1) = (j : Int) := by rw [IntKind.wrap_i64]; omega
                have e3 : 0 < k := by omega
                have HY := Lib.hid hy
                have HJ := Lib.hid hj
                clear hy a0 a1 a2 h0 hj hk0
                by_cases hlt2 : y.b < x.b
                · have hd3 : decide (x.b ≤ y.b) = false := decide_eq_false (by omega)
                  have HLT := Lib.hid hlt2
                  clear hlt2
                  go_wp2_with fail
                  go_quiet (first | (go_at_call 90; refine Calls.quiet_of_same (C.out _)) | (go_at_call 91; refine Calls.quiet_of_same (C2.out _)))
                  go_wp2
                  go_roundw
                  case rel =>
                    refine ⟨k + 1, by omega, by go_num, Lib.hid ⟨fun i z hj hz => ?_, fun i z z' hj hz hz' => ?_⟩, ?_, ?_, (hb.alloc (by omega) _).trans (below_draw _)⟩
                    · by_cases e : i = k
                      · subst e
                        rw [HX.out] at hz; cases hz; exact HPg.out
                      · exact HI.out.1 i z (by omega) hz
                    · have hjk := HJ.out
                      by_cases e : i = j
                      · subst e
                        rw [HY.out] at hz; cases hz
                        rw [HJ.out, HX.out] at hz'; cases hz'
                        exact HLT.out
                      · exact HI.out.2 i z z' (by omega) hz hz'
                    · exact cell_new hsz hbx
                    · simp; omega
                  case measure => simp [intOf]; omega
                · have hd3 : x.b ≤ y.b := by omega
                  clear hlt2
                  go_wp2_with fail
                  go_quiet (first | (go_at_call 90; refine Calls.quiet_of_same (C.out _)) | (go_at_call 91; refine Calls.quiet_of_same (C2.out _)))
                  go_wp2
                  have hbn : okB l = false := okB_no (fun h => by have h1 := h.2.2 j y x HY.out (by rw [HJ.out]; exact HX.out); omega)
                  go_ret
                  exact ⟨ret_b hbn.symm, (hb.alloc (by omega) _).trans (below_draw _)⟩
            · have hd : ((x.d.size : Int) != 256) = true := by rw [bne_iff_ne]; omega
              have HS := Lib.hid hsize
              clear hsize
              go_wp2_with fail
              go_quiet (first | (go_at_call 90; refine Calls.quiet_of_same (C.out _)) | (go_at_call 91; refine Calls.quiet_of_same (C2.out _)))
              go_wp2
              have hbn : okB l = false := okB_no (fun h => by have h1 := h.2.1 k x HX.out; exact HS.out h1.2.2.2.2.2)
              go_ret
              exact ⟨ret_b hbn.symm, (hb.alloc (by omega) _).trans (below_draw _)⟩
          · have C2 := Lib.hid (fun w => permNo x.p w hperm)
            have HP := Lib.hid hperm
            clear hperm
            go_wp2_with fail
            go_quiet (first | (go_at_call 90; refine Calls.quiet_of_same (C.out _)) | (go_at_call 91; refine Calls.quiet_of_same (C2.out _)))
            go_wp2
            have hbn : okB l = false := okB_no (fun h => by have h1 := h.2.1 k x HX.out; exact HP.out ⟨h1.2.2.2.1, h1.2.2.2.2.1⟩)
            go_ret
            exact ⟨ret_b hbn.symm, (hb.alloc (by omega) _).trans (below_draw _)⟩
        · have C := Lib.hid (fun w => baseNo x.b w hbase)
          have HB := Lib.hid hbase
          clear hbase
          go_wp2_with fail
          go_quiet (first | (go_at_call 90; refine Calls.quiet_of_same (C.out _)))
          go_wp2
          have hbn : okB l = false := okB_no (fun h => by have h1 := h.2.1 k x HX.out; exact HB.out ⟨h1.1, h1.2.1, h1.2.2.1⟩)
          go_ret
          exact ⟨ret_b hbn.symm, (hb.alloc (by omega) _).trans (below_draw _)⟩
      · obtain rfl : k = l.length := by omega
        go_wp2
        go_ret
        exact ⟨ret_b (okB_yes ⟨h32', fun j x hj => HI.out.1 j x (List.getElem?_eq_some_iff.1 hj).1 hj, fun j x y hj hj2 => HI.out.2 j x y (List.getElem?_eq_some_iff.1 hj2).1 hj hj2⟩).symm, hb⟩
end Go.Proofs.YtbkgmpkednkbcaaGreatDoor
