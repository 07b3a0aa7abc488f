/-
  What impl.OperandOK does: it tells whether an operand is right for a size, changing nothing that was there; conditions: the tables of registers' names and the sentinels hold what the program's text lays there.
-/
import Derived.Test.YtjnjlgaemmdkhaaGreatDoorWalkOpd2
import Derived.Test.YtjnjlgaemmdkhaaGreatDoorWalkMetA
import Derived.Deep.RegionHeld3
import Derived.Shelf.SlSortCmp.QuietGrown
import Derived.Laws.ResultCell
namespace Go.Proofs.YtjnjlgaemmdkhaaGreatDoor
open Go.RowKit Go.Sort
theorem regOpdC (r : Int) (w : World) : Calls Tryz.prog 67 #[.int .i64 r] w fun e w' => e = .returned (.agg #[.int .i64 1, .int .i64 r, .int .i64 0, .int .i64 0, .int .i64 0, .int .i64 0, .int .i64 0]) ∧ Below w.heap.size w w' := by
  go_enter Tryz.func67, Tryz.ntmps67
  go_wp2
  refine bodyPost_ret (v := .agg #[.int .i64 1, .int .i64 r, .int .i64 0, .int .i64 0, .int .i64 0, .int .i64 0, .int .i64 0]) (by exact results_cell_row Tryz.results67 _ _ w.heap.size 31 #[.int .i64 1, .int .i64 r, .int .i64 0, .int .i64 0, .int .i64 0, .int .i64 0, .int .i64 0] (0, 0) _ rfl (heap_alloc_new w _) Tryz.underlying31 rfl (by kernel_rfl)) (by rfl) ⟨rfl, ?_⟩
  exact (Below.refl _ _).alloc (Nat.le_refl _) _
theorem immOpdC (r : Int) (w : World) : Calls Tryz.prog 70 #[.int .i64 r] w fun e w' => e = .returned (.agg #[.int .i64 3, .int .i64 0, .int .i64 0, .int .i64 0, .int .i64 0, .int .i64 0, .int .i64 r]) ∧ Below w.heap.size w w' := by
  go_enter Tryz.func70, Tryz.ntmps70
  go_wp2
  refine bodyPost_ret (v := .agg #[.int .i64 3, .int .i64 0, .int .i64 0, .int .i64 0, .int .i64 0, .int .i64 0, .int .i64 r]) (by exact results_cell_row Tryz.results70 _ _ w.heap.size 31 #[.int .i64 3, .int .i64 0, .int .i64 0, .int .i64 0, .int .i64 0, .int .i64 0, .int .i64 r] (0, 0) _ rfl (heap_alloc_new w _) Tryz.underlying31 rfl (by kernel_rfl)) (by rfl) ⟨rfl, ?_⟩
  exact (Below.refl _ _).alloc (Nat.le_refl _) _
def Cells7 (w : World) (g : Nat) (x : Opd) : Prop := w.cell? ⟨g, 0, none⟩ = some (.int .i64 x.k) ∧ w.cell? ⟨g, 1, none⟩ = some (.int .i64 x.r) ∧ w.cell? ⟨g, 2, none⟩ = some (.int .i64 x.b) ∧ w.cell? ⟨g, 3, none⟩ = some (.int .i64 x.i) ∧ w.cell? ⟨g, 4, none⟩ = some (.int .i64 x.s) ∧ w.cell? ⟨g, 5, none⟩ = some (.int .i64 x.d) ∧ w.cell? ⟨g, 6, none⟩ = some (.int .i64 x.m)
theorem Cells7.below {w w' : World} {g : Nat} {x : Opd} (h : Cells7 w g x) (hb : Below w.heap.size w w') (hg : g < w.heap.size) : Cells7 w' g x := by
  obtain ⟨h0, h1, h2, h3, h4, h5, h6⟩ := h
  exact ⟨(hb.cell (p := ⟨g, 0, none⟩) hg).trans h0, (hb.cell (p := ⟨g, 1, none⟩) hg).trans h1, (hb.cell (p := ⟨g, 2, none⟩) hg).trans h2, (hb.cell (p := ⟨g, 3, none⟩) hg).trans h3, (hb.cell (p := ⟨g, 4, none⟩) hg).trans h4, (hb.cell (p := ⟨g, 5, none⟩) hg).trans h5, (hb.cell (p := ⟨g, 6, none⟩) hg).trans h6⟩
theorem box7c (w : World) (x : Opd) : Cells7 (w.alloc (.cells #[.int .i64 x.k, .int .i64 x.r, .int .i64 x.b, .int .i64 x.i, .int .i64 x.s, .int .i64 x.d, .int .i64 x.m] 31)) w.heap.size x :=
  ⟨box5 w _ _ 0, box5 w _ _ 1, box5 w _ _ 2, box5 w _ _ 3, box5 w _ _ 4, box5 w _ _ 5, box5 w _ _ 6⟩
theorem dr1 (W : World) : Below W.heap.size W W.drew := (Below.refl _ _).drew
theorem bthen' {w w1 w2 : World} (h : Below w.heap.size w w1) (h2 : Below w1.heap.size w1 w2) : Below w.heap.size w w2 := h.trans (h2.mono h.size)
set_option maxRecDepth 100000 in
set_option maxHeartbeats 1000000 in
theorem iNo (k r b i s d m z : Int) (w : World) (aR : Addr) (hs : SentR w aR) (hz : ¬ okSize z) :
    Calls Tryz.prog 49 #[.agg #[.int .i64 k, .int .i64 r, .int .i64 b, .int .i64 i, .int .i64 s, .int .i64 d, .int .i64 m], .int .i64 z] w fun e w' => e = .returned (.bool false) ∧ Below w.heap.size w w' := by
  have CZ : Hid (∀ q : Nat, Calls Tryz.prog 66 #[.int .i64 z] (w.alloc (.cells #[.int .i64 k, .int .i64 r, .int .i64 b, .int .i64 i, .int .i64 s, .int .i64 d, .int .i64 m] 31)) fun e w' => e = .returned (bErr sizeT z aR) ∧ (w.alloc (.cells #[.int .i64 k, .int .i64 r, .int .i64 b, .int .i64 i, .int .i64 s, .int .i64 d, .int .i64 m] 31)) = w') := Lib.hid (fun _ => checkNoR z _ aR (hs.below ((Below.refl _ _).alloc (Nat.le_refl _) _)) hz)
  unfold bErr at CZ
  clear hz hs
  go_enter Tryz.func49, Tryz.ntmps49
  go_wp2_with (go_at_call 66; refine (CZ.out 0).mono ?_; rintro e w' ⟨rfl, rfl⟩)
  go_ret
  exact ⟨rfl, (Below.refl _ _).alloc (Nat.le_refl _) _⟩
set_option maxRecDepth 100000 in
set_option maxHeartbeats 1000000 in
theorem i0 (r b i s d m z : Int) (w : World) (hz : okSize z) (v : Bool) (hv : decide ((⟨0, r, b, i, s, d, m⟩ : Opd) = noOpd) = v) :
    Calls Tryz.prog 49 #[.agg #[.int .i64 0, .int .i64 r, .int .i64 b, .int .i64 i, .int .i64 s, .int .i64 d, .int .i64 m], .int .i64 z] w fun e w' => e = .returned (.bool v) ∧ Below w.heap.size w w' := by
  have CZ := Lib.hid (fun w => checkYes z w hz)
  clear hz
  have E := eql_at ⟨0, r, b, i, s, d, m⟩ ⟨0, 0, 0, 0, 0, 0, 0⟩ v hv
  clear hv
  go_enter Tryz.func49, Tryz.ntmps49
  go_wp2_with (go_at_call 66; refine (CZ.out _).mono ?_; rintro e w' ⟨rfl, rfl⟩)
  go_ret
  exact ⟨rfl, (Below.refl _ _).alloc (Nat.le_refl _) _⟩
set_option maxRecDepth 100000 in
set_option maxHeartbeats 1000000 in
theorem iX (k r b i s d m z : Int) (w : World) (hz : okSize z) (h0 : k ≠ 0) (h1 : k ≠ 1) (h2 : k ≠ 2) (h3 : k ≠ 3) :
    Calls Tryz.prog 49 #[.agg #[.int .i64 k, .int .i64 r, .int .i64 b, .int .i64 i, .int .i64 s, .int .i64 d, .int .i64 m], .int .i64 z] w fun e w' => e = .returned (.bool false) ∧ Below w.heap.size w w' := by
  have CZ := Lib.hid (fun w => checkYes z w hz)
  clear hz
  have d0 : (k == 0) = false := beq_eq_false_iff_ne.mpr h0
  clear h0
  have d1 : (k == 1) = false := beq_eq_false_iff_ne.mpr h1
  clear h1
  have d2 : (k == 2) = false := beq_eq_false_iff_ne.mpr h2
  clear h2
  have d3 : (k == 3) = false := beq_eq_false_iff_ne.mpr h3
  clear h3
  go_enter Tryz.func49, Tryz.ntmps49
  go_wp2_with (go_at_call 66; refine (CZ.out _).mono ?_; rintro e w' ⟨rfl, rfl⟩)
  go_ret
  exact ⟨rfl, (Below.refl _ _).alloc (Nat.le_refl _) _⟩
set_option maxRecDepth 100000 in
set_option maxHeartbeats 1000000 in
theorem i2 (r b i s d m z : Int) (w : World) (hR : Regs w) (aR : Addr) (hs : SentR w aR) (hz : okSize z) (v : Bool) (hv : decide (MemOk' ⟨2, r, b, i, s, d, m⟩) = v) :
    Calls Tryz.prog 49 #[.agg #[.int .i64 2, .int .i64 r, .int .i64 b, .int .i64 i, .int .i64 s, .int .i64 d, .int .i64 m], .int .i64 z] w fun e w' => e = .returned (.bool v) ∧ Below w.heap.size w w' := by
  have CZ := Lib.hid (fun w => checkYes z w hz)
  clear hz
  have CM : Hid (∀ q : Nat, Calls Tryz.prog 69 #[.agg #[.int .i64 2, .int .i64 r, .int .i64 b, .int .i64 i, .int .i64 s, .int .i64 d, .int .i64 m]] (w.alloc (.cells #[.int .i64 2, .int .i64 r, .int .i64 b, .int .i64 i, .int .i64 s, .int .i64 d, .int .i64 m] 31)) fun e w' => e = .returned (.bool v) ∧ Below (w.alloc (.cells #[.int .i64 2, .int .i64 r, .int .i64 b, .int .i64 i, .int .i64 s, .int .i64 d, .int .i64 m] 31)).heap.size (w.alloc (.cells #[.int .i64 2, .int .i64 r, .int .i64 b, .int .i64 i, .int .i64 s, .int .i64 d, .int .i64 m] 31)) w') := Lib.hid (fun _ => hv ▸ memOperandI ⟨2, r, b, i, s, d, m⟩ _ (hR.below ((Below.refl _ _).alloc (Nat.le_refl _) _)) aR (hs.below ((Below.refl _ _).alloc (Nat.le_refl _) _)))
  clear hs hR hv
  go_enter Tryz.func49, Tryz.ntmps49
  go_wp2_with (first | (go_at_call 66; refine (CZ.out _).mono ?_; rintro e w' ⟨rfl, rfl⟩) | (go_at_call 69; refine (CM.out 0).mono ?_; rintro e w' ⟨rfl, hb⟩))
  go_ret
  exact ⟨rfl, Below.trans ((Below.refl _ _).alloc (Nat.le_refl _) _) (hb.mono (by simp))⟩
set_option maxRecDepth 100000 in
set_option maxHeartbeats 1000000 in
theorem i3 (r b i s d m z : Int) (w : World) (hz : okSize z) (v : Bool) (hv : decide ((⟨3, r, b, i, s, d, m⟩ : Opd) = immOpd m) = v) :
    Calls Tryz.prog 49 #[.agg #[.int .i64 3, .int .i64 r, .int .i64 b, .int .i64 i, .int .i64 s, .int .i64 d, .int .i64 m], .int .i64 z] w fun e w' => e = .returned (.bool v) ∧ Below w.heap.size w w' := by
  have CZ := Lib.hid (fun w => checkYes z w hz)
  clear hz
  have E := eql_at ⟨3, r, b, i, s, d, m⟩ ⟨3, 0, 0, 0, 0, 0, m⟩ v hv
  clear hv
  have CI := Lib.hid (fun w => immOpdC m w)
  go_enter Tryz.func49, Tryz.ntmps49
  go_wp2_with (go_at_call 66; refine (CZ.out _).mono ?_; rintro e w' ⟨rfl, rfl⟩)
  have hc := box7c w ⟨3, r, b, i, s, d, m⟩
  have hb0 : Hid (Below w.heap.size w (w.alloc (.cells #[.int .i64 3, .int .i64 r, .int .i64 b, .int .i64 i, .int .i64 s, .int .i64 d, .int .i64 m] 31))) := Lib.hid ((Below.refl _ _).alloc (Nat.le_refl _) _)
  have hsz : w.heap.size < (w.alloc (.cells #[.int .i64 3, .int .i64 r, .int .i64 b, .int .i64 i, .int .i64 s, .int .i64 d, .int .i64 m] 31)).heap.size := by simp
  generalize w.alloc (.cells #[.int .i64 3, .int .i64 r, .int .i64 b, .int .i64 i, .int .i64 s, .int .i64 d, .int .i64 m] 31) = W at *
  have HC := Lib.hid hc
  obtain ⟨c0, c1, c2, c3, c4, c5, c6⟩ := hc
  go_region_held3 (fun w' => w'.cell? ⟨w.heap.size, 0, none⟩ = some (.int .i64 3) ∧ w'.cell? ⟨w.heap.size, 1, none⟩ = some (.int .i64 r) ∧ w'.cell? ⟨w.heap.size, 2, none⟩ = some (.int .i64 b) ∧ w'.cell? ⟨w.heap.size, 3, none⟩ = some (.int .i64 i) ∧ w'.cell? ⟨w.heap.size, 4, none⟩ = some (.int .i64 s) ∧ w'.cell? ⟨w.heap.size, 5, none⟩ = some (.int .i64 d) ∧ w'.cell? ⟨w.heap.size, 6, none⟩ = some (.int .i64 m)) (first | (with_reducible exact ⟨c0, c1, c2, c3, c4, c5, c6⟩) | (with_reducible exact ⟨e0, e1, e2, e3, e4, e5, e6⟩) | go_keep) (first | (go_at_call 70; (with_reducible refine Calls.mono (CI.out _) ?_); rintro e w1 ⟨rfl, b1⟩; have b2 := bthen' (dr1 W) b1; obtain ⟨e0, e1, e2, e3, e4, e5, e6⟩ := HC.out.below b2 hsz; have L1 := bthen' hb0.out b2; clear b1 b2))
  go_wp2
  go_ret
  exact ⟨rfl, by first | exact L1 | exact below_drewN L1 _⟩
theorem mixedO : Tryz.prog.follows .mixedOrders = true := by kernel_rfl
theorem regOpdQ (r : Int) (w : World) : Calls Tryz.prog 67 #[.int .i64 r] w fun e w' => e = .returned (.agg #[.int .i64 1, .int .i64 r, .int .i64 0, .int .i64 0, .int .i64 0, .int .i64 0, .int .i64 0]) ∧ ∃ q os, w' = grow (w.drewN q) os := by
  go_enter Tryz.func67, Tryz.ntmps67
  go_wp2
  refine bodyPost_ret (v := .agg #[.int .i64 1, .int .i64 r, .int .i64 0, .int .i64 0, .int .i64 0, .int .i64 0, .int .i64 0]) (by exact results_cell_row Tryz.results67 _ _ w.heap.size 31 #[.int .i64 1, .int .i64 r, .int .i64 0, .int .i64 0, .int .i64 0, .int .i64 0, .int .i64 0] (0, 0) _ rfl (heap_alloc_new w _) Tryz.underlying31 rfl (by kernel_rfl)) (by rfl) ⟨rfl, ?_⟩
  exact ⟨0, #[_], alloc_eq_grow _ _⟩
theorem below_growO {w : World} (q : Nat) (os : Array Obj) : Below w.heap.size w (grow (w.drewN q) os) :=
  ⟨rfl, rfl, rfl, by first | (simp [grow]; done) | (simp [grow]; omega), fun i hi => by
    show ((w.drewN q).heap ++ os)[i]? = _
    rw [Array.getElem?_append_left (by show i < w.heap.size; omega)]
    rfl⟩
set_option maxRecDepth 100000 in
set_option maxHeartbeats 1000000 in
theorem i1no (r b i s d m z : Int) (w : World) (hz : okSize z) (hv : decide ((⟨1, r, b, i, s, d, m⟩ : Opd) = regOpd r) = false) :
    Calls Tryz.prog 49 #[.agg #[.int .i64 1, .int .i64 r, .int .i64 b, .int .i64 i, .int .i64 s, .int .i64 d, .int .i64 m], .int .i64 z] w fun e w' => e = .returned (.bool false) ∧ Below w.heap.size w w' := by
  have CZ := Lib.hid (fun w => checkYes z w hz)
  clear hz
  have E := eql_at ⟨1, r, b, i, s, d, m⟩ ⟨1, r, 0, 0, 0, 0, 0⟩ false hv
  clear hv
  have CI := Lib.hid (fun w => regOpdQ r w)
  go_enter Tryz.func49, Tryz.ntmps49
  go_wp2_with (go_at_call 66; refine (CZ.out _).mono ?_; rintro e w' ⟨rfl, rfl⟩)
  have hc := box7c w ⟨1, r, b, i, s, d, m⟩
  have hb0 : Hid (Below w.heap.size w (w.alloc (.cells #[.int .i64 1, .int .i64 r, .int .i64 b, .int .i64 i, .int .i64 s, .int .i64 d, .int .i64 m] 31))) := Lib.hid ((Below.refl _ _).alloc (Nat.le_refl _) _)
  have hsz : w.heap.size < (w.alloc (.cells #[.int .i64 1, .int .i64 r, .int .i64 b, .int .i64 i, .int .i64 s, .int .i64 d, .int .i64 m] 31)).heap.size := by simp
  generalize w.alloc (.cells #[.int .i64 1, .int .i64 r, .int .i64 b, .int .i64 i, .int .i64 s, .int .i64 d, .int .i64 m] 31) = W at *
  obtain ⟨c0, c1, c2, c3, c4, c5, c6⟩ := hc
  have g0 := cell_grown hsz c0; have g1 := cell_grown hsz c1; have g2 := cell_grown hsz c2; have g3 := cell_grown hsz c3; have g4 := cell_grown hsz c4; have g5 := cell_grown hsz c5; have g6 := cell_grown hsz c6
  clear c0 c1 c2 c3 c4 c5 c6 hsz
  have hm := mixedO
  go_quiet_grown (first | (go_at_call 67; refine Calls.grown_of (CI.out _)))
  go_wp2
  go_ret
  exact ⟨rfl, bthen' hb0.out (below_growO nq osq)⟩
theorem grown_same {P : Program} {f : FuncId} {args : Array Value} {W : World} {v : Value} (h : Calls P f args W fun e w' => e = .returned v ∧ w' = W) : Calls P f args W fun e w' => e = .returned v ∧ ∃ q os, w' = grow (W.drewN q) os :=
  h.mono fun _ _ ⟨he, hw⟩ => ⟨he, 0, #[], by rw [hw]; exact (grow_empty W).symm⟩
set_option maxRecDepth 100000 in
set_option maxHeartbeats 1000000 in
theorem i1yes (r b i s d m z : Int) (w : World) (hR : Regs w) (hz : okSize z) (hv : decide ((⟨1, r, b, i, s, d, m⟩ : Opd) = regOpd r) = true) (v : Bool) (hv2 : decide (0 ≤ r ∧ r ≤ topReg z) = v) :
    Calls Tryz.prog 49 #[.agg #[.int .i64 1, .int .i64 r, .int .i64 b, .int .i64 i, .int .i64 s, .int .i64 d, .int .i64 m], .int .i64 z] w fun e w' => e = .returned (.bool v) ∧ Below w.heap.size w w' := by
  have CR : Hid (∀ W, Below w.heap.size w W → Calls Tryz.prog 68 #[.int .i64 r, .int .i64 z] W fun e w' => e = .returned (.bool v) ∧ w' = W) := Lib.hid (fun W hW => by
    obtain ⟨size, rfl, hs⟩ := natSize hz
    have h4 : Size4 size := by unfold okSize at hs; unfold Size4; omega
    have := isRegC size r W h4 (hR.below hW)
    rw [regs_top size h4] at this
    rw [← hv2]
    refine Calls.mono this fun e w' ⟨he, hw⟩ => ⟨?_, hw⟩
    rw [he]
    exact ret_bo (decide_eq_decide.mpr ⟨fun h => ⟨h.1, by omega⟩, fun h => ⟨h.1, by omega⟩⟩))
  clear hv2 hR
  have CZ := Lib.hid (fun w => checkYes z w hz)
  clear hz
  have E := eql_at ⟨1, r, b, i, s, d, m⟩ ⟨1, r, 0, 0, 0, 0, 0⟩ true hv
  clear hv
  have CI := Lib.hid (fun w => regOpdQ r w)
  go_enter Tryz.func49, Tryz.ntmps49
  go_wp2_with (go_at_call 66; refine (CZ.out _).mono ?_; rintro e w' ⟨rfl, rfl⟩)
  have hc := box7c w ⟨1, r, b, i, s, d, m⟩
  have hb0 : Hid (Below w.heap.size w (w.alloc (.cells #[.int .i64 1, .int .i64 r, .int .i64 b, .int .i64 i, .int .i64 s, .int .i64 d, .int .i64 m] 31))) := Lib.hid ((Below.refl _ _).alloc (Nat.le_refl _) _)
  have hsz : w.heap.size < (w.alloc (.cells #[.int .i64 1, .int .i64 r, .int .i64 b, .int .i64 i, .int .i64 s, .int .i64 d, .int .i64 m] 31)).heap.size := by simp
  generalize w.alloc (.cells #[.int .i64 1, .int .i64 r, .int .i64 b, .int .i64 i, .int .i64 s, .int .i64 d, .int .i64 m] 31) = W at *
  obtain ⟨c0, c1, c2, c3, c4, c5, c6⟩ := hc
  have g0 := cell_grown hsz c0; have g1 := cell_grown hsz c1; have g2 := cell_grown hsz c2; have g3 := cell_grown hsz c3; have g4 := cell_grown hsz c4; have g5 := cell_grown hsz c5; have g6 := cell_grown hsz c6
  clear c0 c1 c2 c3 c4 c5 c6 hsz
  have hm := mixedO
  go_quiet_grown (first | (go_at_call 67; refine Calls.grown_of (CI.out _)) | (go_at_call 68; refine Calls.grown_of (grown_same (CR.out _ (bthen' hb0.out (below_growO _ _))))))
  go_wp2
  go_ret
  exact ⟨rfl, bthen' hb0.out (below_growO nq osq)⟩
theorem operandI (x : Opd) (z : Int) (w : World) (hR : Regs w) (aR : Addr) (hs : SentR w aR) : Calls Tryz.prog 49 #[V7 x, .int .i64 z] w fun e w' => e = .returned (.bool (opdB x z)) ∧ Below w.heap.size w w' := by
  by_cases hz : okSize z
  · rw [opdB_yes hz]
    unfold kindB
    by_cases h1 : x.k = 1
    · simp only [if_pos h1]
      obtain ⟨k, r, b, i, s, d, m⟩ := x
      subst h1
      by_cases h : (⟨1, r, b, i, s, d, m⟩ : Opd) = regOpd r
      · refine Calls.mono (i1yes r b i s d m z w hR hz (decide_eq_true h) _ rfl) fun e w' ⟨he, hb⟩ => ⟨?_, hb⟩
        rw [he]
        exact ret_bo (decide_eq_decide.mpr ⟨fun h' => ⟨h, h'⟩, fun h' => h'.2⟩)
      · rw [decide_eq_false (fun h' => h h'.1)]; exact i1no r b i s d m z w hz (decide_eq_false h)
    · by_cases h2 : x.k = 2
      · simp only [if_neg h1, if_pos h2]
        obtain ⟨k, r, b, i, s, d, m⟩ := x
        subst h2
        exact i2 r b i s d m z w hR aR hs hz _ rfl
      · by_cases h3 : x.k = 3
        · simp only [if_neg h1, if_neg h2, if_pos h3]
          obtain ⟨k, r, b, i, s, d, m⟩ := x
          subst h3
          exact i3 r b i s d m z w hz _ rfl
        · simp only [if_neg h1, if_neg h2, if_neg h3]
          by_cases h0 : x.k = 0
          · obtain ⟨k, r, b, i, s, d, m⟩ := x
            subst h0
            exact i0 r b i s d m z w hz _ rfl
          · rw [decide_eq_false (fun h => h0 (by rw [h]; rfl))]
            exact iX x.k x.r x.b x.i x.s x.d x.m z w hz h0 h1 h2 h3
  · rw [opdB_no hz]; exact iNo x.k x.r x.b x.i x.s x.d x.m z w aR hs hz
end Go.Proofs.YtjnjlgaemmdkhaaGreatDoor
