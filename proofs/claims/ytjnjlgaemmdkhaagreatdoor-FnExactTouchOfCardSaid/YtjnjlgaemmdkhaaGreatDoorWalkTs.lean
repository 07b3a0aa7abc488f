/-
  Which registers l08Regs of spec tells: those that are hit, rising; conditions: those in each head.
-/
import Derived.Test.YtjnjlgaemmdkhaaGreatDoorWalkToI
import Derived.Test.YtjnjlgaemmdkhaaGreatDoorWalkOkI
import Derived.Deep.Cut
import Derived.Deep.CutRange
import Derived.OwnWalk
import Derived.Lib.SmallJoins
namespace Go.Proofs.YtjnjlgaemmdkhaaGreatDoor
open Go.RowKit Go.Sort
set_option linter.unusedVariables false
set_option linter.unusedSimpArgs false
/-- sixteen bools -/
def boolsV (h : Nat → Bool) : Array Value := #[.bool (h 0), .bool (h 1), .bool (h 2), .bool (h 3), .bool (h 4), .bool (h 5), .bool (h 6), .bool (h 7), .bool (h 8), .bool (h 9), .bool (h 10), .bool (h 11), .bool (h 12), .bool (h 13), .bool (h 14), .bool (h 15)]
def HB (W : World) (b : Nat) (h : Nat → Bool) : Prop := W.heap[b]? = some (.cells (boolsV h) 67 (0, 0))
def hup (h : Nat → Bool) (k : Nat) : Nat → Bool := fun i => if i = k then true else h i
theorem nat16 {k : Nat} (hk : k < 16) : k = 0 ∨ k = 1 ∨ k = 2 ∨ k = 3 ∨ k = 4 ∨ k = 5 ∨ k = 6 ∨ k = 7 ∨ k = 8 ∨ k = 9 ∨ k = 10 ∨ k = 11 ∨ k = 12 ∨ k = 13 ∨ k = 14 ∨ k = 15 := by omega
theorem boolsV_at (h : Nat → Bool) (k : Nat) (hk : k < 16) : (boolsV h)[k]? = some (.bool (h k)) := by
  rcases nat16 hk with rfl | rfl | rfl | rfl | rfl | rfl | rfl | rfl | rfl | rfl | rfl | rfl | rfl | rfl | rfl | rfl <;> rfl
theorem boolsV_set (h : Nat → Bool) (k : Nat) (hk : k < 16) : (boolsV h).setIfInBounds k (.bool true) = boolsV (hup h k) := by
  rcases nat16 hk with rfl | rfl | rfl | rfl | rfl | rfl | rfl | rfl | rfl | rfl | rfl | rfl | rfl | rfl | rfl | rfl <;> rfl
theorem HB.cell {W : World} {b : Nat} {h : Nat → Bool} (H : HB W b h) (k : Nat) (hk : k < 16) : W.cell? ⟨b, k, none⟩ = some (.bool (h k)) := (cell_of_row _ _ k _ _ _ H).trans (boolsV_at h k hk)
theorem HB.free {W : World} {b : Nat} {h : Nat → Bool} (H : HB W b h) (k : Nat) : W.frozen? ⟨b, k, none⟩ = false := by unfold HB at H; simp [World.frozen?, H]
theorem HB.set {W : World} {b : Nat} {h : Nat → Bool} (H : HB W b h) (k : Nat) (hk : k < 16) : HB (W.setCell ⟨b, k, none⟩ (.bool true)) b (hup h k) := by
  unfold HB at *
  simp [World.setCell, Array.getElem?_modify, H, boolsV_set h k hk]
theorem HB.below {W W' : World} {b : Nat} {h : Nat → Bool} (H : HB W b h) (hb : Below W.heap.size W W') : HB W' b h := (hb.block _ (lt_of_blk H)).trans H
set_option maxHeartbeats 1000000 in
theorem writesC (op : Int) (w : World) : Calls Tryz.prog 29 #[.int .i64 op] w fun e w' => e = .returned (.bool ((op != 8) && (op != 10))) ∧ w' = w := by
  cases h1 : (op != 8)
  · go_enter Tryz.func29, Tryz.ntmps29
    go_wp2
    go_ret
    exact ⟨rfl, rfl⟩
  · cases h2 : (op != 10)
    · go_enter Tryz.func29, Tryz.ntmps29
      go_wp2
      go_ret
      exact ⟨rfl, rfl⟩
    · go_enter Tryz.func29, Tryz.ntmps29
      go_wp2
      go_ret
      exact ⟨rfl, rfl⟩
/-- which registers an operation hits beside its first operand -/
def hsw (op sz : Int) (n : Nat) (h : Nat → Bool) : Nat → Bool :=
  if op = 28 then hup h n else if op = 13 ∨ op = 14 ∨ op = 15 ∨ op = 16 then (if 1 < sz then hup (hup h 0) 2 else hup h 0) else if op = 39 then hup h 0 else if op = 40 then hup h 2 else if op = 41 then hup h 7 else if op = 42 then hup (hup h 6) 7 else if op = 29 ∨ op = 30 ∨ op = 31 ∨ op = 34 then hup h 4 else h
def regL (h : Nat → Bool) (n : Nat) : List Int := List.map (fun (i : Nat) => (i : Int)) (List.filter h (List.range n))
def RX (w W : World) (x : Ins) (h : Nat → Bool) : Prop := W.heap[w.heap.size]? = some (.cells (insV x) 33 (0, 0)) ∧ HB W (w.heap.size + 1) h ∧ Below w.heap.size w W
theorem RX.set {w W : World} {x : Ins} {h : Nat → Bool} (H : RX w W x h) (k : Nat) (hk : k < 16) : RX w (W.setCell ⟨w.heap.size + 1, k, none⟩ (.bool true)) x (hup h k) :=
  ⟨(Below.heap_setCell _ _ _ _ (by show w.heap.size ≠ w.heap.size + 1; omega)).trans H.1, H.2.1.set k hk, H.2.2.setCell (by show w.heap.size ≤ w.heap.size + 1; omega) _⟩
theorem RX.new (w : World) (x : Ins) : RX w ((w.alloc (.cells (insV x) 33)).alloc (.cells (boolsV (fun _ => false)) 67)) x (fun _ => false) := by
  have e : (w.alloc (.cells (insV x) 33)).heap.size = w.heap.size + 1 := by simp
  have h := heap_alloc_new (w.alloc (.cells (insV x) 33)) (.cells (boolsV (fun _ => false)) 67)
  rw [e] at h
  exact ⟨(Below.heap_alloc _ _ _ (by simp)).trans (heap_alloc_new w _), h, ((Below.refl _ _).alloc (Nat.le_refl _) _).alloc (by simp) _⟩
theorem RX.newV (w : World) (x : Ins) (h : Nat → Bool) (cs : Array Value) (hcs : cs = boolsV h) : RX w ((w.alloc (.cells (insV x) 33)).alloc (.cells cs 67)) x h := by
  subst hcs
  have e : (w.alloc (.cells (insV x) 33)).heap.size = w.heap.size + 1 := by simp
  have h' := heap_alloc_new (w.alloc (.cells (insV x) 33)) (.cells (boolsV h) 67)
  rw [e] at h'
  exact ⟨(Below.heap_alloc _ _ _ (by simp)).trans (heap_alloc_new w _), h', ((Below.refl _ _).alloc (Nat.le_refl _) _).alloc (by simp) _⟩
theorem false_set (m : Nat) (hm : m < 16) : ([Value.bool false, Value.bool false, Value.bool false, Value.bool false, Value.bool false, Value.bool false, Value.bool false, Value.bool false, Value.bool false, Value.bool false, Value.bool false, Value.bool false, Value.bool false, Value.bool false, Value.bool false, Value.bool false].set m (Value.bool true)).toArray = boolsV (hup (fun _ => false) m) := by
  rcases nat16 hm with rfl | rfl | rfl | rfl | rfl | rfl | rfl | rfl | rfl | rfl | rfl | rfl | rfl | rfl | rfl | rfl <;> rfl
theorem regL_yes {h : Nat → Bool} {n : Nat} (hn : h n = true) : regL h (n + 1) = regL h n ++ [(n : Int)] := by
  unfold regL; rw [List.range_succ, List.filter_append]; simp [hn]
theorem regL_no {h : Nat → Bool} {n : Nat} (hn : h n = false) : regL h (n + 1) = regL h n := by
  unfold regL; rw [List.range_succ, List.filter_append]; simp [hn]
theorem regL_len (h : Nat → Bool) (n : Nat) : (regL h n).length ≤ n := by
  unfold regL; rw [List.length_map]; have := List.length_filter_le h (List.range n); simpa using this
theorem RX.below {w W W' : World} {x : Ins} {h : Nat → Bool} (H : RX w W x h) (hb : Below W.heap.size W W') : RX w W' x h :=
  ⟨(hb.block _ (lt_of_blk H.1)).trans H.1, H.2.1.below hb, H.2.2.trans (hb.mono H.2.2.size)⟩
theorem RX.alloc {w W : World} {x : Ins} {h : Nat → Bool} (H : RX w W x h) (o : Obj) : RX w (W.alloc o) x h := H.below ((Below.refl _ _).alloc (Nat.le_refl _) _)
theorem RX.grown {w W W' : World} {x : Ins} {h : Nat → Bool} {row : Option Nat} (H : RX w W x h) (hg : W.grownBy W' row) (hr : ∀ k, row = some k → w.heap.size + 2 ≤ k) : RX w W' x h :=
  ⟨(hg.block _ (lt_of_blk H.1) (fun e => by have := hr _ e.symm; omega)).trans H.1, (hg.block _ (lt_of_blk H.2.1) (fun e => by have := hr _ e.symm; omega)).trans H.2.1, H.2.2.grown hg H.2.2.size (fun k hk => by have := hr k hk; omega)⟩
theorem RX.size {w W : World} {x : Ins} {h : Nat → Bool} (H : RX w W x h) : w.heap.size + 2 ≤ W.heap.size := by have := lt_of_blk H.2.1; omega
theorem rowInt8 : (Tryz.prog.info? 3).map (fun i => (i.zero, i.size, i.bytes)) = some (some (.int .i64 0), 1, 8) := by kernel_rfl
theorem own_alloc8 {W : World} {base : Nat} {v : Value} {n : Nat} {l : List Value} (h : W.ownsRow base 3 1 v n l) (o : Obj) : (W.alloc o).ownsRow base 3 1 v n l := by
  obtain ⟨h1, h2⟩ := h
  refine ⟨h1, h2.imp id ?_⟩
  rintro ⟨g, cap, cur, rfl, hb, hg, h3⟩
  exact ⟨g, cap, cur, rfl, hb, (Below.heap_alloc _ _ _ (lt_of_blk hg)).trans hg, h3⟩
theorem news8 (W : World) (z : Int) (T : TypeId) (j : Nat) (u : Value) (h : ([.int .i64 z] : List Value)[j]? = some u) : (W.alloc (.cells #[.int .i64 z] T)).cell? ((⟨W.heap.size, 0, none⟩ : Addr).add j) = some u :=
  World.news_of_block (w := W.alloc (.cells #[.int .i64 z] T)) (heap_alloc_new W _) j u (by simpa using h)
theorem one8 (z : Int) : ∀ u ∈ ([.int .i64 z] : List Value), u.oneCell' = true := by intro u hu; simp only [List.mem_cons, List.not_mem_nil, or_false] at hu; subst hu; rfl
set_option maxRecDepth 100000 in
set_option maxHeartbeats 4000000 in
theorem hitRegsS (op sz cd fr : Int) (d s : Opd) (ln : Int) (m n : Nat) (b1 wr : Bool) (w : World) (e1 : (d.k == 1) = b1) (hwr : ((op != 8) && (op != 10)) = wr) (hm : d.r.tmod 16 = (m : Int)) (hm16 : m < 16) (hn : op = 28 → s.r.tmod 16 = (n : Int) ∧ n < 16) :
    Calls Tryz.prog 28 #[.agg #[.int .i64 op, .int .i64 sz, .int .i64 cd, .int .i64 fr, .int .i64 d.k, .int .i64 d.r, .int .i64 d.b, .int .i64 d.i, .int .i64 d.s, .int .i64 d.d, .int .i64 d.m, .int .i64 s.k, .int .i64 s.r, .int .i64 s.b, .int .i64 s.i, .int .i64 s.s, .int .i64 s.d, .int .i64 s.m, .int .i64 ln]] w fun e w' => ∃ v, e = .returned v ∧ w'.ownsRow w.heap.size 3 1 v (regL (hsw op sz n (if b1 && wr then hup (fun _ => false) m else fun _ => false)) 16).length ((regL (hsw op sz n (if b1 && wr then hup (fun _ => false) m else fun _ => false)) 16).map (fun i => .int .i64 i)) ∧ Below w.heap.size w w' := by
  have CW := Lib.hid (fun W => writesC op W)
  rw [hwr] at CW
  obtain ⟨h0, hh0⟩ : ∃ h0, h0 = (if b1 && wr then hup (fun _ => false) m else fun _ => false) := ⟨_, rfl⟩
  obtain ⟨h1, hh1⟩ : ∃ h1, h1 = hsw op sz n h0 := ⟨_, rfl⟩
  rw [← hh0, ← hh1]
  have N0 := Lib.hid (RX.new w ⟨op, sz, cd, fr, d, s, ln⟩)
  have HH0 := Lib.hid hh0; have HH1 := Lib.hid hh1; have HN := Lib.hid hn
  clear hh0 hh1 hn hwr
  cases b1
  · go_enter Tryz.func28, Tryz.ntmps28
    have c4 := cell_of_row _ _ 4 _ _ _ N0.out.1
    have c5 := cell_of_row _ _ 5 _ _ _ N0.out.1
    have c0 := cell_of_row _ _ 0 _ _ _ N0.out.1
    have z0 := N0.out.2.1.cell m hm16
    have f0 := N0.out.2.1.free m
    have hm16' : (m : Int) < 16 := by omega
    simp only [insV, insA, List.getElem?_toArray, List.getElem?_cons_zero, List.getElem?_cons_succ, boolsV] at c0 c4 c5 z0 f0
    go_upto_if 15 with fail
    go_cut [16] from 17 to 20 (fun v W' => RX w W' ⟨op, sz, cd, fr, d, s, ln⟩ h0)
    case first =>
      go_wp2_with fail
      go_meet
      case rel => exact (HH0.out ▸ N0.out)
    case rest =>
      clear c0 c4 c5 z0 f0
      have H1 := Lib.hid hcut
      clear hcut
      by_cases h28 : op = 28
      · subst h28
        obtain ⟨hn1, hn2⟩ := HN.out rfl
        have hn3 : (n : Int) < 16 := by omega
        have c12 := cell_of_row _ _ 12 _ _ _ H1.out.1
        have c0 := cell_of_row _ _ 0 _ _ _ H1.out.1
        simp only [insV, insA, List.getElem?_toArray, List.getElem?_cons_zero, List.getElem?_cons_succ] at c0 c12
        have zn := H1.out.2.1.cell n (by omega)
        have fn := H1.out.2.1.free n
        have E1 : h1 = hup h0 n := by rw [HH1.out]; unfold hsw; simp only [reduceIte, Int.reduceEq, or_self, or_false, or_true, false_or, true_or]
        have E1h := Lib.hid E1
        clear E1
        go_upto_region 28 with fail
        have H2 := Lib.hid (show RX w (wc.setCell ⟨w.heap.size + 1, n, none⟩ (.bool true)) ⟨28, sz, cd, fr, d, s, ln⟩ h1 from E1h.out ▸ (H1.out.set n (by omega)))
        generalize (wc.setCell ⟨w.heap.size + 1, n, none⟩ (.bool true)) = W2 at *
        go_wp2_with fail
        clear H1
        have O0 := Lib.hid (World.ownsRow_made (e := 3) (size := 1) (base := w.heap.size + 2) W2 #[] 0 H2.out.size (Nat.zero_le _) rfl)
        have H3 := Lib.hid (H2.out.alloc (.cells #[] 3))
        clear H2
        go_loopw [4, 5] (fun v i wr => ∃ k : Nat, i = .int .i64 (k : Int) ∧ k ≤ 16 ∧ Hid (wr.ownsRow (w.heap.size + 2) 3 1 v (regL h1 k).length ((regL h1 k).map (fun i => .int .i64 i))) ∧ Hid (RX w wr ⟨28, sz, cd, fr, d, s, ln⟩ h1)) (fun _ i _ => 16 - (intOf i).toNat)
        case atStart => exact ⟨0, rfl, Nat.zero_le _, O0, H3⟩
        case round =>
          obtain ⟨k, rfl, hk, HO, HR⟩ := hrel
          by_cases hlt : k < 16
          · have hk' : (k : Int) < 16 := by omega
            have z := HR.out.2.1.cell k hlt
            cases hb : h1 k
            · rw [hb] at z
              have HY := Lib.hid hb
              clear hb
              go_wp2
              go_roundw
              case rel => exact ⟨k + 1, by go_num, by omega, Lib.hid (by rw [regL_no HY.out]; exact HO.out), HR⟩
              case measure => simp [intOf]; omega
            · rw [hb] at z
              have HY := Lib.hid hb
              clear hb
              have HR1 := Lib.hid (HR.out.alloc (.cells #[.int .i64 (k : Int)] 3))
              have O1 := Lib.hid (own_alloc8 HO.out (.cells #[.int .i64 (k : Int)] 3))
              have HNW := Lib.hid (news8 wr (k : Int) 3)
              have HL := regL_len h1 k
              have hm1 : (regL h1 k).length + 1 ≤ maxLen := by unfold maxLen; omega
              have hm2 : ((regL h1 k).length + 1) * 8 ≤ 140737488355328 := by omega
              obtain ⟨i0, hi, hz0, hz1, hz2⟩ := info_parts rowInt8
              go_wp2_with (first | (at_builtin; refine wpList_append_own _ rfl (.tmp 67) (.tmp 69) 26 rfl (w.heap.size + 2) 3 i0 _ 1 8 Tryz.underlying26 hi hz0 hz1 hz2 rfl (by decide) _ _ _ rfl O1.out ⟨wr.heap.size, 0, none⟩ 1 1 [.int .i64 (k : Int)] rfl rfl HNW.out (one8 _) hm1 hm2 HR1.out.size ?_; intro v' w2 hown hgrow hnil))
              have HR2 := Lib.hid (HR1.out.grown hgrow (fun j hj => (HO.out.lt j hj).1))
              have HO2 := Lib.hid hown
              clear hown hgrow hnil
              go_roundw
              case rel => exact ⟨k + 1, by go_num, by omega, Lib.hid (by rw [regL_yes HY.out, List.map_append, List.length_append]; exact HO2.out), HR2⟩
              case measure => simp [intOf]; omega
          · obtain rfl : k = 16 := by omega
            go_wp2
            go_ret
            exact ⟨_, rfl, Joins.ownsRow_le HO.out (by omega), HR.out.2.2⟩
      by_cases h13 : op = 13
      · subst h13
        by_cases hz : 1 < sz
        · have c1 := cell_of_row _ _ 1 _ _ _ H1.out.1
          have c0 := cell_of_row _ _ 0 _ _ _ H1.out.1
          simp only [insV, insA, List.getElem?_toArray, List.getElem?_cons_zero, List.getElem?_cons_succ] at c0 c1
          have z0 := H1.out.2.1.cell 0 (by omega)
          have f0 := H1.out.2.1.free 0
          have z2 := H1.out.2.1.cell 2 (by omega)
          have f2 := H1.out.2.1.free 2
          have E1 : h1 = hup (hup h0 0) 2 := by rw [HH1.out]; unfold hsw; simp only [hz, reduceIte, Int.reduceEq, or_self, or_false, or_true, false_or, true_or]
          have E1h := Lib.hid E1
          clear E1
          have hz' : decide (1 < sz) = true := by simp only [hz, decide_true, decide_false]
          go_upto_region 28 with fail
          have H2 := Lib.hid (show RX w ((wc.setCell ⟨w.heap.size + 1, 0, none⟩ (.bool true)).setCell ⟨w.heap.size + 1, 2, none⟩ (.bool true)) ⟨13, sz, cd, fr, d, s, ln⟩ h1 from E1h.out ▸ ((H1.out.set 0 (by omega)).set 2 (by omega)))
          generalize ((wc.setCell ⟨w.heap.size + 1, 0, none⟩ (.bool true)).setCell ⟨w.heap.size + 1, 2, none⟩ (.bool true)) = W2 at *
          go_wp2_with fail
          clear H1
          have O0 := Lib.hid (World.ownsRow_made (e := 3) (size := 1) (base := w.heap.size + 2) W2 #[] 0 H2.out.size (Nat.zero_le _) rfl)
          have H3 := Lib.hid (H2.out.alloc (.cells #[] 3))
          clear H2
          go_loopw [4, 5] (fun v i wr => ∃ k : Nat, i = .int .i64 (k : Int) ∧ k ≤ 16 ∧ Hid (wr.ownsRow (w.heap.size + 2) 3 1 v (regL h1 k).length ((regL h1 k).map (fun i => .int .i64 i))) ∧ Hid (RX w wr ⟨13, sz, cd, fr, d, s, ln⟩ h1)) (fun _ i _ => 16 - (intOf i).toNat)
          case atStart => exact ⟨0, rfl, Nat.zero_le _, O0, H3⟩
          case round =>
            obtain ⟨k, rfl, hk, HO, HR⟩ := hrel
            by_cases hlt : k < 16
            · have hk' : (k : Int) < 16 := by omega
              have z := HR.out.2.1.cell k hlt
              cases hb : h1 k
              · rw [hb] at z
                have HY := Lib.hid hb
                clear hb
                go_wp2
                go_roundw
                case rel => exact ⟨k + 1, by go_num, by omega, Lib.hid (by rw [regL_no HY.out]; exact HO.out), HR⟩
                case measure => simp [intOf]; omega
              · rw [hb] at z
                have HY := Lib.hid hb
                clear hb
                have HR1 := Lib.hid (HR.out.alloc (.cells #[.int .i64 (k : Int)] 3))
                have O1 := Lib.hid (own_alloc8 HO.out (.cells #[.int .i64 (k : Int)] 3))
                have HNW := Lib.hid (news8 wr (k : Int) 3)
                have HL := regL_len h1 k
                have hm1 : (regL h1 k).length + 1 ≤ maxLen := by unfold maxLen; omega
                have hm2 : ((regL h1 k).length + 1) * 8 ≤ 140737488355328 := by omega
                obtain ⟨i0, hi, hz0, hz1, hz2⟩ := info_parts rowInt8
                go_wp2_with (first | (at_builtin; refine wpList_append_own _ rfl (.tmp 67) (.tmp 69) 26 rfl (w.heap.size + 2) 3 i0 _ 1 8 Tryz.underlying26 hi hz0 hz1 hz2 rfl (by decide) _ _ _ rfl O1.out ⟨wr.heap.size, 0, none⟩ 1 1 [.int .i64 (k : Int)] rfl rfl HNW.out (one8 _) hm1 hm2 HR1.out.size ?_; intro v' w2 hown hgrow hnil))
                have HR2 := Lib.hid (HR1.out.grown hgrow (fun j hj => (HO.out.lt j hj).1))
                have HO2 := Lib.hid hown
                clear hown hgrow hnil
                go_roundw
                case rel => exact ⟨k + 1, by go_num, by omega, Lib.hid (by rw [regL_yes HY.out, List.map_append, List.length_append]; exact HO2.out), HR2⟩
                case measure => simp [intOf]; omega
            · obtain rfl : k = 16 := by omega
              go_wp2
              go_ret
              exact ⟨_, rfl, Joins.ownsRow_le HO.out (by omega), HR.out.2.2⟩
        · have c1 := cell_of_row _ _ 1 _ _ _ H1.out.1
          have c0 := cell_of_row _ _ 0 _ _ _ H1.out.1
          simp only [insV, insA, List.getElem?_toArray, List.getElem?_cons_zero, List.getElem?_cons_succ] at c0 c1
          have z0 := H1.out.2.1.cell 0 (by omega)
          have f0 := H1.out.2.1.free 0
          have E1 : h1 = hup h0 0 := by rw [HH1.out]; unfold hsw; simp only [hz, reduceIte, Int.reduceEq, or_self, or_false, or_true, false_or, true_or]
          have E1h := Lib.hid E1
          clear E1
          have hz' : decide (1 < sz) = false := by simp only [hz, decide_true, decide_false]
          go_upto_region 28 with fail
          have H2 := Lib.hid (show RX w (wc.setCell ⟨w.heap.size + 1, 0, none⟩ (.bool true)) ⟨13, sz, cd, fr, d, s, ln⟩ h1 from E1h.out ▸ (H1.out.set 0 (by omega)))
          generalize (wc.setCell ⟨w.heap.size + 1, 0, none⟩ (.bool true)) = W2 at *
          go_wp2_with fail
          clear H1
          have O0 := Lib.hid (World.ownsRow_made (e := 3) (size := 1) (base := w.heap.size + 2) W2 #[] 0 H2.out.size (Nat.zero_le _) rfl)
          have H3 := Lib.hid (H2.out.alloc (.cells #[] 3))
          clear H2
          go_loopw [4, 5] (fun v i wr => ∃ k : Nat, i = .int .i64 (k : Int) ∧ k ≤ 16 ∧ Hid (wr.ownsRow (w.heap.size + 2) 3 1 v (regL h1 k).length ((regL h1 k).map (fun i => .int .i64 i))) ∧ Hid (RX w wr ⟨13, sz, cd, fr, d, s, ln⟩ h1)) (fun _ i _ => 16 - (intOf i).toNat)
          case atStart => exact ⟨0, rfl, Nat.zero_le _, O0, H3⟩
          case round =>
            obtain ⟨k, rfl, hk, HO, HR⟩ := hrel
            by_cases hlt : k < 16
            · have hk' : (k : Int) < 16 := by omega
              have z := HR.out.2.1.cell k hlt
              cases hb : h1 k
              · rw [hb] at z
                have HY := Lib.hid hb
                clear hb
                go_wp2
                go_roundw
                case rel => exact ⟨k + 1, by go_num, by omega, Lib.hid (by rw [regL_no HY.out]; exact HO.out), HR⟩
                case measure => simp [intOf]; omega
              · rw [hb] at z
                have HY := Lib.hid hb
                clear hb
                have HR1 := Lib.hid (HR.out.alloc (.cells #[.int .i64 (k : Int)] 3))
                have O1 := Lib.hid (own_alloc8 HO.out (.cells #[.int .i64 (k : Int)] 3))
                have HNW := Lib.hid (news8 wr (k : Int) 3)
                have HL := regL_len h1 k
                have hm1 : (regL h1 k).length + 1 ≤ maxLen := by unfold maxLen; omega
                have hm2 : ((regL h1 k).length + 1) * 8 ≤ 140737488355328 := by omega
                obtain ⟨i0, hi, hz0, hz1, hz2⟩ := info_parts rowInt8
                go_wp2_with (first | (at_builtin; refine wpList_append_own _ rfl (.tmp 67) (.tmp 69) 26 rfl (w.heap.size + 2) 3 i0 _ 1 8 Tryz.underlying26 hi hz0 hz1 hz2 rfl (by decide) _ _ _ rfl O1.out ⟨wr.heap.size, 0, none⟩ 1 1 [.int .i64 (k : Int)] rfl rfl HNW.out (one8 _) hm1 hm2 HR1.out.size ?_; intro v' w2 hown hgrow hnil))
                have HR2 := Lib.hid (HR1.out.grown hgrow (fun j hj => (HO.out.lt j hj).1))
                have HO2 := Lib.hid hown
                clear hown hgrow hnil
                go_roundw
                case rel => exact ⟨k + 1, by go_num, by omega, Lib.hid (by rw [regL_yes HY.out, List.map_append, List.length_append]; exact HO2.out), HR2⟩
                case measure => simp [intOf]; omega
            · obtain rfl : k = 16 := by omega
              go_wp2
              go_ret
              exact ⟨_, rfl, Joins.ownsRow_le HO.out (by omega), HR.out.2.2⟩
      by_cases h14 : op = 14
      · subst h14
        by_cases hz : 1 < sz
        · have c1 := cell_of_row _ _ 1 _ _ _ H1.out.1
          have c0 := cell_of_row _ _ 0 _ _ _ H1.out.1
          simp only [insV, insA, List.getElem?_toArray, List.getElem?_cons_zero, List.getElem?_cons_succ] at c0 c1
          have z0 := H1.out.2.1.cell 0 (by omega)
          have f0 := H1.out.2.1.free 0
          have z2 := H1.out.2.1.cell 2 (by omega)
          have f2 := H1.out.2.1.free 2
          have E1 : h1 = hup (hup h0 0) 2 := by rw [HH1.out]; unfold hsw; simp only [hz, reduceIte, Int.reduceEq, or_self, or_false, or_true, false_or, true_or]
          have E1h := Lib.hid E1
          clear E1
          have hz' : decide (1 < sz) = true := by simp only [hz, decide_true, decide_false]
          go_upto_region 28 with fail
          have H2 := Lib.hid (show RX w ((wc.setCell ⟨w.heap.size + 1, 0, none⟩ (.bool true)).setCell ⟨w.heap.size + 1, 2, none⟩ (.bool true)) ⟨14, sz, cd, fr, d, s, ln⟩ h1 from E1h.out ▸ ((H1.out.set 0 (by omega)).set 2 (by omega)))
          generalize ((wc.setCell ⟨w.heap.size + 1, 0, none⟩ (.bool true)).setCell ⟨w.heap.size + 1, 2, none⟩ (.bool true)) = W2 at *
          go_wp2_with fail
          clear H1
          have O0 := Lib.hid (World.ownsRow_made (e := 3) (size := 1) (base := w.heap.size + 2) W2 #[] 0 H2.out.size (Nat.zero_le _) rfl)
          have H3 := Lib.hid (H2.out.alloc (.cells #[] 3))
          clear H2
          go_loopw [4, 5] (fun v i wr => ∃ k : Nat, i = .int .i64 (k : Int) ∧ k ≤ 16 ∧ Hid (wr.ownsRow (w.heap.size + 2) 3 1 v (regL h1 k).length ((regL h1 k).map (fun i => .int .i64 i))) ∧ Hid (RX w wr ⟨14, sz, cd, fr, d, s, ln⟩ h1)) (fun _ i _ => 16 - (intOf i).toNat)
          case atStart => exact ⟨0, rfl, Nat.zero_le _, O0, H3⟩
          case round =>
            obtain ⟨k, rfl, hk, HO, HR⟩ := hrel
            by_cases hlt : k < 16
            · have hk' : (k : Int) < 16 := by omega
              have z := HR.out.2.1.cell k hlt
              cases hb : h1 k
              · rw [hb] at z
                have HY := Lib.hid hb
                clear hb
                go_wp2
                go_roundw
                case rel => exact ⟨k + 1, by go_num, by omega, Lib.hid (by rw [regL_no HY.out]; exact HO.out), HR⟩
                case measure => simp [intOf]; omega
              · rw [hb] at z
                have HY := Lib.hid hb
                clear hb
                have HR1 := Lib.hid (HR.out.alloc (.cells #[.int .i64 (k : Int)] 3))
                have O1 := Lib.hid (own_alloc8 HO.out (.cells #[.int .i64 (k : Int)] 3))
                have HNW := Lib.hid (news8 wr (k : Int) 3)
                have HL := regL_len h1 k
                have hm1 : (regL h1 k).length + 1 ≤ maxLen := by unfold maxLen; omega
                have hm2 : ((regL h1 k).length + 1) * 8 ≤ 140737488355328 := by omega
                obtain ⟨i0, hi, hz0, hz1, hz2⟩ := info_parts rowInt8
                go_wp2_with (first | (at_builtin; refine wpList_append_own _ rfl (.tmp 67) (.tmp 69) 26 rfl (w.heap.size + 2) 3 i0 _ 1 8 Tryz.underlying26 hi hz0 hz1 hz2 rfl (by decide) _ _ _ rfl O1.out ⟨wr.heap.size, 0, none⟩ 1 1 [.int .i64 (k : Int)] rfl rfl HNW.out (one8 _) hm1 hm2 HR1.out.size ?_; intro v' w2 hown hgrow hnil))
                have HR2 := Lib.hid (HR1.out.grown hgrow (fun j hj => (HO.out.lt j hj).1))
                have HO2 := Lib.hid hown
                clear hown hgrow hnil
                go_roundw
                case rel => exact ⟨k + 1, by go_num, by omega, Lib.hid (by rw [regL_yes HY.out, List.map_append, List.length_append]; exact HO2.out), HR2⟩
                case measure => simp [intOf]; omega
            · obtain rfl : k = 16 := by omega
              go_wp2
              go_ret
              exact ⟨_, rfl, Joins.ownsRow_le HO.out (by omega), HR.out.2.2⟩
        · have c1 := cell_of_row _ _ 1 _ _ _ H1.out.1
          have c0 := cell_of_row _ _ 0 _ _ _ H1.out.1
          simp only [insV, insA, List.getElem?_toArray, List.getElem?_cons_zero, List.getElem?_cons_succ] at c0 c1
          have z0 := H1.out.2.1.cell 0 (by omega)
          have f0 := H1.out.2.1.free 0
          have E1 : h1 = hup h0 0 := by rw [HH1.out]; unfold hsw; simp only [hz, reduceIte, Int.reduceEq, or_self, or_false, or_true, false_or, true_or]
          have E1h := Lib.hid E1
          clear E1
          have hz' : decide (1 < sz) = false := by simp only [hz, decide_true, decide_false]
          go_upto_region 28 with fail
          have H2 := Lib.hid (show RX w (wc.setCell ⟨w.heap.size + 1, 0, none⟩ (.bool true)) ⟨14, sz, cd, fr, d, s, ln⟩ h1 from E1h.out ▸ (H1.out.set 0 (by omega)))
          generalize (wc.setCell ⟨w.heap.size + 1, 0, none⟩ (.bool true)) = W2 at *
          go_wp2_with fail
          clear H1
          have O0 := Lib.hid (World.ownsRow_made (e := 3) (size := 1) (base := w.heap.size + 2) W2 #[] 0 H2.out.size (Nat.zero_le _) rfl)
          have H3 := Lib.hid (H2.out.alloc (.cells #[] 3))
          clear H2
          go_loopw [4, 5] (fun v i wr => ∃ k : Nat, i = .int .i64 (k : Int) ∧ k ≤ 16 ∧ Hid (wr.ownsRow (w.heap.size + 2) 3 1 v (regL h1 k).length ((regL h1 k).map (fun i => .int .i64 i))) ∧ Hid (RX w wr ⟨14, sz, cd, fr, d, s, ln⟩ h1)) (fun _ i _ => 16 - (intOf i).toNat)
          case atStart => exact ⟨0, rfl, Nat.zero_le _, O0, H3⟩
          case round =>
            obtain ⟨k, rfl, hk, HO, HR⟩ := hrel
            by_cases hlt : k < 16
            · have hk' : (k : Int) < 16 := by omega
              have z := HR.out.2.1.cell k hlt
              cases hb : h1 k
              · rw [hb] at z
                have HY := Lib.hid hb
                clear hb
                go_wp2
                go_roundw
                case rel => exact ⟨k + 1, by go_num, by omega, Lib.hid (by rw [regL_no HY.out]; exact HO.out), HR⟩
                case measure => simp [intOf]; omega
              · rw [hb] at z
                have HY := Lib.hid hb
                clear hb
                have HR1 := Lib.hid (HR.out.alloc (.cells #[.int .i64 (k : Int)] 3))
                have O1 := Lib.hid (own_alloc8 HO.out (.cells #[.int .i64 (k : Int)] 3))
                have HNW := Lib.hid (news8 wr (k : Int) 3)
                have HL := regL_len h1 k
                have hm1 : (regL h1 k).length + 1 ≤ maxLen := by unfold maxLen; omega
                have hm2 : ((regL h1 k).length + 1) * 8 ≤ 140737488355328 := by omega
                obtain ⟨i0, hi, hz0, hz1, hz2⟩ := info_parts rowInt8
                go_wp2_with (first | (at_builtin; refine wpList_append_own _ rfl (.tmp 67) (.tmp 69) 26 rfl (w.heap.size + 2) 3 i0 _ 1 8 Tryz.underlying26 hi hz0 hz1 hz2 rfl (by decide) _ _ _ rfl O1.out ⟨wr.heap.size, 0, none⟩ 1 1 [.int .i64 (k : Int)] rfl rfl HNW.out (one8 _) hm1 hm2 HR1.out.size ?_; intro v' w2 hown hgrow hnil))
                have HR2 := Lib.hid (HR1.out.grown hgrow (fun j hj => (HO.out.lt j hj).1))
                have HO2 := Lib.hid hown
                clear hown hgrow hnil
                go_roundw
                case rel => exact ⟨k + 1, by go_num, by omega, Lib.hid (by rw [regL_yes HY.out, List.map_append, List.length_append]; exact HO2.out), HR2⟩
                case measure => simp [intOf]; omega
            · obtain rfl : k = 16 := by omega
              go_wp2
              go_ret
              exact ⟨_, rfl, Joins.ownsRow_le HO.out (by omega), HR.out.2.2⟩
      by_cases h15 : op = 15
      · subst h15
        by_cases hz : 1 < sz
        · have c1 := cell_of_row _ _ 1 _ _ _ H1.out.1
          have c0 := cell_of_row _ _ 0 _ _ _ H1.out.1
          simp only [insV, insA, List.getElem?_toArray, List.getElem?_cons_zero, List.getElem?_cons_succ] at c0 c1
          have z0 := H1.out.2.1.cell 0 (by omega)
          have f0 := H1.out.2.1.free 0
          have z2 := H1.out.2.1.cell 2 (by omega)
          have f2 := H1.out.2.1.free 2
          have E1 : h1 = hup (hup h0 0) 2 := by rw [HH1.out]; unfold hsw; simp only [hz, reduceIte, Int.reduceEq, or_self, or_false, or_true, false_or, true_or]
          have E1h := Lib.hid E1
          clear E1
          have hz' : decide (1 < sz) = true := by simp only [hz, decide_true, decide_false]
          go_upto_region 28 with fail
          have H2 := Lib.hid (show RX w ((wc.setCell ⟨w.heap.size + 1, 0, none⟩ (.bool true)).setCell ⟨w.heap.size + 1, 2, none⟩ (.bool true)) ⟨15, sz, cd, fr, d, s, ln⟩ h1 from E1h.out ▸ ((H1.out.set 0 (by omega)).set 2 (by omega)))
          generalize ((wc.setCell ⟨w.heap.size + 1, 0, none⟩ (.bool true)).setCell ⟨w.heap.size + 1, 2, none⟩ (.bool true)) = W2 at *
          go_wp2_with fail
          clear H1
          have O0 := Lib.hid (World.ownsRow_made (e := 3) (size := 1) (base := w.heap.size + 2) W2 #[] 0 H2.out.size (Nat.zero_le _) rfl)
          have H3 := Lib.hid (H2.out.alloc (.cells #[] 3))
          clear H2
          go_loopw [4, 5] (fun v i wr => ∃ k : Nat, i = .int .i64 (k : Int) ∧ k ≤ 16 ∧ Hid (wr.ownsRow (w.heap.size + 2) 3 1 v (regL h1 k).length ((regL h1 k).map (fun i => .int .i64 i))) ∧ Hid (RX w wr ⟨15, sz, cd, fr, d, s, ln⟩ h1)) (fun _ i _ => 16 - (intOf i).toNat)
          case atStart => exact ⟨0, rfl, Nat.zero_le _, O0, H3⟩
          case round =>
            obtain ⟨k, rfl, hk, HO, HR⟩ := hrel
            by_cases hlt : k < 16
            · have hk' : (k : Int) < 16 := by omega
              have z := HR.out.2.1.cell k hlt
              cases hb : h1 k
              · rw [hb] at z
                have HY := Lib.hid hb
                clear hb
                go_wp2
                go_roundw
                case rel => exact ⟨k + 1, by go_num, by omega, Lib.hid (by rw [regL_no HY.out]; exact HO.out), HR⟩
                case measure => simp [intOf]; omega
              · rw [hb] at z
                have HY := Lib.hid hb
                clear hb
                have HR1 := Lib.hid (HR.out.alloc (.cells #[.int .i64 (k : Int)] 3))
                have O1 := Lib.hid (own_alloc8 HO.out (.cells #[.int .i64 (k : Int)] 3))
                have HNW := Lib.hid (news8 wr (k : Int) 3)
                have HL := regL_len h1 k
                have hm1 : (regL h1 k).length + 1 ≤ maxLen := by unfold maxLen; omega
                have hm2 : ((regL h1 k).length + 1) * 8 ≤ 140737488355328 := by omega
                obtain ⟨i0, hi, hz0, hz1, hz2⟩ := info_parts rowInt8
                go_wp2_with (first | (at_builtin; refine wpList_append_own _ rfl (.tmp 67) (.tmp 69) 26 rfl (w.heap.size + 2) 3 i0 _ 1 8 Tryz.underlying26 hi hz0 hz1 hz2 rfl (by decide) _ _ _ rfl O1.out ⟨wr.heap.size, 0, none⟩ 1 1 [.int .i64 (k : Int)] rfl rfl HNW.out (one8 _) hm1 hm2 HR1.out.size ?_; intro v' w2 hown hgrow hnil))
                have HR2 := Lib.hid (HR1.out.grown hgrow (fun j hj => (HO.out.lt j hj).1))
                have HO2 := Lib.hid hown
                clear hown hgrow hnil
                go_roundw
                case rel => exact ⟨k + 1, by go_num, by omega, Lib.hid (by rw [regL_yes HY.out, List.map_append, List.length_append]; exact HO2.out), HR2⟩
                case measure => simp [intOf]; omega
            · obtain rfl : k = 16 := by omega
              go_wp2
              go_ret
              exact ⟨_, rfl, Joins.ownsRow_le HO.out (by omega), HR.out.2.2⟩
        · have c1 := cell_of_row _ _ 1 _ _ _ H1.out.1
          have c0 := cell_of_row _ _ 0 _ _ _ H1.out.1
          simp only [insV, insA, List.getElem?_toArray, List.getElem?_cons_zero, List.getElem?_cons_succ] at c0 c1
          have z0 := H1.out.2.1.cell 0 (by omega)
          have f0 := H1.out.2.1.free 0
          have E1 : h1 = hup h0 0 := by rw [HH1.out]; unfold hsw; simp only [hz, reduceIte, Int.reduceEq, or_self, or_false, or_true, false_or, true_or]
          have E1h := Lib.hid E1
          clear E1
          have hz' : decide (1 < sz) = false := by simp only [hz, decide_true, decide_false]
          go_upto_region 28 with fail
          have H2 := Lib.hid (show RX w (wc.setCell ⟨w.heap.size + 1, 0, none⟩ (.bool true)) ⟨15, sz, cd, fr, d, s, ln⟩ h1 from E1h.out ▸ (H1.out.set 0 (by omega)))
          generalize (wc.setCell ⟨w.heap.size + 1, 0, none⟩ (.bool true)) = W2 at *
          go_wp2_with fail
          clear H1
          have O0 := Lib.hid (World.ownsRow_made (e := 3) (size := 1) (base := w.heap.size + 2) W2 #[] 0 H2.out.size (Nat.zero_le _) rfl)
          have H3 := Lib.hid (H2.out.alloc (.cells #[] 3))
          clear H2
          go_loopw [4, 5] (fun v i wr => ∃ k : Nat, i = .int .i64 (k : Int) ∧ k ≤ 16 ∧ Hid (wr.ownsRow (w.heap.size + 2) 3 1 v (regL h1 k).length ((regL h1 k).map (fun i => .int .i64 i))) ∧ Hid (RX w wr ⟨15, sz, cd, fr, d, s, ln⟩ h1)) (fun _ i _ => 16 - (intOf i).toNat)
          case atStart => exact ⟨0, rfl, Nat.zero_le _, O0, H3⟩
          case round =>
            obtain ⟨k, rfl, hk, HO, HR⟩ := hrel
            by_cases hlt : k < 16
            · have hk' : (k : Int) < 16 := by omega
              have z := HR.out.2.1.cell k hlt
              cases hb : h1 k
              · rw [hb] at z
                have HY := Lib.hid hb
                clear hb
                go_wp2
                go_roundw
                case rel => exact ⟨k + 1, by go_num, by omega, Lib.hid (by rw [regL_no HY.out]; exact HO.out), HR⟩
                case measure => simp [intOf]; omega
              · rw [hb] at z
                have HY := Lib.hid hb
                clear hb
                have HR1 := Lib.hid (HR.out.alloc (.cells #[.int .i64 (k : Int)] 3))
                have O1 := Lib.hid (own_alloc8 HO.out (.cells #[.int .i64 (k : Int)] 3))
                have HNW := Lib.hid (news8 wr (k : Int) 3)
                have HL := regL_len h1 k
                have hm1 : (regL h1 k).length + 1 ≤ maxLen := by unfold maxLen; omega
                have hm2 : ((regL h1 k).length + 1) * 8 ≤ 140737488355328 := by omega
                obtain ⟨i0, hi, hz0, hz1, hz2⟩ := info_parts rowInt8
                go_wp2_with (first | (at_builtin; refine wpList_append_own _ rfl (.tmp 67) (.tmp 69) 26 rfl (w.heap.size + 2) 3 i0 _ 1 8 Tryz.underlying26 hi hz0 hz1 hz2 rfl (by decide) _ _ _ rfl O1.out ⟨wr.heap.size, 0, none⟩ 1 1 [.int .i64 (k : Int)] rfl rfl HNW.out (one8 _) hm1 hm2 HR1.out.size ?_; intro v' w2 hown hgrow hnil))
                have HR2 := Lib.hid (HR1.out.grown hgrow (fun j hj => (HO.out.lt j hj).1))
                have HO2 := Lib.hid hown
                clear hown hgrow hnil
                go_roundw
                case rel => exact ⟨k + 1, by go_num, by omega, Lib.hid (by rw [regL_yes HY.out, List.map_append, List.length_append]; exact HO2.out), HR2⟩
                case measure => simp [intOf]; omega
            · obtain rfl : k = 16 := by omega
              go_wp2
              go_ret
              exact ⟨_, rfl, Joins.ownsRow_le HO.out (by omega), HR.out.2.2⟩
      by_cases h16 : op = 16
      · subst h16
        by_cases hz : 1 < sz
        · have c1 := cell_of_row _ _ 1 _ _ _ H1.out.1
          have c0 := cell_of_row _ _ 0 _ _ _ H1.out.1
          simp only [insV, insA, List.getElem?_toArray, List.getElem?_cons_zero, List.getElem?_cons_succ] at c0 c1
          have z0 := H1.out.2.1.cell 0 (by omega)
          have f0 := H1.out.2.1.free 0
          have z2 := H1.out.2.1.cell 2 (by omega)
          have f2 := H1.out.2.1.free 2
          have E1 : h1 = hup (hup h0 0) 2 := by rw [HH1.out]; unfold hsw; simp only [hz, reduceIte, Int.reduceEq, or_self, or_false, or_true, false_or, true_or]
          have E1h := Lib.hid E1
          clear E1
          have hz' : decide (1 < sz) = true := by simp only [hz, decide_true, decide_false]
          go_upto_region 28 with fail
          have H2 := Lib.hid (show RX w ((wc.setCell ⟨w.heap.size + 1, 0, none⟩ (.bool true)).setCell ⟨w.heap.size + 1, 2, none⟩ (.bool true)) ⟨16, sz, cd, fr, d, s, ln⟩ h1 from E1h.out ▸ ((H1.out.set 0 (by omega)).set 2 (by omega)))
          generalize ((wc.setCell ⟨w.heap.size + 1, 0, none⟩ (.bool true)).setCell ⟨w.heap.size + 1, 2, none⟩ (.bool true)) = W2 at *
          go_wp2_with fail
          clear H1
          have O0 := Lib.hid (World.ownsRow_made (e := 3) (size := 1) (base := w.heap.size + 2) W2 #[] 0 H2.out.size (Nat.zero_le _) rfl)
          have H3 := Lib.hid (H2.out.alloc (.cells #[] 3))
          clear H2
          go_loopw [4, 5] (fun v i wr => ∃ k : Nat, i = .int .i64 (k : Int) ∧ k ≤ 16 ∧ Hid (wr.ownsRow (w.heap.size + 2) 3 1 v (regL h1 k).length ((regL h1 k).map (fun i => .int .i64 i))) ∧ Hid (RX w wr ⟨16, sz, cd, fr, d, s, ln⟩ h1)) (fun _ i _ => 16 - (intOf i).toNat)
          case atStart => exact ⟨0, rfl, Nat.zero_le _, O0, H3⟩
          case round =>
            obtain ⟨k, rfl, hk, HO, HR⟩ := hrel
            by_cases hlt : k < 16
            · have hk' : (k : Int) < 16 := by omega
              have z := HR.out.2.1.cell k hlt
              cases hb : h1 k
              · rw [hb] at z
                have HY := Lib.hid hb
                clear hb
                go_wp2
                go_roundw
                case rel => exact ⟨k + 1, by go_num, by omega, Lib.hid (by rw [regL_no HY.out]; exact HO.out), HR⟩
                case measure => simp [intOf]; omega
              · rw [hb] at z
                have HY := Lib.hid hb
                clear hb
                have HR1 := Lib.hid (HR.out.alloc (.cells #[.int .i64 (k : Int)] 3))
                have O1 := Lib.hid (own_alloc8 HO.out (.cells #[.int .i64 (k : Int)] 3))
                have HNW := Lib.hid (news8 wr (k : Int) 3)
                have HL := regL_len h1 k
                have hm1 : (regL h1 k).length + 1 ≤ maxLen := by unfold maxLen; omega
                have hm2 : ((regL h1 k).length + 1) * 8 ≤ 140737488355328 := by omega
                obtain ⟨i0, hi, hz0, hz1, hz2⟩ := info_parts rowInt8
                go_wp2_with (first | (at_builtin; refine wpList_append_own _ rfl (.tmp 67) (.tmp 69) 26 rfl (w.heap.size + 2) 3 i0 _ 1 8 Tryz.underlying26 hi hz0 hz1 hz2 rfl (by decide) _ _ _ rfl O1.out ⟨wr.heap.size, 0, none⟩ 1 1 [.int .i64 (k : Int)] rfl rfl HNW.out (one8 _) hm1 hm2 HR1.out.size ?_; intro v' w2 hown hgrow hnil))
                have HR2 := Lib.hid (HR1.out.grown hgrow (fun j hj => (HO.out.lt j hj).1))
                have HO2 := Lib.hid hown
                clear hown hgrow hnil
                go_roundw
                case rel => exact ⟨k + 1, by go_num, by omega, Lib.hid (by rw [regL_yes HY.out, List.map_append, List.length_append]; exact HO2.out), HR2⟩
                case measure => simp [intOf]; omega
            · obtain rfl : k = 16 := by omega
              go_wp2
              go_ret
              exact ⟨_, rfl, Joins.ownsRow_le HO.out (by omega), HR.out.2.2⟩
        · have c1 := cell_of_row _ _ 1 _ _ _ H1.out.1
          have c0 := cell_of_row _ _ 0 _ _ _ H1.out.1
          simp only [insV, insA, List.getElem?_toArray, List.getElem?_cons_zero, List.getElem?_cons_succ] at c0 c1
          have z0 := H1.out.2.1.cell 0 (by omega)
          have f0 := H1.out.2.1.free 0
          have E1 : h1 = hup h0 0 := by rw [HH1.out]; unfold hsw; simp only [hz, reduceIte, Int.reduceEq, or_self, or_false, or_true, false_or, true_or]
          have E1h := Lib.hid E1
          clear E1
          have hz' : decide (1 < sz) = false := by simp only [hz, decide_true, decide_false]
          go_upto_region 28 with fail
          have H2 := Lib.hid (show RX w (wc.setCell ⟨w.heap.size + 1, 0, none⟩ (.bool true)) ⟨16, sz, cd, fr, d, s, ln⟩ h1 from E1h.out ▸ (H1.out.set 0 (by omega)))
          generalize (wc.setCell ⟨w.heap.size + 1, 0, none⟩ (.bool true)) = W2 at *
          go_wp2_with fail
          clear H1
          have O0 := Lib.hid (World.ownsRow_made (e := 3) (size := 1) (base := w.heap.size + 2) W2 #[] 0 H2.out.size (Nat.zero_le _) rfl)
          have H3 := Lib.hid (H2.out.alloc (.cells #[] 3))
          clear H2
          go_loopw [4, 5] (fun v i wr => ∃ k : Nat, i = .int .i64 (k : Int) ∧ k ≤ 16 ∧ Hid (wr.ownsRow (w.heap.size + 2) 3 1 v (regL h1 k).length ((regL h1 k).map (fun i => .int .i64 i))) ∧ Hid (RX w wr ⟨16, sz, cd, fr, d, s, ln⟩ h1)) (fun _ i _ => 16 - (intOf i).toNat)
          case atStart => exact ⟨0, rfl, Nat.zero_le _, O0, H3⟩
          case round =>
            obtain ⟨k, rfl, hk, HO, HR⟩ := hrel
            by_cases hlt : k < 16
            · have hk' : (k : Int) < 16 := by omega
              have z := HR.out.2.1.cell k hlt
              cases hb : h1 k
              · rw [hb] at z
                have HY := Lib.hid hb
                clear hb
                go_wp2
                go_roundw
                case rel => exact ⟨k + 1, by go_num, by omega, Lib.hid (by rw [regL_no HY.out]; exact HO.out), HR⟩
                case measure => simp [intOf]; omega
              · rw [hb] at z
                have HY := Lib.hid hb
                clear hb
                have HR1 := Lib.hid (HR.out.alloc (.cells #[.int .i64 (k : Int)] 3))
                have O1 := Lib.hid (own_alloc8 HO.out (.cells #[.int .i64 (k : Int)] 3))
                have HNW := Lib.hid (news8 wr (k : Int) 3)
                have HL := regL_len h1 k
                have hm1 : (regL h1 k).length + 1 ≤ maxLen := by unfold maxLen; omega
                have hm2 : ((regL h1 k).length + 1) * 8 ≤ 140737488355328 := by omega
                obtain ⟨i0, hi, hz0, hz1, hz2⟩ := info_parts rowInt8
                go_wp2_with (first | (at_builtin; refine wpList_append_own _ rfl (.tmp 67) (.tmp 69) 26 rfl (w.heap.size + 2) 3 i0 _ 1 8 Tryz.underlying26 hi hz0 hz1 hz2 rfl (by decide) _ _ _ rfl O1.out ⟨wr.heap.size, 0, none⟩ 1 1 [.int .i64 (k : Int)] rfl rfl HNW.out (one8 _) hm1 hm2 HR1.out.size ?_; intro v' w2 hown hgrow hnil))
                have HR2 := Lib.hid (HR1.out.grown hgrow (fun j hj => (HO.out.lt j hj).1))
                have HO2 := Lib.hid hown
                clear hown hgrow hnil
                go_roundw
                case rel => exact ⟨k + 1, by go_num, by omega, Lib.hid (by rw [regL_yes HY.out, List.map_append, List.length_append]; exact HO2.out), HR2⟩
                case measure => simp [intOf]; omega
            · obtain rfl : k = 16 := by omega
              go_wp2
              go_ret
              exact ⟨_, rfl, Joins.ownsRow_le HO.out (by omega), HR.out.2.2⟩
      by_cases h39 : op = 39
      · subst h39
        have c0 := cell_of_row _ _ 0 _ _ _ H1.out.1
        simp only [insV, insA, List.getElem?_toArray, List.getElem?_cons_zero, List.getElem?_cons_succ] at c0
        have z0 := H1.out.2.1.cell 0 (by omega)
        have f0 := H1.out.2.1.free 0
        have E1 : h1 = hup h0 0 := by rw [HH1.out]; unfold hsw; simp only [reduceIte, Int.reduceEq, or_self, or_false, or_true, false_or, true_or]
        have E1h := Lib.hid E1
        clear E1
        go_upto_region 28 with fail
        have H2 := Lib.hid (show RX w (wc.setCell ⟨w.heap.size + 1, 0, none⟩ (.bool true)) ⟨39, sz, cd, fr, d, s, ln⟩ h1 from E1h.out ▸ (H1.out.set 0 (by omega)))
        generalize (wc.setCell ⟨w.heap.size + 1, 0, none⟩ (.bool true)) = W2 at *
        go_wp2_with fail
        clear H1
        have O0 := Lib.hid (World.ownsRow_made (e := 3) (size := 1) (base := w.heap.size + 2) W2 #[] 0 H2.out.size (Nat.zero_le _) rfl)
        have H3 := Lib.hid (H2.out.alloc (.cells #[] 3))
        clear H2
        go_loopw [4, 5] (fun v i wr => ∃ k : Nat, i = .int .i64 (k : Int) ∧ k ≤ 16 ∧ Hid (wr.ownsRow (w.heap.size + 2) 3 1 v (regL h1 k).length ((regL h1 k).map (fun i => .int .i64 i))) ∧ Hid (RX w wr ⟨39, sz, cd, fr, d, s, ln⟩ h1)) (fun _ i _ => 16 - (intOf i).toNat)
        case atStart => exact ⟨0, rfl, Nat.zero_le _, O0, H3⟩
        case round =>
          obtain ⟨k, rfl, hk, HO, HR⟩ := hrel
          by_cases hlt : k < 16
          · have hk' : (k : Int) < 16 := by omega
            have z := HR.out.2.1.cell k hlt
            cases hb : h1 k
            · rw [hb] at z
              have HY := Lib.hid hb
              clear hb
              go_wp2
              go_roundw
              case rel => exact ⟨k + 1, by go_num, by omega, Lib.hid (by rw [regL_no HY.out]; exact HO.out), HR⟩
              case measure => simp [intOf]; omega
            · rw [hb] at z
              have HY := Lib.hid hb
              clear hb
              have HR1 := Lib.hid (HR.out.alloc (.cells #[.int .i64 (k : Int)] 3))
              have O1 := Lib.hid (own_alloc8 HO.out (.cells #[.int .i64 (k : Int)] 3))
              have HNW := Lib.hid (news8 wr (k : Int) 3)
              have HL := regL_len h1 k
              have hm1 : (regL h1 k).length + 1 ≤ maxLen := by unfold maxLen; omega
              have hm2 : ((regL h1 k).length + 1) * 8 ≤ 140737488355328 := by omega
              obtain ⟨i0, hi, hz0, hz1, hz2⟩ := info_parts rowInt8
              go_wp2_with (first | (at_builtin; refine wpList_append_own _ rfl (.tmp 67) (.tmp 69) 26 rfl (w.heap.size + 2) 3 i0 _ 1 8 Tryz.underlying26 hi hz0 hz1 hz2 rfl (by decide) _ _ _ rfl O1.out ⟨wr.heap.size, 0, none⟩ 1 1 [.int .i64 (k : Int)] rfl rfl HNW.out (one8 _) hm1 hm2 HR1.out.size ?_; intro v' w2 hown hgrow hnil))
              have HR2 := Lib.hid (HR1.out.grown hgrow (fun j hj => (HO.out.lt j hj).1))
              have HO2 := Lib.hid hown
              clear hown hgrow hnil
              go_roundw
              case rel => exact ⟨k + 1, by go_num, by omega, Lib.hid (by rw [regL_yes HY.out, List.map_append, List.length_append]; exact HO2.out), HR2⟩
              case measure => simp [intOf]; omega
          · obtain rfl : k = 16 := by omega
            go_wp2
            go_ret
            exact ⟨_, rfl, Joins.ownsRow_le HO.out (by omega), HR.out.2.2⟩
      by_cases h40 : op = 40
      · subst h40
        have c0 := cell_of_row _ _ 0 _ _ _ H1.out.1
        simp only [insV, insA, List.getElem?_toArray, List.getElem?_cons_zero, List.getElem?_cons_succ] at c0
        have z2 := H1.out.2.1.cell 2 (by omega)
        have f2 := H1.out.2.1.free 2
        have E1 : h1 = hup h0 2 := by rw [HH1.out]; unfold hsw; simp only [reduceIte, Int.reduceEq, or_self, or_false, or_true, false_or, true_or]
        have E1h := Lib.hid E1
        clear E1
        go_upto_region 28 with fail
        have H2 := Lib.hid (show RX w (wc.setCell ⟨w.heap.size + 1, 2, none⟩ (.bool true)) ⟨40, sz, cd, fr, d, s, ln⟩ h1 from E1h.out ▸ (H1.out.set 2 (by omega)))
        generalize (wc.setCell ⟨w.heap.size + 1, 2, none⟩ (.bool true)) = W2 at *
        go_wp2_with fail
        clear H1
        have O0 := Lib.hid (World.ownsRow_made (e := 3) (size := 1) (base := w.heap.size + 2) W2 #[] 0 H2.out.size (Nat.zero_le _) rfl)
        have H3 := Lib.hid (H2.out.alloc (.cells #[] 3))
        clear H2
        go_loopw [4, 5] (fun v i wr => ∃ k : Nat, i = .int .i64 (k : Int) ∧ k ≤ 16 ∧ Hid (wr.ownsRow (w.heap.size + 2) 3 1 v (regL h1 k).length ((regL h1 k).map (fun i => .int .i64 i))) ∧ Hid (RX w wr ⟨40, sz, cd, fr, d, s, ln⟩ h1)) (fun _ i _ => 16 - (intOf i).toNat)
        case atStart => exact ⟨0, rfl, Nat.zero_le _, O0, H3⟩
        case round =>
          obtain ⟨k, rfl, hk, HO, HR⟩ := hrel
          by_cases hlt : k < 16
          · have hk' : (k : Int) < 16 := by omega
            have z := HR.out.2.1.cell k hlt
            cases hb : h1 k
            · rw [hb] at z
              have HY := Lib.hid hb
              clear hb
              go_wp2
              go_roundw
              case rel => exact ⟨k + 1, by go_num, by omega, Lib.hid (by rw [regL_no HY.out]; exact HO.out), HR⟩
              case measure => simp [intOf]; omega
            · rw [hb] at z
              have HY := Lib.hid hb
              clear hb
              have HR1 := Lib.hid (HR.out.alloc (.cells #[.int .i64 (k : Int)] 3))
              have O1 := Lib.hid (own_alloc8 HO.out (.cells #[.int .i64 (k : Int)] 3))
              have HNW := Lib.hid (news8 wr (k : Int) 3)
              have HL := regL_len h1 k
              have hm1 : (regL h1 k).length + 1 ≤ maxLen := by unfold maxLen; omega
              have hm2 : ((regL h1 k).length + 1) * 8 ≤ 140737488355328 := by omega
              obtain ⟨i0, hi, hz0, hz1, hz2⟩ := info_parts rowInt8
              go_wp2_with (first | (at_builtin; refine wpList_append_own _ rfl (.tmp 67) (.tmp 69) 26 rfl (w.heap.size + 2) 3 i0 _ 1 8 Tryz.underlying26 hi hz0 hz1 hz2 rfl (by decide) _ _ _ rfl O1.out ⟨wr.heap.size, 0, none⟩ 1 1 [.int .i64 (k : Int)] rfl rfl HNW.out (one8 _) hm1 hm2 HR1.out.size ?_; intro v' w2 hown hgrow hnil))
              have HR2 := Lib.hid (HR1.out.grown hgrow (fun j hj => (HO.out.lt j hj).1))
              have HO2 := Lib.hid hown
              clear hown hgrow hnil
              go_roundw
              case rel => exact ⟨k + 1, by go_num, by omega, Lib.hid (by rw [regL_yes HY.out, List.map_append, List.length_append]; exact HO2.out), HR2⟩
              case measure => simp [intOf]; omega
          · obtain rfl : k = 16 := by omega
            go_wp2
            go_ret
            exact ⟨_, rfl, Joins.ownsRow_le HO.out (by omega), HR.out.2.2⟩
      by_cases h41 : op = 41
      · subst h41
        have c0 := cell_of_row _ _ 0 _ _ _ H1.out.1
        simp only [insV, insA, List.getElem?_toArray, List.getElem?_cons_zero, List.getElem?_cons_succ] at c0
        have z7 := H1.out.2.1.cell 7 (by omega)
        have f7 := H1.out.2.1.free 7
        have E1 : h1 = hup h0 7 := by rw [HH1.out]; unfold hsw; simp only [reduceIte, Int.reduceEq, or_self, or_false, or_true, false_or, true_or]
        have E1h := Lib.hid E1
        clear E1
        go_upto_region 28 with fail
        have H2 := Lib.hid (show RX w (wc.setCell ⟨w.heap.size + 1, 7, none⟩ (.bool true)) ⟨41, sz, cd, fr, d, s, ln⟩ h1 from E1h.out ▸ (H1.out.set 7 (by omega)))
        generalize (wc.setCell ⟨w.heap.size + 1, 7, none⟩ (.bool true)) = W2 at *
        go_wp2_with fail
        clear H1
        have O0 := Lib.hid (World.ownsRow_made (e := 3) (size := 1) (base := w.heap.size + 2) W2 #[] 0 H2.out.size (Nat.zero_le _) rfl)
        have H3 := Lib.hid (H2.out.alloc (.cells #[] 3))
        clear H2
        go_loopw [4, 5] (fun v i wr => ∃ k : Nat, i = .int .i64 (k : Int) ∧ k ≤ 16 ∧ Hid (wr.ownsRow (w.heap.size + 2) 3 1 v (regL h1 k).length ((regL h1 k).map (fun i => .int .i64 i))) ∧ Hid (RX w wr ⟨41, sz, cd, fr, d, s, ln⟩ h1)) (fun _ i _ => 16 - (intOf i).toNat)
        case atStart => exact ⟨0, rfl, Nat.zero_le _, O0, H3⟩
        case round =>
          obtain ⟨k, rfl, hk, HO, HR⟩ := hrel
          by_cases hlt : k < 16
          · have hk' : (k : Int) < 16 := by omega
            have z := HR.out.2.1.cell k hlt
            cases hb : h1 k
            · rw [hb] at z
              have HY := Lib.hid hb
              clear hb
              go_wp2
              go_roundw
              case rel => exact ⟨k + 1, by go_num, by omega, Lib.hid (by rw [regL_no HY.out]; exact HO.out), HR⟩
              case measure => simp [intOf]; omega
            · rw [hb] at z
              have HY := Lib.hid hb
              clear hb
              have HR1 := Lib.hid (HR.out.alloc (.cells #[.int .i64 (k : Int)] 3))
              have O1 := Lib.hid (own_alloc8 HO.out (.cells #[.int .i64 (k : Int)] 3))
              have HNW := Lib.hid (news8 wr (k : Int) 3)
              have HL := regL_len h1 k
              have hm1 : (regL h1 k).length + 1 ≤ maxLen := by unfold maxLen; omega
              have hm2 : ((regL h1 k).length + 1) * 8 ≤ 140737488355328 := by omega
              obtain ⟨i0, hi, hz0, hz1, hz2⟩ := info_parts rowInt8
              go_wp2_with (first | (at_builtin; refine wpList_append_own _ rfl (.tmp 67) (.tmp 69) 26 rfl (w.heap.size + 2) 3 i0 _ 1 8 Tryz.underlying26 hi hz0 hz1 hz2 rfl (by decide) _ _ _ rfl O1.out ⟨wr.heap.size, 0, none⟩ 1 1 [.int .i64 (k : Int)] rfl rfl HNW.out (one8 _) hm1 hm2 HR1.out.size ?_; intro v' w2 hown hgrow hnil))
              have HR2 := Lib.hid (HR1.out.grown hgrow (fun j hj => (HO.out.lt j hj).1))
              have HO2 := Lib.hid hown
              clear hown hgrow hnil
              go_roundw
              case rel => exact ⟨k + 1, by go_num, by omega, Lib.hid (by rw [regL_yes HY.out, List.map_append, List.length_append]; exact HO2.out), HR2⟩
              case measure => simp [intOf]; omega
          · obtain rfl : k = 16 := by omega
            go_wp2
            go_ret
            exact ⟨_, rfl, Joins.ownsRow_le HO.out (by omega), HR.out.2.2⟩
      by_cases h42 : op = 42
      · subst h42
        have c0 := cell_of_row _ _ 0 _ _ _ H1.out.1
        simp only [insV, insA, List.getElem?_toArray, List.getElem?_cons_zero, List.getElem?_cons_succ] at c0
        have z6 := H1.out.2.1.cell 6 (by omega)
        have f6 := H1.out.2.1.free 6
        have z7 := H1.out.2.1.cell 7 (by omega)
        have f7 := H1.out.2.1.free 7
        have E1 : h1 = hup (hup h0 6) 7 := by rw [HH1.out]; unfold hsw; simp only [reduceIte, Int.reduceEq, or_self, or_false, or_true, false_or, true_or]
        have E1h := Lib.hid E1
        clear E1
        go_upto_region 28 with fail
        have H2 := Lib.hid (show RX w ((wc.setCell ⟨w.heap.size + 1, 6, none⟩ (.bool true)).setCell ⟨w.heap.size + 1, 7, none⟩ (.bool true)) ⟨42, sz, cd, fr, d, s, ln⟩ h1 from E1h.out ▸ ((H1.out.set 6 (by omega)).set 7 (by omega)))
        generalize ((wc.setCell ⟨w.heap.size + 1, 6, none⟩ (.bool true)).setCell ⟨w.heap.size + 1, 7, none⟩ (.bool true)) = W2 at *
        go_wp2_with fail
        clear H1
        have O0 := Lib.hid (World.ownsRow_made (e := 3) (size := 1) (base := w.heap.size + 2) W2 #[] 0 H2.out.size (Nat.zero_le _) rfl)
        have H3 := Lib.hid (H2.out.alloc (.cells #[] 3))
        clear H2
        go_loopw [4, 5] (fun v i wr => ∃ k : Nat, i = .int .i64 (k : Int) ∧ k ≤ 16 ∧ Hid (wr.ownsRow (w.heap.size + 2) 3 1 v (regL h1 k).length ((regL h1 k).map (fun i => .int .i64 i))) ∧ Hid (RX w wr ⟨42, sz, cd, fr, d, s, ln⟩ h1)) (fun _ i _ => 16 - (intOf i).toNat)
        case atStart => exact ⟨0, rfl, Nat.zero_le _, O0, H3⟩
        case round =>
          obtain ⟨k, rfl, hk, HO, HR⟩ := hrel
          by_cases hlt : k < 16
          · have hk' : (k : Int) < 16 := by omega
            have z := HR.out.2.1.cell k hlt
            cases hb : h1 k
            · rw [hb] at z
              have HY := Lib.hid hb
              clear hb
              go_wp2
              go_roundw
              case rel => exact ⟨k + 1, by go_num, by omega, Lib.hid (by rw [regL_no HY.out]; exact HO.out), HR⟩
              case measure => simp [intOf]; omega
            · rw [hb] at z
              have HY := Lib.hid hb
              clear hb
              have HR1 := Lib.hid (HR.out.alloc (.cells #[.int .i64 (k : Int)] 3))
              have O1 := Lib.hid (own_alloc8 HO.out (.cells #[.int .i64 (k : Int)] 3))
              have HNW := Lib.hid (news8 wr (k : Int) 3)
              have HL := regL_len h1 k
              have hm1 : (regL h1 k).length + 1 ≤ maxLen := by unfold maxLen; omega
              have hm2 : ((regL h1 k).length + 1) * 8 ≤ 140737488355328 := by omega
              obtain ⟨i0, hi, hz0, hz1, hz2⟩ := info_parts rowInt8
              go_wp2_with (first | (at_builtin; refine wpList_append_own _ rfl (.tmp 67) (.tmp 69) 26 rfl (w.heap.size + 2) 3 i0 _ 1 8 Tryz.underlying26 hi hz0 hz1 hz2 rfl (by decide) _ _ _ rfl O1.out ⟨wr.heap.size, 0, none⟩ 1 1 [.int .i64 (k : Int)] rfl rfl HNW.out (one8 _) hm1 hm2 HR1.out.size ?_; intro v' w2 hown hgrow hnil))
              have HR2 := Lib.hid (HR1.out.grown hgrow (fun j hj => (HO.out.lt j hj).1))
              have HO2 := Lib.hid hown
              clear hown hgrow hnil
              go_roundw
              case rel => exact ⟨k + 1, by go_num, by omega, Lib.hid (by rw [regL_yes HY.out, List.map_append, List.length_append]; exact HO2.out), HR2⟩
              case measure => simp [intOf]; omega
          · obtain rfl : k = 16 := by omega
            go_wp2
            go_ret
            exact ⟨_, rfl, Joins.ownsRow_le HO.out (by omega), HR.out.2.2⟩
      by_cases h29 : op = 29
      · subst h29
        have c0 := cell_of_row _ _ 0 _ _ _ H1.out.1
        simp only [insV, insA, List.getElem?_toArray, List.getElem?_cons_zero, List.getElem?_cons_succ] at c0
        have z4 := H1.out.2.1.cell 4 (by omega)
        have f4 := H1.out.2.1.free 4
        have E1 : h1 = hup h0 4 := by rw [HH1.out]; unfold hsw; simp only [reduceIte, Int.reduceEq, or_self, or_false, or_true, false_or, true_or]
        have E1h := Lib.hid E1
        clear E1
        go_upto_region 28 with fail
        have H2 := Lib.hid (show RX w (wc.setCell ⟨w.heap.size + 1, 4, none⟩ (.bool true)) ⟨29, sz, cd, fr, d, s, ln⟩ h1 from E1h.out ▸ (H1.out.set 4 (by omega)))
        generalize (wc.setCell ⟨w.heap.size + 1, 4, none⟩ (.bool true)) = W2 at *
        go_wp2_with fail
        clear H1
        have O0 := Lib.hid (World.ownsRow_made (e := 3) (size := 1) (base := w.heap.size + 2) W2 #[] 0 H2.out.size (Nat.zero_le _) rfl)
        have H3 := Lib.hid (H2.out.alloc (.cells #[] 3))
        clear H2
        go_loopw [4, 5] (fun v i wr => ∃ k : Nat, i = .int .i64 (k : Int) ∧ k ≤ 16 ∧ Hid (wr.ownsRow (w.heap.size + 2) 3 1 v (regL h1 k).length ((regL h1 k).map (fun i => .int .i64 i))) ∧ Hid (RX w wr ⟨29, sz, cd, fr, d, s, ln⟩ h1)) (fun _ i _ => 16 - (intOf i).toNat)
        case atStart => exact ⟨0, rfl, Nat.zero_le _, O0, H3⟩
        case round =>
          obtain ⟨k, rfl, hk, HO, HR⟩ := hrel
          by_cases hlt : k < 16
          · have hk' : (k : Int) < 16 := by omega
            have z := HR.out.2.1.cell k hlt
            cases hb : h1 k
            · rw [hb] at z
              have HY := Lib.hid hb
              clear hb
              go_wp2
              go_roundw
              case rel => exact ⟨k + 1, by go_num, by omega, Lib.hid (by rw [regL_no HY.out]; exact HO.out), HR⟩
              case measure => simp [intOf]; omega
            · rw [hb] at z
              have HY := Lib.hid hb
              clear hb
              have HR1 := Lib.hid (HR.out.alloc (.cells #[.int .i64 (k : Int)] 3))
              have O1 := Lib.hid (own_alloc8 HO.out (.cells #[.int .i64 (k : Int)] 3))
              have HNW := Lib.hid (news8 wr (k : Int) 3)
              have HL := regL_len h1 k
              have hm1 : (regL h1 k).length + 1 ≤ maxLen := by unfold maxLen; omega
              have hm2 : ((regL h1 k).length + 1) * 8 ≤ 140737488355328 := by omega
              obtain ⟨i0, hi, hz0, hz1, hz2⟩ := info_parts rowInt8
              go_wp2_with (first | (at_builtin; refine wpList_append_own _ rfl (.tmp 67) (.tmp 69) 26 rfl (w.heap.size + 2) 3 i0 _ 1 8 Tryz.underlying26 hi hz0 hz1 hz2 rfl (by decide) _ _ _ rfl O1.out ⟨wr.heap.size, 0, none⟩ 1 1 [.int .i64 (k : Int)] rfl rfl HNW.out (one8 _) hm1 hm2 HR1.out.size ?_; intro v' w2 hown hgrow hnil))
              have HR2 := Lib.hid (HR1.out.grown hgrow (fun j hj => (HO.out.lt j hj).1))
              have HO2 := Lib.hid hown
              clear hown hgrow hnil
              go_roundw
              case rel => exact ⟨k + 1, by go_num, by omega, Lib.hid (by rw [regL_yes HY.out, List.map_append, List.length_append]; exact HO2.out), HR2⟩
              case measure => simp [intOf]; omega
          · obtain rfl : k = 16 := by omega
            go_wp2
            go_ret
            exact ⟨_, rfl, Joins.ownsRow_le HO.out (by omega), HR.out.2.2⟩
      by_cases h30 : op = 30
      · subst h30
        have c0 := cell_of_row _ _ 0 _ _ _ H1.out.1
        simp only [insV, insA, List.getElem?_toArray, List.getElem?_cons_zero, List.getElem?_cons_succ] at c0
        have z4 := H1.out.2.1.cell 4 (by omega)
        have f4 := H1.out.2.1.free 4
        have E1 : h1 = hup h0 4 := by rw [HH1.out]; unfold hsw; simp only [reduceIte, Int.reduceEq, or_self, or_false, or_true, false_or, true_or]
        have E1h := Lib.hid E1
        clear E1
        go_upto_region 28 with fail
        have H2 := Lib.hid (show RX w (wc.setCell ⟨w.heap.size + 1, 4, none⟩ (.bool true)) ⟨30, sz, cd, fr, d, s, ln⟩ h1 from E1h.out ▸ (H1.out.set 4 (by omega)))
        generalize (wc.setCell ⟨w.heap.size + 1, 4, none⟩ (.bool true)) = W2 at *
        go_wp2_with fail
        clear H1
        have O0 := Lib.hid (World.ownsRow_made (e := 3) (size := 1) (base := w.heap.size + 2) W2 #[] 0 H2.out.size (Nat.zero_le _) rfl)
        have H3 := Lib.hid (H2.out.alloc (.cells #[] 3))
        clear H2
        go_loopw [4, 5] (fun v i wr => ∃ k : Nat, i = .int .i64 (k : Int) ∧ k ≤ 16 ∧ Hid (wr.ownsRow (w.heap.size + 2) 3 1 v (regL h1 k).length ((regL h1 k).map (fun i => .int .i64 i))) ∧ Hid (RX w wr ⟨30, sz, cd, fr, d, s, ln⟩ h1)) (fun _ i _ => 16 - (intOf i).toNat)
        case atStart => exact ⟨0, rfl, Nat.zero_le _, O0, H3⟩
        case round =>
          obtain ⟨k, rfl, hk, HO, HR⟩ := hrel
          by_cases hlt : k < 16
          · have hk' : (k : Int) < 16 := by omega
            have z := HR.out.2.1.cell k hlt
            cases hb : h1 k
            · rw [hb] at z
              have HY := Lib.hid hb
              clear hb
              go_wp2
              go_roundw
              case rel => exact ⟨k + 1, by go_num, by omega, Lib.hid (by rw [regL_no HY.out]; exact HO.out), HR⟩
              case measure => simp [intOf]; omega
            · rw [hb] at z
              have HY := Lib.hid hb
              clear hb
              have HR1 := Lib.hid (HR.out.alloc (.cells #[.int .i64 (k : Int)] 3))
              have O1 := Lib.hid (own_alloc8 HO.out (.cells #[.int .i64 (k : Int)] 3))
              have HNW := Lib.hid (news8 wr (k : Int) 3)
              have HL := regL_len h1 k
              have hm1 : (regL h1 k).length + 1 ≤ maxLen := by unfold maxLen; omega
              have hm2 : ((regL h1 k).length + 1) * 8 ≤ 140737488355328 := by omega
              obtain ⟨i0, hi, hz0, hz1, hz2⟩ := info_parts rowInt8
              go_wp2_with (first | (at_builtin; refine wpList_append_own _ rfl (.tmp 67) (.tmp 69) 26 rfl (w.heap.size + 2) 3 i0 _ 1 8 Tryz.underlying26 hi hz0 hz1 hz2 rfl (by decide) _ _ _ rfl O1.out ⟨wr.heap.size, 0, none⟩ 1 1 [.int .i64 (k : Int)] rfl rfl HNW.out (one8 _) hm1 hm2 HR1.out.size ?_; intro v' w2 hown hgrow hnil))
              have HR2 := Lib.hid (HR1.out.grown hgrow (fun j hj => (HO.out.lt j hj).1))
              have HO2 := Lib.hid hown
              clear hown hgrow hnil
              go_roundw
              case rel => exact ⟨k + 1, by go_num, by omega, Lib.hid (by rw [regL_yes HY.out, List.map_append, List.length_append]; exact HO2.out), HR2⟩
              case measure => simp [intOf]; omega
          · obtain rfl : k = 16 := by omega
            go_wp2
            go_ret
            exact ⟨_, rfl, Joins.ownsRow_le HO.out (by omega), HR.out.2.2⟩
      by_cases h31 : op = 31
      · subst h31
        have c0 := cell_of_row _ _ 0 _ _ _ H1.out.1
        simp only [insV, insA, List.getElem?_toArray, List.getElem?_cons_zero, List.getElem?_cons_succ] at c0
        have z4 := H1.out.2.1.cell 4 (by omega)
        have f4 := H1.out.2.1.free 4
        have E1 : h1 = hup h0 4 := by rw [HH1.out]; unfold hsw; simp only [reduceIte, Int.reduceEq, or_self, or_false, or_true, false_or, true_or]
        have E1h := Lib.hid E1
        clear E1
        go_upto_region 28 with fail
        have H2 := Lib.hid (show RX w (wc.setCell ⟨w.heap.size + 1, 4, none⟩ (.bool true)) ⟨31, sz, cd, fr, d, s, ln⟩ h1 from E1h.out ▸ (H1.out.set 4 (by omega)))
        generalize (wc.setCell ⟨w.heap.size + 1, 4, none⟩ (.bool true)) = W2 at *
        go_wp2_with fail
        clear H1
        have O0 := Lib.hid (World.ownsRow_made (e := 3) (size := 1) (base := w.heap.size + 2) W2 #[] 0 H2.out.size (Nat.zero_le _) rfl)
        have H3 := Lib.hid (H2.out.alloc (.cells #[] 3))
        clear H2
        go_loopw [4, 5] (fun v i wr => ∃ k : Nat, i = .int .i64 (k : Int) ∧ k ≤ 16 ∧ Hid (wr.ownsRow (w.heap.size + 2) 3 1 v (regL h1 k).length ((regL h1 k).map (fun i => .int .i64 i))) ∧ Hid (RX w wr ⟨31, sz, cd, fr, d, s, ln⟩ h1)) (fun _ i _ => 16 - (intOf i).toNat)
        case atStart => exact ⟨0, rfl, Nat.zero_le _, O0, H3⟩
        case round =>
          obtain ⟨k, rfl, hk, HO, HR⟩ := hrel
          by_cases hlt : k < 16
          · have hk' : (k : Int) < 16 := by omega
            have z := HR.out.2.1.cell k hlt
            cases hb : h1 k
            · rw [hb] at z
              have HY := Lib.hid hb
              clear hb
              go_wp2
              go_roundw
              case rel => exact ⟨k + 1, by go_num, by omega, Lib.hid (by rw [regL_no HY.out]; exact HO.out), HR⟩
              case measure => simp [intOf]; omega
            · rw [hb] at z
              have HY := Lib.hid hb
              clear hb
              have HR1 := Lib.hid (HR.out.alloc (.cells #[.int .i64 (k : Int)] 3))
              have O1 := Lib.hid (own_alloc8 HO.out (.cells #[.int .i64 (k : Int)] 3))
              have HNW := Lib.hid (news8 wr (k : Int) 3)
              have HL := regL_len h1 k
              have hm1 : (regL h1 k).length + 1 ≤ maxLen := by unfold maxLen; omega
              have hm2 : ((regL h1 k).length + 1) * 8 ≤ 140737488355328 := by omega
              obtain ⟨i0, hi, hz0, hz1, hz2⟩ := info_parts rowInt8
              go_wp2_with (first | (at_builtin; refine wpList_append_own _ rfl (.tmp 67) (.tmp 69) 26 rfl (w.heap.size + 2) 3 i0 _ 1 8 Tryz.underlying26 hi hz0 hz1 hz2 rfl (by decide) _ _ _ rfl O1.out ⟨wr.heap.size, 0, none⟩ 1 1 [.int .i64 (k : Int)] rfl rfl HNW.out (one8 _) hm1 hm2 HR1.out.size ?_; intro v' w2 hown hgrow hnil))
              have HR2 := Lib.hid (HR1.out.grown hgrow (fun j hj => (HO.out.lt j hj).1))
              have HO2 := Lib.hid hown
              clear hown hgrow hnil
              go_roundw
              case rel => exact ⟨k + 1, by go_num, by omega, Lib.hid (by rw [regL_yes HY.out, List.map_append, List.length_append]; exact HO2.out), HR2⟩
              case measure => simp [intOf]; omega
          · obtain rfl : k = 16 := by omega
            go_wp2
            go_ret
            exact ⟨_, rfl, Joins.ownsRow_le HO.out (by omega), HR.out.2.2⟩
      by_cases h34 : op = 34
      · subst h34
        have c0 := cell_of_row _ _ 0 _ _ _ H1.out.1
        simp only [insV, insA, List.getElem?_toArray, List.getElem?_cons_zero, List.getElem?_cons_succ] at c0
        have z4 := H1.out.2.1.cell 4 (by omega)
        have f4 := H1.out.2.1.free 4
        have E1 : h1 = hup h0 4 := by rw [HH1.out]; unfold hsw; simp only [reduceIte, Int.reduceEq, or_self, or_false, or_true, false_or, true_or]
        have E1h := Lib.hid E1
        clear E1
        go_upto_region 28 with fail
        have H2 := Lib.hid (show RX w (wc.setCell ⟨w.heap.size + 1, 4, none⟩ (.bool true)) ⟨34, sz, cd, fr, d, s, ln⟩ h1 from E1h.out ▸ (H1.out.set 4 (by omega)))
        generalize (wc.setCell ⟨w.heap.size + 1, 4, none⟩ (.bool true)) = W2 at *
        go_wp2_with fail
        clear H1
        have O0 := Lib.hid (World.ownsRow_made (e := 3) (size := 1) (base := w.heap.size + 2) W2 #[] 0 H2.out.size (Nat.zero_le _) rfl)
        have H3 := Lib.hid (H2.out.alloc (.cells #[] 3))
        clear H2
        go_loopw [4, 5] (fun v i wr => ∃ k : Nat, i = .int .i64 (k : Int) ∧ k ≤ 16 ∧ Hid (wr.ownsRow (w.heap.size + 2) 3 1 v (regL h1 k).length ((regL h1 k).map (fun i => .int .i64 i))) ∧ Hid (RX w wr ⟨34, sz, cd, fr, d, s, ln⟩ h1)) (fun _ i _ => 16 - (intOf i).toNat)
        case atStart => exact ⟨0, rfl, Nat.zero_le _, O0, H3⟩
        case round =>
          obtain ⟨k, rfl, hk, HO, HR⟩ := hrel
          by_cases hlt : k < 16
          · have hk' : (k : Int) < 16 := by omega
            have z := HR.out.2.1.cell k hlt
            cases hb : h1 k
            · rw [hb] at z
              have HY := Lib.hid hb
              clear hb
              go_wp2
              go_roundw
              case rel => exact ⟨k + 1, by go_num, by omega, Lib.hid (by rw [regL_no HY.out]; exact HO.out), HR⟩
              case measure => simp [intOf]; omega
            · rw [hb] at z
              have HY := Lib.hid hb
              clear hb
              have HR1 := Lib.hid (HR.out.alloc (.cells #[.int .i64 (k : Int)] 3))
              have O1 := Lib.hid (own_alloc8 HO.out (.cells #[.int .i64 (k : Int)] 3))
              have HNW := Lib.hid (news8 wr (k : Int) 3)
              have HL := regL_len h1 k
              have hm1 : (regL h1 k).length + 1 ≤ maxLen := by unfold maxLen; omega
              have hm2 : ((regL h1 k).length + 1) * 8 ≤ 140737488355328 := by omega
              obtain ⟨i0, hi, hz0, hz1, hz2⟩ := info_parts rowInt8
              go_wp2_with (first | (at_builtin; refine wpList_append_own _ rfl (.tmp 67) (.tmp 69) 26 rfl (w.heap.size + 2) 3 i0 _ 1 8 Tryz.underlying26 hi hz0 hz1 hz2 rfl (by decide) _ _ _ rfl O1.out ⟨wr.heap.size, 0, none⟩ 1 1 [.int .i64 (k : Int)] rfl rfl HNW.out (one8 _) hm1 hm2 HR1.out.size ?_; intro v' w2 hown hgrow hnil))
              have HR2 := Lib.hid (HR1.out.grown hgrow (fun j hj => (HO.out.lt j hj).1))
              have HO2 := Lib.hid hown
              clear hown hgrow hnil
              go_roundw
              case rel => exact ⟨k + 1, by go_num, by omega, Lib.hid (by rw [regL_yes HY.out, List.map_append, List.length_append]; exact HO2.out), HR2⟩
              case measure => simp [intOf]; omega
          · obtain rfl : k = 16 := by omega
            go_wp2
            go_ret
            exact ⟨_, rfl, Joins.ownsRow_le HO.out (by omega), HR.out.2.2⟩
      have c0 := cell_of_row _ _ 0 _ _ _ H1.out.1
      simp only [insV, insA, List.getElem?_toArray, List.getElem?_cons_zero, List.getElem?_cons_succ] at c0
      have E1 : h1 = h0 := by rw [HH1.out]; unfold hsw; simp only [h28, h13, h14, h15, h16, h39, h40, h41, h42, h29, h30, h31, h34, reduceIte, or_self]
      have E1h := Lib.hid E1
      clear E1
      have g28 : (op == 28) = false := beq_eq_false_iff_ne.mpr h28
      have g13 : (op == 13) = false := beq_eq_false_iff_ne.mpr h13
      have g14 : (op == 14) = false := beq_eq_false_iff_ne.mpr h14
      have g15 : (op == 15) = false := beq_eq_false_iff_ne.mpr h15
      have g16 : (op == 16) = false := beq_eq_false_iff_ne.mpr h16
      have g39 : (op == 39) = false := beq_eq_false_iff_ne.mpr h39
      have g40 : (op == 40) = false := beq_eq_false_iff_ne.mpr h40
      have g41 : (op == 41) = false := beq_eq_false_iff_ne.mpr h41
      have g42 : (op == 42) = false := beq_eq_false_iff_ne.mpr h42
      have g29 : (op == 29) = false := beq_eq_false_iff_ne.mpr h29
      have g30 : (op == 30) = false := beq_eq_false_iff_ne.mpr h30
      have g31 : (op == 31) = false := beq_eq_false_iff_ne.mpr h31
      have g34 : (op == 34) = false := beq_eq_false_iff_ne.mpr h34
      clear h28 h13 h14 h15 h16 h39 h40 h41 h42 h29 h30 h31 h34
      go_upto_region 28 with fail
      have H2 := Lib.hid (show RX w wc ⟨op, sz, cd, fr, d, s, ln⟩ h1 from E1h.out ▸ H1.out)
      generalize wc = W2 at *
      go_wp2_with fail
      clear H1
      have O0 := Lib.hid (World.ownsRow_made (e := 3) (size := 1) (base := w.heap.size + 2) W2 #[] 0 H2.out.size (Nat.zero_le _) rfl)
      have H3 := Lib.hid (H2.out.alloc (.cells #[] 3))
      clear H2
      go_loopw [4, 5] (fun v i wr => ∃ k : Nat, i = .int .i64 (k : Int) ∧ k ≤ 16 ∧ Hid (wr.ownsRow (w.heap.size + 2) 3 1 v (regL h1 k).length ((regL h1 k).map (fun i => .int .i64 i))) ∧ Hid (RX w wr ⟨op, sz, cd, fr, d, s, ln⟩ h1)) (fun _ i _ => 16 - (intOf i).toNat)
      case atStart => exact ⟨0, rfl, Nat.zero_le _, O0, H3⟩
      case round =>
        obtain ⟨k, rfl, hk, HO, HR⟩ := hrel
        by_cases hlt : k < 16
        · have hk' : (k : Int) < 16 := by omega
          have z := HR.out.2.1.cell k hlt
          cases hb : h1 k
          · rw [hb] at z
            have HY := Lib.hid hb
            clear hb
            go_wp2
            go_roundw
            case rel => exact ⟨k + 1, by go_num, by omega, Lib.hid (by rw [regL_no HY.out]; exact HO.out), HR⟩
            case measure => simp [intOf]; omega
          · rw [hb] at z
            have HY := Lib.hid hb
            clear hb
            have HR1 := Lib.hid (HR.out.alloc (.cells #[.int .i64 (k : Int)] 3))
            have O1 := Lib.hid (own_alloc8 HO.out (.cells #[.int .i64 (k : Int)] 3))
            have HNW := Lib.hid (news8 wr (k : Int) 3)
            have HL := regL_len h1 k
            have hm1 : (regL h1 k).length + 1 ≤ maxLen := by unfold maxLen; omega
            have hm2 : ((regL h1 k).length + 1) * 8 ≤ 140737488355328 := by omega
            obtain ⟨i0, hi, hz0, hz1, hz2⟩ := info_parts rowInt8
            go_wp2_with (first | (at_builtin; refine wpList_append_own _ rfl (.tmp 67) (.tmp 69) 26 rfl (w.heap.size + 2) 3 i0 _ 1 8 Tryz.underlying26 hi hz0 hz1 hz2 rfl (by decide) _ _ _ rfl O1.out ⟨wr.heap.size, 0, none⟩ 1 1 [.int .i64 (k : Int)] rfl rfl HNW.out (one8 _) hm1 hm2 HR1.out.size ?_; intro v' w2 hown hgrow hnil))
            have HR2 := Lib.hid (HR1.out.grown hgrow (fun j hj => (HO.out.lt j hj).1))
            have HO2 := Lib.hid hown
            clear hown hgrow hnil
            go_roundw
            case rel => exact ⟨k + 1, by go_num, by omega, Lib.hid (by rw [regL_yes HY.out, List.map_append, List.length_append]; exact HO2.out), HR2⟩
            case measure => simp [intOf]; omega
        · obtain rfl : k = 16 := by omega
          go_wp2
          go_ret
          exact ⟨_, rfl, Joins.ownsRow_le HO.out (by omega), HR.out.2.2⟩
  · go_enter Tryz.func28, Tryz.ntmps28
    have c4 := cell_of_row _ _ 4 _ _ _ N0.out.1
    have c5 := cell_of_row _ _ 5 _ _ _ N0.out.1
    have c0 := cell_of_row _ _ 0 _ _ _ N0.out.1
    have z0 := N0.out.2.1.cell m hm16
    have f0 := N0.out.2.1.free m
    have hm16' : (m : Int) < 16 := by omega
    simp only [insV, insA, List.getElem?_toArray, List.getElem?_cons_zero, List.getElem?_cons_succ, boolsV] at c0 c4 c5 z0 f0
    go_upto_if 15 with (first | (go_at_call 29; refine (CW.out _).mono ?_; rintro e w1 ⟨rfl, rfl⟩))
    go_cut [16] from 17 to 20 (fun v W' => RX w W' ⟨op, sz, cd, fr, d, s, ln⟩ h0)
    case first =>
      cases wr
      · go_wp2_with fail
        go_meet
        case rel => exact (HH0.out ▸ N0.out)
      · go_wp2_with fail
        go_meet
        case rel => exact RX.newV w ⟨op, sz, cd, fr, d, s, ln⟩ h0 _ (by rw [HH0.out]; exact false_set m hm16)
    case rest =>
      clear c0 c4 c5 z0 f0
      have H1 := Lib.hid hcut
      clear hcut
      by_cases h28 : op = 28
      · subst h28
        obtain ⟨hn1, hn2⟩ := HN.out rfl
        have hn3 : (n : Int) < 16 := by omega
        have c12 := cell_of_row _ _ 12 _ _ _ H1.out.1
        have c0 := cell_of_row _ _ 0 _ _ _ H1.out.1
        simp only [insV, insA, List.getElem?_toArray, List.getElem?_cons_zero, List.getElem?_cons_succ] at c0 c12
        have zn := H1.out.2.1.cell n (by omega)
        have fn := H1.out.2.1.free n
        have E1 : h1 = hup h0 n := by rw [HH1.out]; unfold hsw; simp only [reduceIte, Int.reduceEq, or_self, or_false, or_true, false_or, true_or]
        have E1h := Lib.hid E1
        clear E1
        go_upto_region 28 with fail
        have H2 := Lib.hid (show RX w (wc.setCell ⟨w.heap.size + 1, n, none⟩ (.bool true)) ⟨28, sz, cd, fr, d, s, ln⟩ h1 from E1h.out ▸ (H1.out.set n (by omega)))
        generalize (wc.setCell ⟨w.heap.size + 1, n, none⟩ (.bool true)) = W2 at *
        go_wp2_with fail
        clear H1
        have O0 := Lib.hid (World.ownsRow_made (e := 3) (size := 1) (base := w.heap.size + 2) W2 #[] 0 H2.out.size (Nat.zero_le _) rfl)
        have H3 := Lib.hid (H2.out.alloc (.cells #[] 3))
        clear H2
        go_loopw [4, 5] (fun v i wr => ∃ k : Nat, i = .int .i64 (k : Int) ∧ k ≤ 16 ∧ Hid (wr.ownsRow (w.heap.size + 2) 3 1 v (regL h1 k).length ((regL h1 k).map (fun i => .int .i64 i))) ∧ Hid (RX w wr ⟨28, sz, cd, fr, d, s, ln⟩ h1)) (fun _ i _ => 16 - (intOf i).toNat)
        case atStart => exact ⟨0, rfl, Nat.zero_le _, O0, H3⟩
        case round =>
          obtain ⟨k, rfl, hk, HO, HR⟩ := hrel
          by_cases hlt : k < 16
          · have hk' : (k : Int) < 16 := by omega
            have z := HR.out.2.1.cell k hlt
            cases hb : h1 k
            · rw [hb] at z
              have HY := Lib.hid hb
              clear hb
              go_wp2
              go_roundw
              case rel => exact ⟨k + 1, by go_num, by omega, Lib.hid (by rw [regL_no HY.out]; exact HO.out), HR⟩
              case measure => simp [intOf]; omega
            · rw [hb] at z
              have HY := Lib.hid hb
              clear hb
              have HR1 := Lib.hid (HR.out.alloc (.cells #[.int .i64 (k : Int)] 3))
              have O1 := Lib.hid (own_alloc8 HO.out (.cells #[.int .i64 (k : Int)] 3))
              have HNW := Lib.hid (news8 wr (k : Int) 3)
              have HL := regL_len h1 k
              have hm1 : (regL h1 k).length + 1 ≤ maxLen := by unfold maxLen; omega
              have hm2 : ((regL h1 k).length + 1) * 8 ≤ 140737488355328 := by omega
              obtain ⟨i0, hi, hz0, hz1, hz2⟩ := info_parts rowInt8
              go_wp2_with (first | (at_builtin; refine wpList_append_own _ rfl (.tmp 67) (.tmp 69) 26 rfl (w.heap.size + 2) 3 i0 _ 1 8 Tryz.underlying26 hi hz0 hz1 hz2 rfl (by decide) _ _ _ rfl O1.out ⟨wr.heap.size, 0, none⟩ 1 1 [.int .i64 (k : Int)] rfl rfl HNW.out (one8 _) hm1 hm2 HR1.out.size ?_; intro v' w2 hown hgrow hnil))
              have HR2 := Lib.hid (HR1.out.grown hgrow (fun j hj => (HO.out.lt j hj).1))
              have HO2 := Lib.hid hown
              clear hown hgrow hnil
              go_roundw
              case rel => exact ⟨k + 1, by go_num, by omega, Lib.hid (by rw [regL_yes HY.out, List.map_append, List.length_append]; exact HO2.out), HR2⟩
              case measure => simp [intOf]; omega
          · obtain rfl : k = 16 := by omega
            go_wp2
            go_ret
            exact ⟨_, rfl, Joins.ownsRow_le HO.out (by omega), HR.out.2.2⟩
      by_cases h13 : op = 13
      · subst h13
        by_cases hz : 1 < sz
        · have c1 := cell_of_row _ _ 1 _ _ _ H1.out.1
          have c0 := cell_of_row _ _ 0 _ _ _ H1.out.1
          simp only [insV, insA, List.getElem?_toArray, List.getElem?_cons_zero, List.getElem?_cons_succ] at c0 c1
          have z0 := H1.out.2.1.cell 0 (by omega)
          have f0 := H1.out.2.1.free 0
          have z2 := H1.out.2.1.cell 2 (by omega)
          have f2 := H1.out.2.1.free 2
          have E1 : h1 = hup (hup h0 0) 2 := by rw [HH1.out]; unfold hsw; simp only [hz, reduceIte, Int.reduceEq, or_self, or_false, or_true, false_or, true_or]
          have E1h := Lib.hid E1
          clear E1
          have hz' : decide (1 < sz) = true := by simp only [hz, decide_true, decide_false]
          go_upto_region 28 with fail
          have H2 := Lib.hid (show RX w ((wc.setCell ⟨w.heap.size + 1, 0, none⟩ (.bool true)).setCell ⟨w.heap.size + 1, 2, none⟩ (.bool true)) ⟨13, sz, cd, fr, d, s, ln⟩ h1 from E1h.out ▸ ((H1.out.set 0 (by omega)).set 2 (by omega)))
          generalize ((wc.setCell ⟨w.heap.size + 1, 0, none⟩ (.bool true)).setCell ⟨w.heap.size + 1, 2, none⟩ (.bool true)) = W2 at *
          go_wp2_with fail
          clear H1
          have O0 := Lib.hid (World.ownsRow_made (e := 3) (size := 1) (base := w.heap.size + 2) W2 #[] 0 H2.out.size (Nat.zero_le _) rfl)
          have H3 := Lib.hid (H2.out.alloc (.cells #[] 3))
          clear H2
          go_loopw [4, 5] (fun v i wr => ∃ k : Nat, i = .int .i64 (k : Int) ∧ k ≤ 16 ∧ Hid (wr.ownsRow (w.heap.size + 2) 3 1 v (regL h1 k).length ((regL h1 k).map (fun i => .int .i64 i))) ∧ Hid (RX w wr ⟨13, sz, cd, fr, d, s, ln⟩ h1)) (fun _ i _ => 16 - (intOf i).toNat)
          case atStart => exact ⟨0, rfl, Nat.zero_le _, O0, H3⟩
          case round =>
            obtain ⟨k, rfl, hk, HO, HR⟩ := hrel
            by_cases hlt : k < 16
            · have hk' : (k : Int) < 16 := by omega
              have z := HR.out.2.1.cell k hlt
              cases hb : h1 k
              · rw [hb] at z
                have HY := Lib.hid hb
                clear hb
                go_wp2
                go_roundw
                case rel => exact ⟨k + 1, by go_num, by omega, Lib.hid (by rw [regL_no HY.out]; exact HO.out), HR⟩
                case measure => simp [intOf]; omega
              · rw [hb] at z
                have HY := Lib.hid hb
                clear hb
                have HR1 := Lib.hid (HR.out.alloc (.cells #[.int .i64 (k : Int)] 3))
                have O1 := Lib.hid (own_alloc8 HO.out (.cells #[.int .i64 (k : Int)] 3))
                have HNW := Lib.hid (news8 wr (k : Int) 3)
                have HL := regL_len h1 k
                have hm1 : (regL h1 k).length + 1 ≤ maxLen := by unfold maxLen; omega
                have hm2 : ((regL h1 k).length + 1) * 8 ≤ 140737488355328 := by omega
                obtain ⟨i0, hi, hz0, hz1, hz2⟩ := info_parts rowInt8
                go_wp2_with (first | (at_builtin; refine wpList_append_own _ rfl (.tmp 67) (.tmp 69) 26 rfl (w.heap.size + 2) 3 i0 _ 1 8 Tryz.underlying26 hi hz0 hz1 hz2 rfl (by decide) _ _ _ rfl O1.out ⟨wr.heap.size, 0, none⟩ 1 1 [.int .i64 (k : Int)] rfl rfl HNW.out (one8 _) hm1 hm2 HR1.out.size ?_; intro v' w2 hown hgrow hnil))
                have HR2 := Lib.hid (HR1.out.grown hgrow (fun j hj => (HO.out.lt j hj).1))
                have HO2 := Lib.hid hown
                clear hown hgrow hnil
                go_roundw
                case rel => exact ⟨k + 1, by go_num, by omega, Lib.hid (by rw [regL_yes HY.out, List.map_append, List.length_append]; exact HO2.out), HR2⟩
                case measure => simp [intOf]; omega
            · obtain rfl : k = 16 := by omega
              go_wp2
              go_ret
              exact ⟨_, rfl, Joins.ownsRow_le HO.out (by omega), HR.out.2.2⟩
        · have c1 := cell_of_row _ _ 1 _ _ _ H1.out.1
          have c0 := cell_of_row _ _ 0 _ _ _ H1.out.1
          simp only [insV, insA, List.getElem?_toArray, List.getElem?_cons_zero, List.getElem?_cons_succ] at c0 c1
          have z0 := H1.out.2.1.cell 0 (by omega)
          have f0 := H1.out.2.1.free 0
          have E1 : h1 = hup h0 0 := by rw [HH1.out]; unfold hsw; simp only [hz, reduceIte, Int.reduceEq, or_self, or_false, or_true, false_or, true_or]
          have E1h := Lib.hid E1
          clear E1
          have hz' : decide (1 < sz) = false := by simp only [hz, decide_true, decide_false]
          go_upto_region 28 with fail
          have H2 := Lib.hid (show RX w (wc.setCell ⟨w.heap.size + 1, 0, none⟩ (.bool true)) ⟨13, sz, cd, fr, d, s, ln⟩ h1 from E1h.out ▸ (H1.out.set 0 (by omega)))
          generalize (wc.setCell ⟨w.heap.size + 1, 0, none⟩ (.bool true)) = W2 at *
          go_wp2_with fail
          clear H1
          have O0 := Lib.hid (World.ownsRow_made (e := 3) (size := 1) (base := w.heap.size + 2) W2 #[] 0 H2.out.size (Nat.zero_le _) rfl)
          have H3 := Lib.hid (H2.out.alloc (.cells #[] 3))
          clear H2
          go_loopw [4, 5] (fun v i wr => ∃ k : Nat, i = .int .i64 (k : Int) ∧ k ≤ 16 ∧ Hid (wr.ownsRow (w.heap.size + 2) 3 1 v (regL h1 k).length ((regL h1 k).map (fun i => .int .i64 i))) ∧ Hid (RX w wr ⟨13, sz, cd, fr, d, s, ln⟩ h1)) (fun _ i _ => 16 - (intOf i).toNat)
          case atStart => exact ⟨0, rfl, Nat.zero_le _, O0, H3⟩
          case round =>
            obtain ⟨k, rfl, hk, HO, HR⟩ := hrel
            by_cases hlt : k < 16
            · have hk' : (k : Int) < 16 := by omega
              have z := HR.out.2.1.cell k hlt
              cases hb : h1 k
              · rw [hb] at z
                have HY := Lib.hid hb
                clear hb
                go_wp2
                go_roundw
                case rel => exact ⟨k + 1, by go_num, by omega, Lib.hid (by rw [regL_no HY.out]; exact HO.out), HR⟩
                case measure => simp [intOf]; omega
              · rw [hb] at z
                have HY := Lib.hid hb
                clear hb
                have HR1 := Lib.hid (HR.out.alloc (.cells #[.int .i64 (k : Int)] 3))
                have O1 := Lib.hid (own_alloc8 HO.out (.cells #[.int .i64 (k : Int)] 3))
                have HNW := Lib.hid (news8 wr (k : Int) 3)
                have HL := regL_len h1 k
                have hm1 : (regL h1 k).length + 1 ≤ maxLen := by unfold maxLen; omega
                have hm2 : ((regL h1 k).length + 1) * 8 ≤ 140737488355328 := by omega
                obtain ⟨i0, hi, hz0, hz1, hz2⟩ := info_parts rowInt8
                go_wp2_with (first | (at_builtin; refine wpList_append_own _ rfl (.tmp 67) (.tmp 69) 26 rfl (w.heap.size + 2) 3 i0 _ 1 8 Tryz.underlying26 hi hz0 hz1 hz2 rfl (by decide) _ _ _ rfl O1.out ⟨wr.heap.size, 0, none⟩ 1 1 [.int .i64 (k : Int)] rfl rfl HNW.out (one8 _) hm1 hm2 HR1.out.size ?_; intro v' w2 hown hgrow hnil))
                have HR2 := Lib.hid (HR1.out.grown hgrow (fun j hj => (HO.out.lt j hj).1))
                have HO2 := Lib.hid hown
                clear hown hgrow hnil
                go_roundw
                case rel => exact ⟨k + 1, by go_num, by omega, Lib.hid (by rw [regL_yes HY.out, List.map_append, List.length_append]; exact HO2.out), HR2⟩
                case measure => simp [intOf]; omega
            · obtain rfl : k = 16 := by omega
              go_wp2
              go_ret
              exact ⟨_, rfl, Joins.ownsRow_le HO.out (by omega), HR.out.2.2⟩
      by_cases h14 : op = 14
      · subst h14
        by_cases hz : 1 < sz
        · have c1 := cell_of_row _ _ 1 _ _ _ H1.out.1
          have c0 := cell_of_row _ _ 0 _ _ _ H1.out.1
          simp only [insV, insA, List.getElem?_toArray, List.getElem?_cons_zero, List.getElem?_cons_succ] at c0 c1
          have z0 := H1.out.2.1.cell 0 (by omega)
          have f0 := H1.out.2.1.free 0
          have z2 := H1.out.2.1.cell 2 (by omega)
          have f2 := H1.out.2.1.free 2
          have E1 : h1 = hup (hup h0 0) 2 := by rw [HH1.out]; unfold hsw; simp only [hz, reduceIte, Int.reduceEq, or_self, or_false, or_true, false_or, true_or]
          have E1h := Lib.hid E1
          clear E1
          have hz' : decide (1 < sz) = true := by simp only [hz, decide_true, decide_false]
          go_upto_region 28 with fail
          have H2 := Lib.hid (show RX w ((wc.setCell ⟨w.heap.size + 1, 0, none⟩ (.bool true)).setCell ⟨w.heap.size + 1, 2, none⟩ (.bool true)) ⟨14, sz, cd, fr, d, s, ln⟩ h1 from E1h.out ▸ ((H1.out.set 0 (by omega)).set 2 (by omega)))
          generalize ((wc.setCell ⟨w.heap.size + 1, 0, none⟩ (.bool true)).setCell ⟨w.heap.size + 1, 2, none⟩ (.bool true)) = W2 at *
          go_wp2_with fail
          clear H1
          have O0 := Lib.hid (World.ownsRow_made (e := 3) (size := 1) (base := w.heap.size + 2) W2 #[] 0 H2.out.size (Nat.zero_le _) rfl)
          have H3 := Lib.hid (H2.out.alloc (.cells #[] 3))
          clear H2
          go_loopw [4, 5] (fun v i wr => ∃ k : Nat, i = .int .i64 (k : Int) ∧ k ≤ 16 ∧ Hid (wr.ownsRow (w.heap.size + 2) 3 1 v (regL h1 k).length ((regL h1 k).map (fun i => .int .i64 i))) ∧ Hid (RX w wr ⟨14, sz, cd, fr, d, s, ln⟩ h1)) (fun _ i _ => 16 - (intOf i).toNat)
          case atStart => exact ⟨0, rfl, Nat.zero_le _, O0, H3⟩
          case round =>
            obtain ⟨k, rfl, hk, HO, HR⟩ := hrel
            by_cases hlt : k < 16
            · have hk' : (k : Int) < 16 := by omega
              have z := HR.out.2.1.cell k hlt
              cases hb : h1 k
              · rw [hb] at z
                have HY := Lib.hid hb
                clear hb
                go_wp2
                go_roundw
                case rel => exact ⟨k + 1, by go_num, by omega, Lib.hid (by rw [regL_no HY.out]; exact HO.out), HR⟩
                case measure => simp [intOf]; omega
              · rw [hb] at z
                have HY := Lib.hid hb
                clear hb
                have HR1 := Lib.hid (HR.out.alloc (.cells #[.int .i64 (k : Int)] 3))
                have O1 := Lib.hid (own_alloc8 HO.out (.cells #[.int .i64 (k : Int)] 3))
                have HNW := Lib.hid (news8 wr (k : Int) 3)
                have HL := regL_len h1 k
                have hm1 : (regL h1 k).length + 1 ≤ maxLen := by unfold maxLen; omega
                have hm2 : ((regL h1 k).length + 1) * 8 ≤ 140737488355328 := by omega
                obtain ⟨i0, hi, hz0, hz1, hz2⟩ := info_parts rowInt8
                go_wp2_with (first | (at_builtin; refine wpList_append_own _ rfl (.tmp 67) (.tmp 69) 26 rfl (w.heap.size + 2) 3 i0 _ 1 8 Tryz.underlying26 hi hz0 hz1 hz2 rfl (by decide) _ _ _ rfl O1.out ⟨wr.heap.size, 0, none⟩ 1 1 [.int .i64 (k : Int)] rfl rfl HNW.out (one8 _) hm1 hm2 HR1.out.size ?_; intro v' w2 hown hgrow hnil))
                have HR2 := Lib.hid (HR1.out.grown hgrow (fun j hj => (HO.out.lt j hj).1))
                have HO2 := Lib.hid hown
                clear hown hgrow hnil
                go_roundw
                case rel => exact ⟨k + 1, by go_num, by omega, Lib.hid (by rw [regL_yes HY.out, List.map_append, List.length_append]; exact HO2.out), HR2⟩
                case measure => simp [intOf]; omega
            · obtain rfl : k = 16 := by omega
              go_wp2
              go_ret
              exact ⟨_, rfl, Joins.ownsRow_le HO.out (by omega), HR.out.2.2⟩
        · have c1 := cell_of_row _ _ 1 _ _ _ H1.out.1
          have c0 := cell_of_row _ _ 0 _ _ _ H1.out.1
          simp only [insV, insA, List.getElem?_toArray, List.getElem?_cons_zero, List.getElem?_cons_succ] at c0 c1
          have z0 := H1.out.2.1.cell 0 (by omega)
          have f0 := H1.out.2.1.free 0
          have E1 : h1 = hup h0 0 := by rw [HH1.out]; unfold hsw; simp only [hz, reduceIte, Int.reduceEq, or_self, or_false, or_true, false_or, true_or]
          have E1h := Lib.hid E1
          clear E1
          have hz' : decide (1 < sz) = false := by simp only [hz, decide_true, decide_false]
          go_upto_region 28 with fail
          have H2 := Lib.hid (show RX w (wc.setCell ⟨w.heap.size + 1, 0, none⟩ (.bool true)) ⟨14, sz, cd, fr, d, s, ln⟩ h1 from E1h.out ▸ (H1.out.set 0 (by omega)))
          generalize (wc.setCell ⟨w.heap.size + 1, 0, none⟩ (.bool true)) = W2 at *
          go_wp2_with fail
          clear H1
          have O0 := Lib.hid (World.ownsRow_made (e := 3) (size := 1) (base := w.heap.size + 2) W2 #[] 0 H2.out.size (Nat.zero_le _) rfl)
          have H3 := Lib.hid (H2.out.alloc (.cells #[] 3))
          clear H2
          go_loopw [4, 5] (fun v i wr => ∃ k : Nat, i = .int .i64 (k : Int) ∧ k ≤ 16 ∧ Hid (wr.ownsRow (w.heap.size + 2) 3 1 v (regL h1 k).length ((regL h1 k).map (fun i => .int .i64 i))) ∧ Hid (RX w wr ⟨14, sz, cd, fr, d, s, ln⟩ h1)) (fun _ i _ => 16 - (intOf i).toNat)
          case atStart => exact ⟨0, rfl, Nat.zero_le _, O0, H3⟩
          case round =>
            obtain ⟨k, rfl, hk, HO, HR⟩ := hrel
            by_cases hlt : k < 16
            · have hk' : (k : Int) < 16 := by omega
              have z := HR.out.2.1.cell k hlt
              cases hb : h1 k
              · rw [hb] at z
                have HY := Lib.hid hb
                clear hb
                go_wp2
                go_roundw
                case rel => exact ⟨k + 1, by go_num, by omega, Lib.hid (by rw [regL_no HY.out]; exact HO.out), HR⟩
                case measure => simp [intOf]; omega
              · rw [hb] at z
                have HY := Lib.hid hb
                clear hb
                have HR1 := Lib.hid (HR.out.alloc (.cells #[.int .i64 (k : Int)] 3))
                have O1 := Lib.hid (own_alloc8 HO.out (.cells #[.int .i64 (k : Int)] 3))
                have HNW := Lib.hid (news8 wr (k : Int) 3)
                have HL := regL_len h1 k
                have hm1 : (regL h1 k).length + 1 ≤ maxLen := by unfold maxLen; omega
                have hm2 : ((regL h1 k).length + 1) * 8 ≤ 140737488355328 := by omega
                obtain ⟨i0, hi, hz0, hz1, hz2⟩ := info_parts rowInt8
                go_wp2_with (first | (at_builtin; refine wpList_append_own _ rfl (.tmp 67) (.tmp 69) 26 rfl (w.heap.size + 2) 3 i0 _ 1 8 Tryz.underlying26 hi hz0 hz1 hz2 rfl (by decide) _ _ _ rfl O1.out ⟨wr.heap.size, 0, none⟩ 1 1 [.int .i64 (k : Int)] rfl rfl HNW.out (one8 _) hm1 hm2 HR1.out.size ?_; intro v' w2 hown hgrow hnil))
                have HR2 := Lib.hid (HR1.out.grown hgrow (fun j hj => (HO.out.lt j hj).1))
                have HO2 := Lib.hid hown
                clear hown hgrow hnil
                go_roundw
                case rel => exact ⟨k + 1, by go_num, by omega, Lib.hid (by rw [regL_yes HY.out, List.map_append, List.length_append]; exact HO2.out), HR2⟩
                case measure => simp [intOf]; omega
            · obtain rfl : k = 16 := by omega
              go_wp2
              go_ret
              exact ⟨_, rfl, Joins.ownsRow_le HO.out (by omega), HR.out.2.2⟩
      by_cases h15 : op = 15
      · subst h15
        by_cases hz : 1 < sz
        · have c1 := cell_of_row _ _ 1 _ _ _ H1.out.1
          have c0 := cell_of_row _ _ 0 _ _ _ H1.out.1
          simp only [insV, insA, List.getElem?_toArray, List.getElem?_cons_zero, List.getElem?_cons_succ] at c0 c1
          have z0 := H1.out.2.1.cell 0 (by omega)
          have f0 := H1.out.2.1.free 0
          have z2 := H1.out.2.1.cell 2 (by omega)
          have f2 := H1.out.2.1.free 2
          have E1 : h1 = hup (hup h0 0) 2 := by rw [HH1.out]; unfold hsw; simp only [hz, reduceIte, Int.reduceEq, or_self, or_false, or_true, false_or, true_or]
          have E1h := Lib.hid E1
          clear E1
          have hz' : decide (1 < sz) = true := by simp only [hz, decide_true, decide_false]
          go_upto_region 28 with fail
          have H2 := Lib.hid (show RX w ((wc.setCell ⟨w.heap.size + 1, 0, none⟩ (.bool true)).setCell ⟨w.heap.size + 1, 2, none⟩ (.bool true)) ⟨15, sz, cd, fr, d, s, ln⟩ h1 from E1h.out ▸ ((H1.out.set 0 (by omega)).set 2 (by omega)))
          generalize ((wc.setCell ⟨w.heap.size + 1, 0, none⟩ (.bool true)).setCell ⟨w.heap.size + 1, 2, none⟩ (.bool true)) = W2 at *
          go_wp2_with fail
          clear H1
          have O0 := Lib.hid (World.ownsRow_made (e := 3) (size := 1) (base := w.heap.size + 2) W2 #[] 0 H2.out.size (Nat.zero_le _) rfl)
          have H3 := Lib.hid (H2.out.alloc (.cells #[] 3))
          clear H2
          go_loopw [4, 5] (fun v i wr => ∃ k : Nat, i = .int .i64 (k : Int) ∧ k ≤ 16 ∧ Hid (wr.ownsRow (w.heap.size + 2) 3 1 v (regL h1 k).length ((regL h1 k).map (fun i => .int .i64 i))) ∧ Hid (RX w wr ⟨15, sz, cd, fr, d, s, ln⟩ h1)) (fun _ i _ => 16 - (intOf i).toNat)
          case atStart => exact ⟨0, rfl, Nat.zero_le _, O0, H3⟩
          case round =>
            obtain ⟨k, rfl, hk, HO, HR⟩ := hrel
            by_cases hlt : k < 16
            · have hk' : (k : Int) < 16 := by omega
              have z := HR.out.2.1.cell k hlt
              cases hb : h1 k
              · rw [hb] at z
                have HY := Lib.hid hb
                clear hb
                go_wp2
                go_roundw
                case rel => exact ⟨k + 1, by go_num, by omega, Lib.hid (by rw [regL_no HY.out]; exact HO.out), HR⟩
                case measure => simp [intOf]; omega
              · rw [hb] at z
                have HY := Lib.hid hb
                clear hb
                have HR1 := Lib.hid (HR.out.alloc (.cells #[.int .i64 (k : Int)] 3))
                have O1 := Lib.hid (own_alloc8 HO.out (.cells #[.int .i64 (k : Int)] 3))
                have HNW := Lib.hid (news8 wr (k : Int) 3)
                have HL := regL_len h1 k
                have hm1 : (regL h1 k).length + 1 ≤ maxLen := by unfold maxLen; omega
                have hm2 : ((regL h1 k).length + 1) * 8 ≤ 140737488355328 := by omega
                obtain ⟨i0, hi, hz0, hz1, hz2⟩ := info_parts rowInt8
                go_wp2_with (first | (at_builtin; refine wpList_append_own _ rfl (.tmp 67) (.tmp 69) 26 rfl (w.heap.size + 2) 3 i0 _ 1 8 Tryz.underlying26 hi hz0 hz1 hz2 rfl (by decide) _ _ _ rfl O1.out ⟨wr.heap.size, 0, none⟩ 1 1 [.int .i64 (k : Int)] rfl rfl HNW.out (one8 _) hm1 hm2 HR1.out.size ?_; intro v' w2 hown hgrow hnil))
                have HR2 := Lib.hid (HR1.out.grown hgrow (fun j hj => (HO.out.lt j hj).1))
                have HO2 := Lib.hid hown
                clear hown hgrow hnil
                go_roundw
                case rel => exact ⟨k + 1, by go_num, by omega, Lib.hid (by rw [regL_yes HY.out, List.map_append, List.length_append]; exact HO2.out), HR2⟩
                case measure => simp [intOf]; omega
            · obtain rfl : k = 16 := by omega
              go_wp2
              go_ret
              exact ⟨_, rfl, Joins.ownsRow_le HO.out (by omega), HR.out.2.2⟩
        · have c1 := cell_of_row _ _ 1 _ _ _ H1.out.1
          have c0 := cell_of_row _ _ 0 _ _ _ H1.out.1
          simp only [insV, insA, List.getElem?_toArray, List.getElem?_cons_zero, List.getElem?_cons_succ] at c0 c1
          have z0 := H1.out.2.1.cell 0 (by omega)
          have f0 := H1.out.2.1.free 0
          have E1 : h1 = hup h0 0 := by rw [HH1.out]; unfold hsw; simp only [hz, reduceIte, Int.reduceEq, or_self, or_false, or_true, false_or, true_or]
          have E1h := Lib.hid E1
          clear E1
          have hz' : decide (1 < sz) = false := by simp only [hz, decide_true, decide_false]
          go_upto_region 28 with fail
          have H2 := Lib.hid (show RX w (wc.setCell ⟨w.heap.size + 1, 0, none⟩ (.bool true)) ⟨15, sz, cd, fr, d, s, ln⟩ h1 from E1h.out ▸ (H1.out.set 0 (by omega)))
          generalize (wc.setCell ⟨w.heap.size + 1, 0, none⟩ (.bool true)) = W2 at *
          go_wp2_with fail
          clear H1
          have O0 := Lib.hid (World.ownsRow_made (e := 3) (size := 1) (base := w.heap.size + 2) W2 #[] 0 H2.out.size (Nat.zero_le _) rfl)
          have H3 := Lib.hid (H2.out.alloc (.cells #[] 3))
          clear H2
          go_loopw [4, 5] (fun v i wr => ∃ k : Nat, i = .int .i64 (k : Int) ∧ k ≤ 16 ∧ Hid (wr.ownsRow (w.heap.size + 2) 3 1 v (regL h1 k).length ((regL h1 k).map (fun i => .int .i64 i))) ∧ Hid (RX w wr ⟨15, sz, cd, fr, d, s, ln⟩ h1)) (fun _ i _ => 16 - (intOf i).toNat)
          case atStart => exact ⟨0, rfl, Nat.zero_le _, O0, H3⟩
          case round =>
            obtain ⟨k, rfl, hk, HO, HR⟩ := hrel
            by_cases hlt : k < 16
            · have hk' : (k : Int) < 16 := by omega
              have z := HR.out.2.1.cell k hlt
              cases hb : h1 k
              · rw [hb] at z
                have HY := Lib.hid hb
                clear hb
                go_wp2
                go_roundw
                case rel => exact ⟨k + 1, by go_num, by omega, Lib.hid (by rw [regL_no HY.out]; exact HO.out), HR⟩
                case measure => simp [intOf]; omega
              · rw [hb] at z
                have HY := Lib.hid hb
                clear hb
                have HR1 := Lib.hid (HR.out.alloc (.cells #[.int .i64 (k : Int)] 3))
                have O1 := Lib.hid (own_alloc8 HO.out (.cells #[.int .i64 (k : Int)] 3))
                have HNW := Lib.hid (news8 wr (k : Int) 3)
                have HL := regL_len h1 k
                have hm1 : (regL h1 k).length + 1 ≤ maxLen := by unfold maxLen; omega
                have hm2 : ((regL h1 k).length + 1) * 8 ≤ 140737488355328 := by omega
                obtain ⟨i0, hi, hz0, hz1, hz2⟩ := info_parts rowInt8
                go_wp2_with (first | (at_builtin; refine wpList_append_own _ rfl (.tmp 67) (.tmp 69) 26 rfl (w.heap.size + 2) 3 i0 _ 1 8 Tryz.underlying26 hi hz0 hz1 hz2 rfl (by decide) _ _ _ rfl O1.out ⟨wr.heap.size, 0, none⟩ 1 1 [.int .i64 (k : Int)] rfl rfl HNW.out (one8 _) hm1 hm2 HR1.out.size ?_; intro v' w2 hown hgrow hnil))
                have HR2 := Lib.hid (HR1.out.grown hgrow (fun j hj => (HO.out.lt j hj).1))
                have HO2 := Lib.hid hown
                clear hown hgrow hnil
                go_roundw
                case rel => exact ⟨k + 1, by go_num, by omega, Lib.hid (by rw [regL_yes HY.out, List.map_append, List.length_append]; exact HO2.out), HR2⟩
                case measure => simp [intOf]; omega
            · obtain rfl : k = 16 := by omega
              go_wp2
              go_ret
              exact ⟨_, rfl, Joins.ownsRow_le HO.out (by omega), HR.out.2.2⟩
      by_cases h16 : op = 16
      · subst h16
        by_cases hz : 1 < sz
        · have c1 := cell_of_row _ _ 1 _ _ _ H1.out.1
          have c0 := cell_of_row _ _ 0 _ _ _ H1.out.1
          simp only [insV, insA, List.getElem?_toArray, List.getElem?_cons_zero, List.getElem?_cons_succ] at c0 c1
          have z0 := H1.out.2.1.cell 0 (by omega)
          have f0 := H1.out.2.1.free 0
          have z2 := H1.out.2.1.cell 2 (by omega)
          have f2 := H1.out.2.1.free 2
          have E1 : h1 = hup (hup h0 0) 2 := by rw [HH1.out]; unfold hsw; simp only [hz, reduceIte, Int.reduceEq, or_self, or_false, or_true, false_or, true_or]
          have E1h := Lib.hid E1
          clear E1
          have hz' : decide (1 < sz) = true := by simp only [hz, decide_true, decide_false]
          go_upto_region 28 with fail
          have H2 := Lib.hid (show RX w ((wc.setCell ⟨w.heap.size + 1, 0, none⟩ (.bool true)).setCell ⟨w.heap.size + 1, 2, none⟩ (.bool true)) ⟨16, sz, cd, fr, d, s, ln⟩ h1 from E1h.out ▸ ((H1.out.set 0 (by omega)).set 2 (by omega)))
          generalize ((wc.setCell ⟨w.heap.size + 1, 0, none⟩ (.bool true)).setCell ⟨w.heap.size + 1, 2, none⟩ (.bool true)) = W2 at *
          go_wp2_with fail
          clear H1
          have O0 := Lib.hid (World.ownsRow_made (e := 3) (size := 1) (base := w.heap.size + 2) W2 #[] 0 H2.out.size (Nat.zero_le _) rfl)
          have H3 := Lib.hid (H2.out.alloc (.cells #[] 3))
          clear H2
          go_loopw [4, 5] (fun v i wr => ∃ k : Nat, i = .int .i64 (k : Int) ∧ k ≤ 16 ∧ Hid (wr.ownsRow (w.heap.size + 2) 3 1 v (regL h1 k).length ((regL h1 k).map (fun i => .int .i64 i))) ∧ Hid (RX w wr ⟨16, sz, cd, fr, d, s, ln⟩ h1)) (fun _ i _ => 16 - (intOf i).toNat)
          case atStart => exact ⟨0, rfl, Nat.zero_le _, O0, H3⟩
          case round =>
            obtain ⟨k, rfl, hk, HO, HR⟩ := hrel
            by_cases hlt : k < 16
            · have hk' : (k : Int) < 16 := by omega
              have z := HR.out.2.1.cell k hlt
              cases hb : h1 k
              · rw [hb] at z
                have HY := Lib.hid hb
                clear hb
                go_wp2
                go_roundw
                case rel => exact ⟨k + 1, by go_num, by omega, Lib.hid (by rw [regL_no HY.out]; exact HO.out), HR⟩
                case measure => simp [intOf]; omega
              · rw [hb] at z
                have HY := Lib.hid hb
                clear hb
                have HR1 := Lib.hid (HR.out.alloc (.cells #[.int .i64 (k : Int)] 3))
                have O1 := Lib.hid (own_alloc8 HO.out (.cells #[.int .i64 (k : Int)] 3))
                have HNW := Lib.hid (news8 wr (k : Int) 3)
                have HL := regL_len h1 k
                have hm1 : (regL h1 k).length + 1 ≤ maxLen := by unfold maxLen; omega
                have hm2 : ((regL h1 k).length + 1) * 8 ≤ 140737488355328 := by omega
                obtain ⟨i0, hi, hz0, hz1, hz2⟩ := info_parts rowInt8
                go_wp2_with (first | (at_builtin; refine wpList_append_own _ rfl (.tmp 67) (.tmp 69) 26 rfl (w.heap.size + 2) 3 i0 _ 1 8 Tryz.underlying26 hi hz0 hz1 hz2 rfl (by decide) _ _ _ rfl O1.out ⟨wr.heap.size, 0, none⟩ 1 1 [.int .i64 (k : Int)] rfl rfl HNW.out (one8 _) hm1 hm2 HR1.out.size ?_; intro v' w2 hown hgrow hnil))
                have HR2 := Lib.hid (HR1.out.grown hgrow (fun j hj => (HO.out.lt j hj).1))
                have HO2 := Lib.hid hown
                clear hown hgrow hnil
                go_roundw
                case rel => exact ⟨k + 1, by go_num, by omega, Lib.hid (by rw [regL_yes HY.out, List.map_append, List.length_append]; exact HO2.out), HR2⟩
                case measure => simp [intOf]; omega
            · obtain rfl : k = 16 := by omega
              go_wp2
              go_ret
              exact ⟨_, rfl, Joins.ownsRow_le HO.out (by omega), HR.out.2.2⟩
        · have c1 := cell_of_row _ _ 1 _ _ _ H1.out.1
          have c0 := cell_of_row _ _ 0 _ _ _ H1.out.1
          simp only [insV, insA, List.getElem?_toArray, List.getElem?_cons_zero, List.getElem?_cons_succ] at c0 c1
          have z0 := H1.out.2.1.cell 0 (by omega)
          have f0 := H1.out.2.1.free 0
          have E1 : h1 = hup h0 0 := by rw [HH1.out]; unfold hsw; simp only [hz, reduceIte, Int.reduceEq, or_self, or_false, or_true, false_or, true_or]
          have E1h := Lib.hid E1
          clear E1
          have hz' : decide (1 < sz) = false := by simp only [hz, decide_true, decide_false]
          go_upto_region 28 with fail
          have H2 := Lib.hid (show RX w (wc.setCell ⟨w.heap.size + 1, 0, none⟩ (.bool true)) ⟨16, sz, cd, fr, d, s, ln⟩ h1 from E1h.out ▸ (H1.out.set 0 (by omega)))
          generalize (wc.setCell ⟨w.heap.size + 1, 0, none⟩ (.bool true)) = W2 at *
          go_wp2_with fail
          clear H1
          have O0 := Lib.hid (World.ownsRow_made (e := 3) (size := 1) (base := w.heap.size + 2) W2 #[] 0 H2.out.size (Nat.zero_le _) rfl)
          have H3 := Lib.hid (H2.out.alloc (.cells #[] 3))
          clear H2
          go_loopw [4, 5] (fun v i wr => ∃ k : Nat, i = .int .i64 (k : Int) ∧ k ≤ 16 ∧ Hid (wr.ownsRow (w.heap.size + 2) 3 1 v (regL h1 k).length ((regL h1 k).map (fun i => .int .i64 i))) ∧ Hid (RX w wr ⟨16, sz, cd, fr, d, s, ln⟩ h1)) (fun _ i _ => 16 - (intOf i).toNat)
          case atStart => exact ⟨0, rfl, Nat.zero_le _, O0, H3⟩
          case round =>
            obtain ⟨k, rfl, hk, HO, HR⟩ := hrel
            by_cases hlt : k < 16
            · have hk' : (k : Int) < 16 := by omega
              have z := HR.out.2.1.cell k hlt
              cases hb : h1 k
              · rw [hb] at z
                have HY := Lib.hid hb
                clear hb
                go_wp2
                go_roundw
                case rel => exact ⟨k + 1, by go_num, by omega, Lib.hid (by rw [regL_no HY.out]; exact HO.out), HR⟩
                case measure => simp [intOf]; omega
              · rw [hb] at z
                have HY := Lib.hid hb
                clear hb
                have HR1 := Lib.hid (HR.out.alloc (.cells #[.int .i64 (k : Int)] 3))
                have O1 := Lib.hid (own_alloc8 HO.out (.cells #[.int .i64 (k : Int)] 3))
                have HNW := Lib.hid (news8 wr (k : Int) 3)
                have HL := regL_len h1 k
                have hm1 : (regL h1 k).length + 1 ≤ maxLen := by unfold maxLen; omega
                have hm2 : ((regL h1 k).length + 1) * 8 ≤ 140737488355328 := by omega
                obtain ⟨i0, hi, hz0, hz1, hz2⟩ := info_parts rowInt8
                go_wp2_with (first | (at_builtin; refine wpList_append_own _ rfl (.tmp 67) (.tmp 69) 26 rfl (w.heap.size + 2) 3 i0 _ 1 8 Tryz.underlying26 hi hz0 hz1 hz2 rfl (by decide) _ _ _ rfl O1.out ⟨wr.heap.size, 0, none⟩ 1 1 [.int .i64 (k : Int)] rfl rfl HNW.out (one8 _) hm1 hm2 HR1.out.size ?_; intro v' w2 hown hgrow hnil))
                have HR2 := Lib.hid (HR1.out.grown hgrow (fun j hj => (HO.out.lt j hj).1))
                have HO2 := Lib.hid hown
                clear hown hgrow hnil
                go_roundw
                case rel => exact ⟨k + 1, by go_num, by omega, Lib.hid (by rw [regL_yes HY.out, List.map_append, List.length_append]; exact HO2.out), HR2⟩
                case measure => simp [intOf]; omega
            · obtain rfl : k = 16 := by omega
              go_wp2
              go_ret
              exact ⟨_, rfl, Joins.ownsRow_le HO.out (by omega), HR.out.2.2⟩
      by_cases h39 : op = 39
      · subst h39
        have c0 := cell_of_row _ _ 0 _ _ _ H1.out.1
        simp only [insV, insA, List.getElem?_toArray, List.getElem?_cons_zero, List.getElem?_cons_succ] at c0
        have z0 := H1.out.2.1.cell 0 (by omega)
        have f0 := H1.out.2.1.free 0
        have E1 : h1 = hup h0 0 := by rw [HH1.out]; unfold hsw; simp only [reduceIte, Int.reduceEq, or_self, or_false, or_true, false_or, true_or]
        have E1h := Lib.hid E1
        clear E1
        go_upto_region 28 with fail
        have H2 := Lib.hid (show RX w (wc.setCell ⟨w.heap.size + 1, 0, none⟩ (.bool true)) ⟨39, sz, cd, fr, d, s, ln⟩ h1 from E1h.out ▸ (H1.out.set 0 (by omega)))
        generalize (wc.setCell ⟨w.heap.size + 1, 0, none⟩ (.bool true)) = W2 at *
        go_wp2_with fail
        clear H1
        have O0 := Lib.hid (World.ownsRow_made (e := 3) (size := 1) (base := w.heap.size + 2) W2 #[] 0 H2.out.size (Nat.zero_le _) rfl)
        have H3 := Lib.hid (H2.out.alloc (.cells #[] 3))
        clear H2
        go_loopw [4, 5] (fun v i wr => ∃ k : Nat, i = .int .i64 (k : Int) ∧ k ≤ 16 ∧ Hid (wr.ownsRow (w.heap.size + 2) 3 1 v (regL h1 k).length ((regL h1 k).map (fun i => .int .i64 i))) ∧ Hid (RX w wr ⟨39, sz, cd, fr, d, s, ln⟩ h1)) (fun _ i _ => 16 - (intOf i).toNat)
        case atStart => exact ⟨0, rfl, Nat.zero_le _, O0, H3⟩
        case round =>
          obtain ⟨k, rfl, hk, HO, HR⟩ := hrel
          by_cases hlt : k < 16
          · have hk' : (k : Int) < 16 := by omega
            have z := HR.out.2.1.cell k hlt
            cases hb : h1 k
            · rw [hb] at z
              have HY := Lib.hid hb
              clear hb
              go_wp2
              go_roundw
              case rel => exact ⟨k + 1, by go_num, by omega, Lib.hid (by rw [regL_no HY.out]; exact HO.out), HR⟩
              case measure => simp [intOf]; omega
            · rw [hb] at z
              have HY := Lib.hid hb
              clear hb
              have HR1 := Lib.hid (HR.out.alloc (.cells #[.int .i64 (k : Int)] 3))
              have O1 := Lib.hid (own_alloc8 HO.out (.cells #[.int .i64 (k : Int)] 3))
              have HNW := Lib.hid (news8 wr (k : Int) 3)
              have HL := regL_len h1 k
              have hm1 : (regL h1 k).length + 1 ≤ maxLen := by unfold maxLen; omega
              have hm2 : ((regL h1 k).length + 1) * 8 ≤ 140737488355328 := by omega
              obtain ⟨i0, hi, hz0, hz1, hz2⟩ := info_parts rowInt8
              go_wp2_with (first | (at_builtin; refine wpList_append_own _ rfl (.tmp 67) (.tmp 69) 26 rfl (w.heap.size + 2) 3 i0 _ 1 8 Tryz.underlying26 hi hz0 hz1 hz2 rfl (by decide) _ _ _ rfl O1.out ⟨wr.heap.size, 0, none⟩ 1 1 [.int .i64 (k : Int)] rfl rfl HNW.out (one8 _) hm1 hm2 HR1.out.size ?_; intro v' w2 hown hgrow hnil))
              have HR2 := Lib.hid (HR1.out.grown hgrow (fun j hj => (HO.out.lt j hj).1))
              have HO2 := Lib.hid hown
              clear hown hgrow hnil
              go_roundw
              case rel => exact ⟨k + 1, by go_num, by omega, Lib.hid (by rw [regL_yes HY.out, List.map_append, List.length_append]; exact HO2.out), HR2⟩
              case measure => simp [intOf]; omega
          · obtain rfl : k = 16 := by omega
            go_wp2
            go_ret
            exact ⟨_, rfl, Joins.ownsRow_le HO.out (by omega), HR.out.2.2⟩
      by_cases h40 : op = 40
      · subst h40
        have c0 := cell_of_row _ _ 0 _ _ _ H1.out.1
        simp only [insV, insA, List.getElem?_toArray, List.getElem?_cons_zero, List.getElem?_cons_succ] at c0
        have z2 := H1.out.2.1.cell 2 (by omega)
        have f2 := H1.out.2.1.free 2
        have E1 : h1 = hup h0 2 := by rw [HH1.out]; unfold hsw; simp only [reduceIte, Int.reduceEq, or_self, or_false, or_true, false_or, true_or]
        have E1h := Lib.hid E1
        clear E1
        go_upto_region 28 with fail
        have H2 := Lib.hid (show RX w (wc.setCell ⟨w.heap.size + 1, 2, none⟩ (.bool true)) ⟨40, sz, cd, fr, d, s, ln⟩ h1 from E1h.out ▸ (H1.out.set 2 (by omega)))
        generalize (wc.setCell ⟨w.heap.size + 1, 2, none⟩ (.bool true)) = W2 at *
        go_wp2_with fail
        clear H1
        have O0 := Lib.hid (World.ownsRow_made (e := 3) (size := 1) (base := w.heap.size + 2) W2 #[] 0 H2.out.size (Nat.zero_le _) rfl)
        have H3 := Lib.hid (H2.out.alloc (.cells #[] 3))
        clear H2
        go_loopw [4, 5] (fun v i wr => ∃ k : Nat, i = .int .i64 (k : Int) ∧ k ≤ 16 ∧ Hid (wr.ownsRow (w.heap.size + 2) 3 1 v (regL h1 k).length ((regL h1 k).map (fun i => .int .i64 i))) ∧ Hid (RX w wr ⟨40, sz, cd, fr, d, s, ln⟩ h1)) (fun _ i _ => 16 - (intOf i).toNat)
        case atStart => exact ⟨0, rfl, Nat.zero_le _, O0, H3⟩
        case round =>
          obtain ⟨k, rfl, hk, HO, HR⟩ := hrel
          by_cases hlt : k < 16
          · have hk' : (k : Int) < 16 := by omega
            have z := HR.out.2.1.cell k hlt
            cases hb : h1 k
            · rw [hb] at z
              have HY := Lib.hid hb
              clear hb
              go_wp2
              go_roundw
              case rel => exact ⟨k + 1, by go_num, by omega, Lib.hid (by rw [regL_no HY.out]; exact HO.out), HR⟩
              case measure => simp [intOf]; omega
            · rw [hb] at z
              have HY := Lib.hid hb
              clear hb
              have HR1 := Lib.hid (HR.out.alloc (.cells #[.int .i64 (k : Int)] 3))
              have O1 := Lib.hid (own_alloc8 HO.out (.cells #[.int .i64 (k : Int)] 3))
              have HNW := Lib.hid (news8 wr (k : Int) 3)
              have HL := regL_len h1 k
              have hm1 : (regL h1 k).length + 1 ≤ maxLen := by unfold maxLen; omega
              have hm2 : ((regL h1 k).length + 1) * 8 ≤ 140737488355328 := by omega
              obtain ⟨i0, hi, hz0, hz1, hz2⟩ := info_parts rowInt8
              go_wp2_with (first | (at_builtin; refine wpList_append_own _ rfl (.tmp 67) (.tmp 69) 26 rfl (w.heap.size + 2) 3 i0 _ 1 8 Tryz.underlying26 hi hz0 hz1 hz2 rfl (by decide) _ _ _ rfl O1.out ⟨wr.heap.size, 0, none⟩ 1 1 [.int .i64 (k : Int)] rfl rfl HNW.out (one8 _) hm1 hm2 HR1.out.size ?_; intro v' w2 hown hgrow hnil))
              have HR2 := Lib.hid (HR1.out.grown hgrow (fun j hj => (HO.out.lt j hj).1))
              have HO2 := Lib.hid hown
              clear hown hgrow hnil
              go_roundw
              case rel => exact ⟨k + 1, by go_num, by omega, Lib.hid (by rw [regL_yes HY.out, List.map_append, List.length_append]; exact HO2.out), HR2⟩
              case measure => simp [intOf]; omega
          · obtain rfl : k = 16 := by omega
            go_wp2
            go_ret
            exact ⟨_, rfl, Joins.ownsRow_le HO.out (by omega), HR.out.2.2⟩
      by_cases h41 : op = 41
      · subst h41
        have c0 := cell_of_row _ _ 0 _ _ _ H1.out.1
        simp only [insV, insA, List.getElem?_toArray, List.getElem?_cons_zero, List.getElem?_cons_succ] at c0
        have z7 := H1.out.2.1.cell 7 (by omega)
        have f7 := H1.out.2.1.free 7
        have E1 : h1 = hup h0 7 := by rw [HH1.out]; unfold hsw; simp only [reduceIte, Int.reduceEq, or_self, or_false, or_true, false_or, true_or]
        have E1h := Lib.hid E1
        clear E1
        go_upto_region 28 with fail
        have H2 := Lib.hid (show RX w (wc.setCell ⟨w.heap.size + 1, 7, none⟩ (.bool true)) ⟨41, sz, cd, fr, d, s, ln⟩ h1 from E1h.out ▸ (H1.out.set 7 (by omega)))
        generalize (wc.setCell ⟨w.heap.size + 1, 7, none⟩ (.bool true)) = W2 at *
        go_wp2_with fail
        clear H1
        have O0 := Lib.hid (World.ownsRow_made (e := 3) (size := 1) (base := w.heap.size + 2) W2 #[] 0 H2.out.size (Nat.zero_le _) rfl)
        have H3 := Lib.hid (H2.out.alloc (.cells #[] 3))
        clear H2
        go_loopw [4, 5] (fun v i wr => ∃ k : Nat, i = .int .i64 (k : Int) ∧ k ≤ 16 ∧ Hid (wr.ownsRow (w.heap.size + 2) 3 1 v (regL h1 k).length ((regL h1 k).map (fun i => .int .i64 i))) ∧ Hid (RX w wr ⟨41, sz, cd, fr, d, s, ln⟩ h1)) (fun _ i _ => 16 - (intOf i).toNat)
        case atStart => exact ⟨0, rfl, Nat.zero_le _, O0, H3⟩
        case round =>
          obtain ⟨k, rfl, hk, HO, HR⟩ := hrel
          by_cases hlt : k < 16
          · have hk' : (k : Int) < 16 := by omega
            have z := HR.out.2.1.cell k hlt
            cases hb : h1 k
            · rw [hb] at z
              have HY := Lib.hid hb
              clear hb
              go_wp2
              go_roundw
              case rel => exact ⟨k + 1, by go_num, by omega, Lib.hid (by rw [regL_no HY.out]; exact HO.out), HR⟩
              case measure => simp [intOf]; omega
            · rw [hb] at z
              have HY := Lib.hid hb
              clear hb
              have HR1 := Lib.hid (HR.out.alloc (.cells #[.int .i64 (k : Int)] 3))
              have O1 := Lib.hid (own_alloc8 HO.out (.cells #[.int .i64 (k : Int)] 3))
              have HNW := Lib.hid (news8 wr (k : Int) 3)
              have HL := regL_len h1 k
              have hm1 : (regL h1 k).length + 1 ≤ maxLen := by unfold maxLen; omega
              have hm2 : ((regL h1 k).length + 1) * 8 ≤ 140737488355328 := by omega
              obtain ⟨i0, hi, hz0, hz1, hz2⟩ := info_parts rowInt8
              go_wp2_with (first | (at_builtin; refine wpList_append_own _ rfl (.tmp 67) (.tmp 69) 26 rfl (w.heap.size + 2) 3 i0 _ 1 8 Tryz.underlying26 hi hz0 hz1 hz2 rfl (by decide) _ _ _ rfl O1.out ⟨wr.heap.size, 0, none⟩ 1 1 [.int .i64 (k : Int)] rfl rfl HNW.out (one8 _) hm1 hm2 HR1.out.size ?_; intro v' w2 hown hgrow hnil))
              have HR2 := Lib.hid (HR1.out.grown hgrow (fun j hj => (HO.out.lt j hj).1))
              have HO2 := Lib.hid hown
              clear hown hgrow hnil
              go_roundw
              case rel => exact ⟨k + 1, by go_num, by omega, Lib.hid (by rw [regL_yes HY.out, List.map_append, List.length_append]; exact HO2.out), HR2⟩
              case measure => simp [intOf]; omega
          · obtain rfl : k = 16 := by omega
            go_wp2
            go_ret
            exact ⟨_, rfl, Joins.ownsRow_le HO.out (by omega), HR.out.2.2⟩
      by_cases h42 : op = 42
      · subst h42
        have c0 := cell_of_row _ _ 0 _ _ _ H1.out.1
        simp only [insV, insA, List.getElem?_toArray, List.getElem?_cons_zero, List.getElem?_cons_succ] at c0
        have z6 := H1.out.2.1.cell 6 (by omega)
        have f6 := H1.out.2.1.free 6
        have z7 := H1.out.2.1.cell 7 (by omega)
        have f7 := H1.out.2.1.free 7
        have E1 : h1 = hup (hup h0 6) 7 := by rw [HH1.out]; unfold hsw; simp only [reduceIte, Int.reduceEq, or_self, or_false, or_true, false_or, true_or]
        have E1h := Lib.hid E1
        clear E1
        go_upto_region 28 with fail
        have H2 := Lib.hid (show RX w ((wc.setCell ⟨w.heap.size + 1, 6, none⟩ (.bool true)).setCell ⟨w.heap.size + 1, 7, none⟩ (.bool true)) ⟨42, sz, cd, fr, d, s, ln⟩ h1 from E1h.out ▸ ((H1.out.set 6 (by omega)).set 7 (by omega)))
        generalize ((wc.setCell ⟨w.heap.size + 1, 6, none⟩ (.bool true)).setCell ⟨w.heap.size + 1, 7, none⟩ (.bool true)) = W2 at *
        go_wp2_with fail
        clear H1
        have O0 := Lib.hid (World.ownsRow_made (e := 3) (size := 1) (base := w.heap.size + 2) W2 #[] 0 H2.out.size (Nat.zero_le _) rfl)
        have H3 := Lib.hid (H2.out.alloc (.cells #[] 3))
        clear H2
        go_loopw [4, 5] (fun v i wr => ∃ k : Nat, i = .int .i64 (k : Int) ∧ k ≤ 16 ∧ Hid (wr.ownsRow (w.heap.size + 2) 3 1 v (regL h1 k).length ((regL h1 k).map (fun i => .int .i64 i))) ∧ Hid (RX w wr ⟨42, sz, cd, fr, d, s, ln⟩ h1)) (fun _ i _ => 16 - (intOf i).toNat)
        case atStart => exact ⟨0, rfl, Nat.zero_le _, O0, H3⟩
        case round =>
          obtain ⟨k, rfl, hk, HO, HR⟩ := hrel
          by_cases hlt : k < 16
          · have hk' : (k : Int) < 16 := by omega
            have z := HR.out.2.1.cell k hlt
            cases hb : h1 k
            · rw [hb] at z
              have HY := Lib.hid hb
              clear hb
              go_wp2
              go_roundw
              case rel => exact ⟨k + 1, by go_num, by omega, Lib.hid (by rw [regL_no HY.out]; exact HO.out), HR⟩
              case measure => simp [intOf]; omega
            · rw [hb] at z
              have HY := Lib.hid hb
              clear hb
              have HR1 := Lib.hid (HR.out.alloc (.cells #[.int .i64 (k : Int)] 3))
              have O1 := Lib.hid (own_alloc8 HO.out (.cells #[.int .i64 (k : Int)] 3))
              have HNW := Lib.hid (news8 wr (k : Int) 3)
              have HL := regL_len h1 k
              have hm1 : (regL h1 k).length + 1 ≤ maxLen := by unfold maxLen; omega
              have hm2 : ((regL h1 k).length + 1) * 8 ≤ 140737488355328 := by omega
              obtain ⟨i0, hi, hz0, hz1, hz2⟩ := info_parts rowInt8
              go_wp2_with (first | (at_builtin; refine wpList_append_own _ rfl (.tmp 67) (.tmp 69) 26 rfl (w.heap.size + 2) 3 i0 _ 1 8 Tryz.underlying26 hi hz0 hz1 hz2 rfl (by decide) _ _ _ rfl O1.out ⟨wr.heap.size, 0, none⟩ 1 1 [.int .i64 (k : Int)] rfl rfl HNW.out (one8 _) hm1 hm2 HR1.out.size ?_; intro v' w2 hown hgrow hnil))
              have HR2 := Lib.hid (HR1.out.grown hgrow (fun j hj => (HO.out.lt j hj).1))
              have HO2 := Lib.hid hown
              clear hown hgrow hnil
              go_roundw
              case rel => exact ⟨k + 1, by go_num, by omega, Lib.hid (by rw [regL_yes HY.out, List.map_append, List.length_append]; exact HO2.out), HR2⟩
              case measure => simp [intOf]; omega
          · obtain rfl : k = 16 := by omega
            go_wp2
            go_ret
            exact ⟨_, rfl, Joins.ownsRow_le HO.out (by omega), HR.out.2.2⟩
      by_cases h29 : op = 29
      · subst h29
        have c0 := cell_of_row _ _ 0 _ _ _ H1.out.1
        simp only [insV, insA, List.getElem?_toArray, List.getElem?_cons_zero, List.getElem?_cons_succ] at c0
        have z4 := H1.out.2.1.cell 4 (by omega)
        have f4 := H1.out.2.1.free 4
        have E1 : h1 = hup h0 4 := by rw [HH1.out]; unfold hsw; simp only [reduceIte, Int.reduceEq, or_self, or_false, or_true, false_or, true_or]
        have E1h := Lib.hid E1
        clear E1
        go_upto_region 28 with fail
        have H2 := Lib.hid (show RX w (wc.setCell ⟨w.heap.size + 1, 4, none⟩ (.bool true)) ⟨29, sz, cd, fr, d, s, ln⟩ h1 from E1h.out ▸ (H1.out.set 4 (by omega)))
        generalize (wc.setCell ⟨w.heap.size + 1, 4, none⟩ (.bool true)) = W2 at *
        go_wp2_with fail
        clear H1
        have O0 := Lib.hid (World.ownsRow_made (e := 3) (size := 1) (base := w.heap.size + 2) W2 #[] 0 H2.out.size (Nat.zero_le _) rfl)
        have H3 := Lib.hid (H2.out.alloc (.cells #[] 3))
        clear H2
        go_loopw [4, 5] (fun v i wr => ∃ k : Nat, i = .int .i64 (k : Int) ∧ k ≤ 16 ∧ Hid (wr.ownsRow (w.heap.size + 2) 3 1 v (regL h1 k).length ((regL h1 k).map (fun i => .int .i64 i))) ∧ Hid (RX w wr ⟨29, sz, cd, fr, d, s, ln⟩ h1)) (fun _ i _ => 16 - (intOf i).toNat)
        case atStart => exact ⟨0, rfl, Nat.zero_le _, O0, H3⟩
        case round =>
          obtain ⟨k, rfl, hk, HO, HR⟩ := hrel
          by_cases hlt : k < 16
          · have hk' : (k : Int) < 16 := by omega
            have z := HR.out.2.1.cell k hlt
            cases hb : h1 k
            · rw [hb] at z
              have HY := Lib.hid hb
              clear hb
              go_wp2
              go_roundw
              case rel => exact ⟨k + 1, by go_num, by omega, Lib.hid (by rw [regL_no HY.out]; exact HO.out), HR⟩
              case measure => simp [intOf]; omega
            · rw [hb] at z
              have HY := Lib.hid hb
              clear hb
              have HR1 := Lib.hid (HR.out.alloc (.cells #[.int .i64 (k : Int)] 3))
              have O1 := Lib.hid (own_alloc8 HO.out (.cells #[.int .i64 (k : Int)] 3))
              have HNW := Lib.hid (news8 wr (k : Int) 3)
              have HL := regL_len h1 k
              have hm1 : (regL h1 k).length + 1 ≤ maxLen := by unfold maxLen; omega
              have hm2 : ((regL h1 k).length + 1) * 8 ≤ 140737488355328 := by omega
              obtain ⟨i0, hi, hz0, hz1, hz2⟩ := info_parts rowInt8
              go_wp2_with (first | (at_builtin; refine wpList_append_own _ rfl (.tmp 67) (.tmp 69) 26 rfl (w.heap.size + 2) 3 i0 _ 1 8 Tryz.underlying26 hi hz0 hz1 hz2 rfl (by decide) _ _ _ rfl O1.out ⟨wr.heap.size, 0, none⟩ 1 1 [.int .i64 (k : Int)] rfl rfl HNW.out (one8 _) hm1 hm2 HR1.out.size ?_; intro v' w2 hown hgrow hnil))
              have HR2 := Lib.hid (HR1.out.grown hgrow (fun j hj => (HO.out.lt j hj).1))
              have HO2 := Lib.hid hown
              clear hown hgrow hnil
              go_roundw
              case rel => exact ⟨k + 1, by go_num, by omega, Lib.hid (by rw [regL_yes HY.out, List.map_append, List.length_append]; exact HO2.out), HR2⟩
              case measure => simp [intOf]; omega
          · obtain rfl : k = 16 := by omega
            go_wp2
            go_ret
            exact ⟨_, rfl, Joins.ownsRow_le HO.out (by omega), HR.out.2.2⟩
      by_cases h30 : op = 30
      · subst h30
        have c0 := cell_of_row _ _ 0 _ _ _ H1.out.1
        simp only [insV, insA, List.getElem?_toArray, List.getElem?_cons_zero, List.getElem?_cons_succ] at c0
        have z4 := H1.out.2.1.cell 4 (by omega)
        have f4 := H1.out.2.1.free 4
        have E1 : h1 = hup h0 4 := by rw [HH1.out]; unfold hsw; simp only [reduceIte, Int.reduceEq, or_self, or_false, or_true, false_or, true_or]
        have E1h := Lib.hid E1
        clear E1
        go_upto_region 28 with fail
        have H2 := Lib.hid (show RX w (wc.setCell ⟨w.heap.size + 1, 4, none⟩ (.bool true)) ⟨30, sz, cd, fr, d, s, ln⟩ h1 from E1h.out ▸ (H1.out.set 4 (by omega)))
        generalize (wc.setCell ⟨w.heap.size + 1, 4, none⟩ (.bool true)) = W2 at *
        go_wp2_with fail
        clear H1
        have O0 := Lib.hid (World.ownsRow_made (e := 3) (size := 1) (base := w.heap.size + 2) W2 #[] 0 H2.out.size (Nat.zero_le _) rfl)
        have H3 := Lib.hid (H2.out.alloc (.cells #[] 3))
        clear H2
        go_loopw [4, 5] (fun v i wr => ∃ k : Nat, i = .int .i64 (k : Int) ∧ k ≤ 16 ∧ Hid (wr.ownsRow (w.heap.size + 2) 3 1 v (regL h1 k).length ((regL h1 k).map (fun i => .int .i64 i))) ∧ Hid (RX w wr ⟨30, sz, cd, fr, d, s, ln⟩ h1)) (fun _ i _ => 16 - (intOf i).toNat)
        case atStart => exact ⟨0, rfl, Nat.zero_le _, O0, H3⟩
        case round =>
          obtain ⟨k, rfl, hk, HO, HR⟩ := hrel
          by_cases hlt : k < 16
          · have hk' : (k : Int) < 16 := by omega
            have z := HR.out.2.1.cell k hlt
            cases hb : h1 k
            · rw [hb] at z
              have HY := Lib.hid hb
              clear hb
              go_wp2
              go_roundw
              case rel => exact ⟨k + 1, by go_num, by omega, Lib.hid (by rw [regL_no HY.out]; exact HO.out), HR⟩
              case measure => simp [intOf]; omega
            · rw [hb] at z
              have HY := Lib.hid hb
              clear hb
              have HR1 := Lib.hid (HR.out.alloc (.cells #[.int .i64 (k : Int)] 3))
              have O1 := Lib.hid (own_alloc8 HO.out (.cells #[.int .i64 (k : Int)] 3))
              have HNW := Lib.hid (news8 wr (k : Int) 3)
              have HL := regL_len h1 k
              have hm1 : (regL h1 k).length + 1 ≤ maxLen := by unfold maxLen; omega
              have hm2 : ((regL h1 k).length + 1) * 8 ≤ 140737488355328 := by omega
              obtain ⟨i0, hi, hz0, hz1, hz2⟩ := info_parts rowInt8
              go_wp2_with (first | (at_builtin; refine wpList_append_own _ rfl (.tmp 67) (.tmp 69) 26 rfl (w.heap.size + 2) 3 i0 _ 1 8 Tryz.underlying26 hi hz0 hz1 hz2 rfl (by decide) _ _ _ rfl O1.out ⟨wr.heap.size, 0, none⟩ 1 1 [.int .i64 (k : Int)] rfl rfl HNW.out (one8 _) hm1 hm2 HR1.out.size ?_; intro v' w2 hown hgrow hnil))
              have HR2 := Lib.hid (HR1.out.grown hgrow (fun j hj => (HO.out.lt j hj).1))
              have HO2 := Lib.hid hown
              clear hown hgrow hnil
              go_roundw
              case rel => exact ⟨k + 1, by go_num, by omega, Lib.hid (by rw [regL_yes HY.out, List.map_append, List.length_append]; exact HO2.out), HR2⟩
              case measure => simp [intOf]; omega
          · obtain rfl : k = 16 := by omega
            go_wp2
            go_ret
            exact ⟨_, rfl, Joins.ownsRow_le HO.out (by omega), HR.out.2.2⟩
      by_cases h31 : op = 31
      · subst h31
        have c0 := cell_of_row _ _ 0 _ _ _ H1.out.1
        simp only [insV, insA, List.getElem?_toArray, List.getElem?_cons_zero, List.getElem?_cons_succ] at c0
        have z4 := H1.out.2.1.cell 4 (by omega)
        have f4 := H1.out.2.1.free 4
        have E1 : h1 = hup h0 4 := by rw [HH1.out]; unfold hsw; simp only [reduceIte, Int.reduceEq, or_self, or_false, or_true, false_or, true_or]
        have E1h := Lib.hid E1
        clear E1
        go_upto_region 28 with fail
        have H2 := Lib.hid (show RX w (wc.setCell ⟨w.heap.size + 1, 4, none⟩ (.bool true)) ⟨31, sz, cd, fr, d, s, ln⟩ h1 from E1h.out ▸ (H1.out.set 4 (by omega)))
        generalize (wc.setCell ⟨w.heap.size + 1, 4, none⟩ (.bool true)) = W2 at *
        go_wp2_with fail
        clear H1
        have O0 := Lib.hid (World.ownsRow_made (e := 3) (size := 1) (base := w.heap.size + 2) W2 #[] 0 H2.out.size (Nat.zero_le _) rfl)
        have H3 := Lib.hid (H2.out.alloc (.cells #[] 3))
        clear H2
        go_loopw [4, 5] (fun v i wr => ∃ k : Nat, i = .int .i64 (k : Int) ∧ k ≤ 16 ∧ Hid (wr.ownsRow (w.heap.size + 2) 3 1 v (regL h1 k).length ((regL h1 k).map (fun i => .int .i64 i))) ∧ Hid (RX w wr ⟨31, sz, cd, fr, d, s, ln⟩ h1)) (fun _ i _ => 16 - (intOf i).toNat)
        case atStart => exact ⟨0, rfl, Nat.zero_le _, O0, H3⟩
        case round =>
          obtain ⟨k, rfl, hk, HO, HR⟩ := hrel
          by_cases hlt : k < 16
          · have hk' : (k : Int) < 16 := by omega
            have z := HR.out.2.1.cell k hlt
            cases hb : h1 k
            · rw [hb] at z
              have HY := Lib.hid hb
              clear hb
              go_wp2
              go_roundw
              case rel => exact ⟨k + 1, by go_num, by omega, Lib.hid (by rw [regL_no HY.out]; exact HO.out), HR⟩
              case measure => simp [intOf]; omega
            · rw [hb] at z
              have HY := Lib.hid hb
              clear hb
              have HR1 := Lib.hid (HR.out.alloc (.cells #[.int .i64 (k : Int)] 3))
              have O1 := Lib.hid (own_alloc8 HO.out (.cells #[.int .i64 (k : Int)] 3))
              have HNW := Lib.hid (news8 wr (k : Int) 3)
              have HL := regL_len h1 k
              have hm1 : (regL h1 k).length + 1 ≤ maxLen := by unfold maxLen; omega
              have hm2 : ((regL h1 k).length + 1) * 8 ≤ 140737488355328 := by omega
              obtain ⟨i0, hi, hz0, hz1, hz2⟩ := info_parts rowInt8
              go_wp2_with (first | (at_builtin; refine wpList_append_own _ rfl (.tmp 67) (.tmp 69) 26 rfl (w.heap.size + 2) 3 i0 _ 1 8 Tryz.underlying26 hi hz0 hz1 hz2 rfl (by decide) _ _ _ rfl O1.out ⟨wr.heap.size, 0, none⟩ 1 1 [.int .i64 (k : Int)] rfl rfl HNW.out (one8 _) hm1 hm2 HR1.out.size ?_; intro v' w2 hown hgrow hnil))
              have HR2 := Lib.hid (HR1.out.grown hgrow (fun j hj => (HO.out.lt j hj).1))
              have HO2 := Lib.hid hown
              clear hown hgrow hnil
              go_roundw
              case rel => exact ⟨k + 1, by go_num, by omega, Lib.hid (by rw [regL_yes HY.out, List.map_append, List.length_append]; exact HO2.out), HR2⟩
              case measure => simp [intOf]; omega
          · obtain rfl : k = 16 := by omega
            go_wp2
            go_ret
            exact ⟨_, rfl, Joins.ownsRow_le HO.out (by omega), HR.out.2.2⟩
      by_cases h34 : op = 34
      · subst h34
        have c0 := cell_of_row _ _ 0 _ _ _ H1.out.1
        simp only [insV, insA, List.getElem?_toArray, List.getElem?_cons_zero, List.getElem?_cons_succ] at c0
        have z4 := H1.out.2.1.cell 4 (by omega)
        have f4 := H1.out.2.1.free 4
        have E1 : h1 = hup h0 4 := by rw [HH1.out]; unfold hsw; simp only [reduceIte, Int.reduceEq, or_self, or_false, or_true, false_or, true_or]
        have E1h := Lib.hid E1
        clear E1
        go_upto_region 28 with fail
        have H2 := Lib.hid (show RX w (wc.setCell ⟨w.heap.size + 1, 4, none⟩ (.bool true)) ⟨34, sz, cd, fr, d, s, ln⟩ h1 from E1h.out ▸ (H1.out.set 4 (by omega)))
        generalize (wc.setCell ⟨w.heap.size + 1, 4, none⟩ (.bool true)) = W2 at *
        go_wp2_with fail
        clear H1
        have O0 := Lib.hid (World.ownsRow_made (e := 3) (size := 1) (base := w.heap.size + 2) W2 #[] 0 H2.out.size (Nat.zero_le _) rfl)
        have H3 := Lib.hid (H2.out.alloc (.cells #[] 3))
        clear H2
        go_loopw [4, 5] (fun v i wr => ∃ k : Nat, i = .int .i64 (k : Int) ∧ k ≤ 16 ∧ Hid (wr.ownsRow (w.heap.size + 2) 3 1 v (regL h1 k).length ((regL h1 k).map (fun i => .int .i64 i))) ∧ Hid (RX w wr ⟨34, sz, cd, fr, d, s, ln⟩ h1)) (fun _ i _ => 16 - (intOf i).toNat)
        case atStart => exact ⟨0, rfl, Nat.zero_le _, O0, H3⟩
        case round =>
          obtain ⟨k, rfl, hk, HO, HR⟩ := hrel
          by_cases hlt : k < 16
          · have hk' : (k : Int) < 16 := by omega
            have z := HR.out.2.1.cell k hlt
            cases hb : h1 k
            · rw [hb] at z
              have HY := Lib.hid hb
              clear hb
              go_wp2
              go_roundw
              case rel => exact ⟨k + 1, by go_num, by omega, Lib.hid (by rw [regL_no HY.out]; exact HO.out), HR⟩
              case measure => simp [intOf]; omega
            · rw [hb] at z
              have HY := Lib.hid hb
              clear hb
              have HR1 := Lib.hid (HR.out.alloc (.cells #[.int .i64 (k : Int)] 3))
              have O1 := Lib.hid (own_alloc8 HO.out (.cells #[.int .i64 (k : Int)] 3))
              have HNW := Lib.hid (news8 wr (k : Int) 3)
              have HL := regL_len h1 k
              have hm1 : (regL h1 k).length + 1 ≤ maxLen := by unfold maxLen; omega
              have hm2 : ((regL h1 k).length + 1) * 8 ≤ 140737488355328 := by omega
              obtain ⟨i0, hi, hz0, hz1, hz2⟩ := info_parts rowInt8
              go_wp2_with (first | (at_builtin; refine wpList_append_own _ rfl (.tmp 67) (.tmp 69) 26 rfl (w.heap.size + 2) 3 i0 _ 1 8 Tryz.underlying26 hi hz0 hz1 hz2 rfl (by decide) _ _ _ rfl O1.out ⟨wr.heap.size, 0, none⟩ 1 1 [.int .i64 (k : Int)] rfl rfl HNW.out (one8 _) hm1 hm2 HR1.out.size ?_; intro v' w2 hown hgrow hnil))
              have HR2 := Lib.hid (HR1.out.grown hgrow (fun j hj => (HO.out.lt j hj).1))
              have HO2 := Lib.hid hown
              clear hown hgrow hnil
              go_roundw
              case rel => exact ⟨k + 1, by go_num, by omega, Lib.hid (by rw [regL_yes HY.out, List.map_append, List.length_append]; exact HO2.out), HR2⟩
              case measure => simp [intOf]; omega
          · obtain rfl : k = 16 := by omega
            go_wp2
            go_ret
            exact ⟨_, rfl, Joins.ownsRow_le HO.out (by omega), HR.out.2.2⟩
      have c0 := cell_of_row _ _ 0 _ _ _ H1.out.1
      simp only [insV, insA, List.getElem?_toArray, List.getElem?_cons_zero, List.getElem?_cons_succ] at c0
      have E1 : h1 = h0 := by rw [HH1.out]; unfold hsw; simp only [h28, h13, h14, h15, h16, h39, h40, h41, h42, h29, h30, h31, h34, reduceIte, or_self]
      have E1h := Lib.hid E1
      clear E1
      have g28 : (op == 28) = false := beq_eq_false_iff_ne.mpr h28
      have g13 : (op == 13) = false := beq_eq_false_iff_ne.mpr h13
      have g14 : (op == 14) = false := beq_eq_false_iff_ne.mpr h14
      have g15 : (op == 15) = false := beq_eq_false_iff_ne.mpr h15
      have g16 : (op == 16) = false := beq_eq_false_iff_ne.mpr h16
      have g39 : (op == 39) = false := beq_eq_false_iff_ne.mpr h39
      have g40 : (op == 40) = false := beq_eq_false_iff_ne.mpr h40
      have g41 : (op == 41) = false := beq_eq_false_iff_ne.mpr h41
      have g42 : (op == 42) = false := beq_eq_false_iff_ne.mpr h42
      have g29 : (op == 29) = false := beq_eq_false_iff_ne.mpr h29
      have g30 : (op == 30) = false := beq_eq_false_iff_ne.mpr h30
      have g31 : (op == 31) = false := beq_eq_false_iff_ne.mpr h31
      have g34 : (op == 34) = false := beq_eq_false_iff_ne.mpr h34
      clear h28 h13 h14 h15 h16 h39 h40 h41 h42 h29 h30 h31 h34
      go_upto_region 28 with fail
      have H2 := Lib.hid (show RX w wc ⟨op, sz, cd, fr, d, s, ln⟩ h1 from E1h.out ▸ H1.out)
      generalize wc = W2 at *
      go_wp2_with fail
      clear H1
      have O0 := Lib.hid (World.ownsRow_made (e := 3) (size := 1) (base := w.heap.size + 2) W2 #[] 0 H2.out.size (Nat.zero_le _) rfl)
      have H3 := Lib.hid (H2.out.alloc (.cells #[] 3))
      clear H2
      go_loopw [4, 5] (fun v i wr => ∃ k : Nat, i = .int .i64 (k : Int) ∧ k ≤ 16 ∧ Hid (wr.ownsRow (w.heap.size + 2) 3 1 v (regL h1 k).length ((regL h1 k).map (fun i => .int .i64 i))) ∧ Hid (RX w wr ⟨op, sz, cd, fr, d, s, ln⟩ h1)) (fun _ i _ => 16 - (intOf i).toNat)
      case atStart => exact ⟨0, rfl, Nat.zero_le _, O0, H3⟩
      case round =>
        obtain ⟨k, rfl, hk, HO, HR⟩ := hrel
        by_cases hlt : k < 16
        · have hk' : (k : Int) < 16 := by omega
          have z := HR.out.2.1.cell k hlt
          cases hb : h1 k
          · rw [hb] at z
            have HY := Lib.hid hb
            clear hb
            go_wp2
            go_roundw
            case rel => exact ⟨k + 1, by go_num, by omega, Lib.hid (by rw [regL_no HY.out]; exact HO.out), HR⟩
            case measure => simp [intOf]; omega
          · rw [hb] at z
            have HY := Lib.hid hb
            clear hb
            have HR1 := Lib.hid (HR.out.alloc (.cells #[.int .i64 (k : Int)] 3))
            have O1 := Lib.hid (own_alloc8 HO.out (.cells #[.int .i64 (k : Int)] 3))
            have HNW := Lib.hid (news8 wr (k : Int) 3)
            have HL := regL_len h1 k
            have hm1 : (regL h1 k).length + 1 ≤ maxLen := by unfold maxLen; omega
            have hm2 : ((regL h1 k).length + 1) * 8 ≤ 140737488355328 := by omega
            obtain ⟨i0, hi, hz0, hz1, hz2⟩ := info_parts rowInt8
            go_wp2_with (first | (at_builtin; refine wpList_append_own _ rfl (.tmp 67) (.tmp 69) 26 rfl (w.heap.size + 2) 3 i0 _ 1 8 Tryz.underlying26 hi hz0 hz1 hz2 rfl (by decide) _ _ _ rfl O1.out ⟨wr.heap.size, 0, none⟩ 1 1 [.int .i64 (k : Int)] rfl rfl HNW.out (one8 _) hm1 hm2 HR1.out.size ?_; intro v' w2 hown hgrow hnil))
            have HR2 := Lib.hid (HR1.out.grown hgrow (fun j hj => (HO.out.lt j hj).1))
            have HO2 := Lib.hid hown
            clear hown hgrow hnil
            go_roundw
            case rel => exact ⟨k + 1, by go_num, by omega, Lib.hid (by rw [regL_yes HY.out, List.map_append, List.length_append]; exact HO2.out), HR2⟩
            case measure => simp [intOf]; omega
        · obtain rfl : k = 16 := by omega
          go_wp2
          go_ret
          exact ⟨_, rfl, Joins.ownsRow_le HO.out (by omega), HR.out.2.2⟩
end Go.Proofs.YtjnjlgaemmdkhaaGreatDoor
