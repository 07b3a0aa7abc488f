/-
  What reg, imm, size of the specification's decoder, and l04HasModRM, l04Prefix, l04Wide, l04Suits, l04One do; conditions: those in each head.
  Steps of a walk: a world forgotten but for what is said of it, a call by its contract, the operations of a region that draws its order; no condition but those in each head.
  An instruction's block, and what the specification's l04One does: it puts an operand into an instruction; conditions: those in each head.
-/
import Derived.Test.YtinjpobepcenfaaDoorWalkIn
import Derived.Test.YtinjpobepcenfaaDoorWalkDec
import Derived.Laws.ResultCell
import Derived.Deep.MidRow
import Derived.Deep.Cut
import Derived.Deep.CutRange
import Derived.Deep.RegionHeld3
import Derived.Great.Walk
import Derived.Great.BuildSlice
namespace Go.Proofs.YtinjpobepcenfaaDoor
open Go.RowKit Go.Sort
set_option linter.unusedVariables false
set_option maxHeartbeats 1000000 in
theorem sRegC (g r : Nat) (sz : Int) (I : In) (W0 w : World) (h : IAt W0 w g I) (hl : r < 4096) :
    Calls Tryd.prog 86 #[.pointer (some ⟨g, 0, none⟩), .int .i64 (r : Int), .int .i64 sz] w fun e w' => e = .returned (V7 (bReg r sz I.x)) ∧ Below w.heap.size w w' := by
  have c2 := h.rb.cell 2
  simp only [inA, List.getElem?_toArray, List.getElem?_cons_zero, List.getElem?_cons_succ] at c2
  have hlt := h.lt
  have hl' : (r : Int) < 4096 := by omega
  clear h
  by_cases hu : sz = 1 ∧ I.x = 0 ∧ 4 ≤ r
  · have HE := Lib.hid (bReg_up hu)
    obtain ⟨h1, h2, h3⟩ := hu
    subst h1
    rw [h2] at c2
    have h3' : (4 : Int) ≤ r := by omega
    clear h2 h3 hl
    go_enter Tryd.func86, Tryd.ntmps86
    go_wp2
    refine bodyPost_ret (v := .agg (opdL (regOpd ((r : Int) + 12))).toArray) (by exact results_cell_row Tryd.results86 _ _ w.heap.size 25 (opdL (regOpd ((r : Int) + 12))).toArray (0, 0) _ rfl (heap_alloc_new w _) Tryd.underlying25 rfl (by kernel_rfl)) (by rfl) ⟨ret_op HE.out.symm, (Below.refl _ _).alloc (Nat.le_refl _) _⟩
  · have HE := Lib.hid (bReg_no hu)
    by_cases h1 : sz = 1
    · subst h1
      by_cases h2 : I.x = 0
      · rw [h2] at c2
        have h3 : ¬ (4 : Int) ≤ r := by omega
        clear hu h2 hl
        go_enter Tryd.func86, Tryd.ntmps86
        go_wp2
        refine bodyPost_ret (v := .agg (opdL (regOpd (r : Int))).toArray) (by exact results_cell_row Tryd.results86 _ _ w.heap.size 25 (opdL (regOpd (r : Int))).toArray (0, 0) _ rfl (heap_alloc_new w _) Tryd.underlying25 rfl (by kernel_rfl)) (by rfl) ⟨ret_op HE.out.symm, (Below.refl _ _).alloc (Nat.le_refl _) _⟩
      · have h3 : ((I.x : Int) == 0) = false := beq_eq_false_iff_ne.mpr (by omega)
        clear hu h2 hl
        go_enter Tryd.func86, Tryd.ntmps86
        go_wp2
        refine bodyPost_ret (v := .agg (opdL (regOpd (r : Int))).toArray) (by exact results_cell_row Tryd.results86 _ _ w.heap.size 25 (opdL (regOpd (r : Int))).toArray (0, 0) _ rfl (heap_alloc_new w _) Tryd.underlying25 rfl (by kernel_rfl)) (by rfl) ⟨ret_op HE.out.symm, (Below.refl _ _).alloc (Nat.le_refl _) _⟩
    · have h3 : (sz == 1) = false := beq_eq_false_iff_ne.mpr h1
      clear hu h1 hl
      go_enter Tryd.func86, Tryd.ntmps86
      go_wp2
      refine bodyPost_ret (v := .agg (opdL (regOpd (r : Int))).toArray) (by exact results_cell_row Tryd.results86 _ _ w.heap.size 25 (opdL (regOpd (r : Int))).toArray (0, 0) _ rfl (heap_alloc_new w _) Tryd.underlying25 rfl (by kernel_rfl)) (by rfl) ⟨ret_op HE.out.symm, (Below.refl _ _).alloc (Nat.le_refl _) _⟩
set_option maxHeartbeats 1000000 in
theorem sImmC (g k : Nat) (sz : Int) (I : In) (W0 w : World) (h : IAt W0 w g I) (hs : min sz 4 = (k : Int)) (hk : okSize (k : Int)) :
    Calls Tryd.prog 89 #[.pointer (some ⟨g, 0, none⟩), .int .i64 sz] w fun e w' => e = .returned (V7 (immS I k).1) ∧ IWr W0 w w' g (immS I k).2 := by
  have C := Lib.hid (fun W h => numC g k I W0 W h hk)
  have H := Lib.hid h
  have A0 := Lib.hid (h.alloc (.cells #[.int .i64 0, .int .i64 0, .int .i64 0, .int .i64 0, .int .i64 0, .int .i64 0, .int .i64 0] 25))
  clear h
  go_enter Tryd.func89, Tryd.ntmps89
  go_wp2_with fail
  refine Calls.mono (C.out _ A0.out) ?_
  rintro e w1 ⟨rfl, h1⟩
  have HZ := Lib.hid ((Zo.new w).ch h1.2 (izne H.out))
  have H1 := Lib.hid (IWr.row (cs := (opdL (immOpd (numV I k))).toArray) H.out (IWr.pre (bel_alloc w _) h1))
  clear h1
  go_wp2_with (refine wpList_store_row rfl 25 (.tmp 4) (.tmp 9) rfl w.heap.size (opdL (immOpd (numV I k))).toArray rfl rfl 25 _ HZ.out (by kernel_rfl) rfl (opd_one _) ?_)
  refine bodyPost_ret (v := .agg (opdL (immOpd (numV I k))).toArray) (by exact results_cell_row Tryd.results89 _ _ w.heap.size 25 (opdL (immOpd (numV I k))).toArray (0, 0) _ rfl (setRow_heap _ _ _ _ _ _ HZ.out) Tryd.underlying25 rfl (by kernel_rfl)) (by rfl) ⟨rfl, H1.out⟩
theorem opF' {x : Int} (k : Int) (h : x ≠ k) : (x == k) = false := beq_eq_false_iff_ne.mpr h
theorem sHasMYes (f : Int) (w : World) (h : hasM f) : Calls Tryd.prog 47 #[.int .i64 f] w fun e w' => e = .returned (.bool true) ∧ w' = w := by
  unfold hasM at h
  rcases h with rfl | rfl | rfl | rfl | rfl | rfl | rfl | rfl | rfl
  all_goals
    go_enter Tryd.func47, Tryd.ntmps47
    go_wp2
    go_ret
    exact ⟨rfl, rfl⟩
theorem sHasMNo (f : Int) (w : World) (h : ¬ hasM f) : Calls Tryd.prog 47 #[.int .i64 f] w fun e w' => e = .returned (.bool false) ∧ w' = w := by
  unfold hasM at h
  have n1 := opF' 1 (fun e : f = 1 => h (by simp [e])); have n2 := opF' 2 (fun e : f = 2 => h (by simp [e])); have n4 := opF' 4 (fun e : f = 4 => h (by simp [e])); have n5 := opF' 5 (fun e : f = 5 => h (by simp [e])); have n6 := opF' 6 (fun e : f = 6 => h (by simp [e])); have n11 := opF' 11 (fun e : f = 11 => h (by simp [e])); have n12 := opF' 12 (fun e : f = 12 => h (by simp [e])); have n13 := opF' 13 (fun e : f = 13 => h (by simp [e])); have n17 := opF' 17 (fun e : f = 17 => h (by simp [e]))
  clear h
  go_enter Tryd.func47, Tryd.ntmps47
  go_wp2
  go_ret
  exact ⟨rfl, rfl⟩
theorem sPreYes (b : Nat) (w : World) (h : isPre b) : Calls Tryd.prog 80 #[.int .i64 (b : Int)] w fun e w' => e = .returned (.bool true) ∧ w' = w := by
  unfold isPre at h
  rcases h with rfl | rfl | rfl | rfl | rfl | rfl | rfl | rfl | rfl | rfl
  all_goals
    go_enter Tryd.func80, Tryd.ntmps80
    go_wp2
    go_ret
    exact ⟨rfl, rfl⟩
theorem sPreNo (b : Nat) (w : World) (h : ¬ isPre b) : Calls Tryd.prog 80 #[.int .i64 (b : Int)] w fun e w' => e = .returned (.bool false) ∧ w' = w := by
  unfold isPre at h
  have n1 := neq 38 (fun e : b = 38 => h (by simp [e])); have n2 := neq 46 (fun e : b = 46 => h (by simp [e])); have n3 := neq 54 (fun e : b = 54 => h (by simp [e])); have n4 := neq 62 (fun e : b = 62 => h (by simp [e])); have n5 := neq 100 (fun e : b = 100 => h (by simp [e])); have n6 := neq 101 (fun e : b = 101 => h (by simp [e])); have n7 := neq 103 (fun e : b = 103 => h (by simp [e])); have n8 := neq 240 (fun e : b = 240 => h (by simp [e])); have n9 := neq 242 (fun e : b = 242 => h (by simp [e])); have n10 := neq 243 (fun e : b = 243 => h (by simp [e]))
  simp only [Int.cast_ofNat_Int] at n1 n2 n3 n4 n5 n6 n7 n8 n9 n10
  clear h
  go_enter Tryd.func80, Tryd.ntmps80
  go_wp2
  go_ret
  exact ⟨rfl, rfl⟩
def sizeW (I : In) (z : Shp) (op : Int) : Int := if (fixD op z.y).2 = true then (fixD op z.y).1 else if I.x / 2 ^ 3 % 2 = 1 then 8 else if I.w = true then 2 else 4
theorem fixD_0 {op : Int} (y : Bool) (h : op = 33 ∨ op = 34 ∨ op = 37 ∨ op = 38 ∨ op = 43 ∨ op = 44) : fixD op y = (0, true) := by
  unfold fixD; rw [if_neg (by omega), if_pos h]
set_option maxHeartbeats 1000000 in
theorem sSizeC (g : Nat) (I : In) (z : Shp) (op : Int) (W0 w : World) (h : IAt W0 w g I) :
    Calls Tryd.prog 51 #[.pointer (some ⟨g, 0, none⟩), shpV z, .int .i64 op] w fun e w' => e = .returned (.int .i64 (sizeW I z op)) ∧ Below w.heap.size w w' := by
  obtain ⟨zo, zf, zg, zy, zr⟩ := z
  have c2 := h.rb.cell 2; have c3 := h.rb.cell 3
  simp only [inA, List.getElem?_toArray, List.getElem?_cons_zero, List.getElem?_cons_succ] at c2 c3
  have hlt := h.lt
  have hX : IntKind.u64.wrap (I.x : Int) = (I.x : Int) := by have := h.x8; rw [wrapU]; omega
  have CB := fun w => bitC (I.x : Int) I.x 3 w hX (by decide)
  have hbit : I.x / 2 ^ 3 % 2 = 0 ∨ I.x / 2 ^ 3 % 2 = 1 := by omega
  unfold shpV sizeW
  simp only
  clear h
  by_cases h8 : op = 29 ∨ op = 30 ∨ op = 31 ∨ op = 32
  · rw [fixD_8 zy h8]
    simp only [if_true]
    clear CB hbit hX
    rcases h8 with rfl | rfl | rfl | rfl
    all_goals
      go_enter Tryd.func51, Tryd.ntmps51
      go_wp2
      go_ret
      exact ⟨rfl, (Below.refl _ _).alloc (Nat.le_refl _) _⟩
  · by_cases h0 : op = 33 ∨ op = 34 ∨ op = 37 ∨ op = 38 ∨ op = 43 ∨ op = 44
    · rw [fixD_0 zy h0]
      simp only [if_true]
      clear CB hbit hX
      rcases h0 with rfl | rfl | rfl | rfl | rfl | rfl
      all_goals
        clear h8
        go_enter Tryd.func51, Tryd.ntmps51
        go_wp2
        go_ret
        exact ⟨rfl, (Below.refl _ _).alloc (Nat.le_refl _) _⟩
    · rw [fixD_1 zy h8 h0]
      obtain ⟨n1, n2, n3, n4, n5, n6, n7, n8, n9, n10⟩ : (op == 29) = false ∧ (op == 30) = false ∧ (op == 31) = false ∧ (op == 32) = false ∧ (op == 33) = false ∧ (op == 34) = false ∧ (op == 37) = false ∧ (op == 38) = false ∧ (op == 43) = false ∧ (op == 44) = false := by
        simp only [beq_eq_false_iff_ne]; omega
      clear h8 h0 hX
      cases zy
      · simp only [Bool.false_eq_true, if_false]
        rcases hbit with hb | hb
        · rw [hb] at CB ⊢
          have C := Lib.hid CB
          clear CB hb
          simp only [show ((0 : Nat) = 1) = False from by decide, if_false]
          rcases Bool.eq_false_or_eq_true I.w with hw | hw
          · rw [hw] at c3 ⊢
            simp only [if_true]
            clear hw
            go_enter Tryd.func51, Tryd.ntmps51
            go_wp2_with (go_at_call 84; refine (C.out _).mono ?_; rintro e w' ⟨rfl, rfl⟩)
            go_ret
            exact ⟨rfl, (Below.refl _ _).alloc (Nat.le_refl _) _⟩
          · rw [hw] at c3 ⊢
            simp only [Bool.false_eq_true, if_false]
            clear hw
            go_enter Tryd.func51, Tryd.ntmps51
            go_wp2_with (go_at_call 84; refine (C.out _).mono ?_; rintro e w' ⟨rfl, rfl⟩)
            go_ret
            exact ⟨rfl, (Below.refl _ _).alloc (Nat.le_refl _) _⟩
        · rw [hb] at CB ⊢
          have C := Lib.hid CB
          clear CB hb
          simp only [if_true]
          go_enter Tryd.func51, Tryd.ntmps51
          go_wp2_with (go_at_call 84; refine (C.out _).mono ?_; rintro e w' ⟨rfl, rfl⟩)
          go_ret
          exact ⟨rfl, (Below.refl _ _).alloc (Nat.le_refl _) _⟩
      · simp only [if_true]
        clear CB hbit
        go_enter Tryd.func51, Tryd.ntmps51
        go_wp2
        go_ret
        exact ⟨rfl, (Below.refl _ _).alloc (Nat.le_refl _) _⟩
set_option maxHeartbeats 1000000 in
theorem sWideC (z : Shp) (op : Int) (w : World) :
    Calls Tryd.prog 85 #[shpV z, .int .i64 op] w fun e w' => e = .returned (.bool (!(fixD op z.y).2)) ∧ Below w.heap.size w w' := by
  obtain ⟨zo, zf, zg, zy, zr⟩ := z
  unfold shpV
  simp only
  by_cases h8 : (op = 29 ∨ op = 30 ∨ op = 31 ∨ op = 32) ∨ (op = 33 ∨ op = 34 ∨ op = 37 ∨ op = 38 ∨ op = 43 ∨ op = 44)
  · have e : (fixD op zy).2 = true := by
      rcases h8 with h | h
      · rw [fixD_8 zy h]
      · rw [fixD_0 zy h]
    rw [e]
    clear e
    rcases h8 with (rfl | rfl | rfl | rfl) | (rfl | rfl | rfl | rfl | rfl | rfl)
    all_goals
      go_enter Tryd.func85, Tryd.ntmps85
      go_wp2
      go_ret
      exact ⟨rfl, (Below.refl _ _).alloc (Nat.le_refl _) _⟩
  · rw [fixD_1 zy (fun e => h8 (.inl e)) (fun e => h8 (.inr e))]
    obtain ⟨n1, n2, n3, n4, n5, n6, n7, n8, n9, n10⟩ : (op == 29) = false ∧ (op == 30) = false ∧ (op == 31) = false ∧ (op == 32) = false ∧ (op == 33) = false ∧ (op == 34) = false ∧ (op == 37) = false ∧ (op == 38) = false ∧ (op == 43) = false ∧ (op == 44) = false := by
      simp only [beq_eq_false_iff_ne]; omega
    clear h8
    go_enter Tryd.func85, Tryd.ntmps85
    go_wp2
    go_ret
    exact ⟨rfl, (Below.refl _ _).alloc (Nat.le_refl _) _⟩
/-- whether sizes suit -/
def suitB (z : Shp) (op sz : Int) (wd : Bool) : Bool := !(wd && (fixD op z.y).2) && (if z.r = 4 then sz == 8 else if z.r = 0 then true else decide (z.r < sz))
set_option maxHeartbeats 2000000 in
theorem sSuitsC (z : Shp) (op sz cd fr ln : Int) (d s : Opd) (wd : Bool) (w : World) :
    Calls Tryd.prog 52 #[.agg (insA op sz cd fr d s ln), shpV z, .bool wd] w fun e w' => e = .returned (.bool (suitB z op sz wd)) ∧ Below w.heap.size w w' := by
  obtain ⟨zo, zf, zg, zy, zr⟩ := z
  have CW := Lib.hid (sWideC ⟨zo, zf, zg, zy, zr⟩ op)
  unfold suitB
  unfold shpV insA at *
  simp only at CW ⊢
  have BW := Lib.hid (fun (W : World) (hb : Below (w.heap.size + 1 + 1) (((w.alloc (.cells #[.int .i64 op, .int .i64 sz, .int .i64 cd, .int .i64 fr, .int .i64 d.k, .int .i64 d.r, .int .i64 d.b, .int .i64 d.i, .int .i64 d.s, .int .i64 d.d, .int .i64 d.m, .int .i64 s.k, .int .i64 s.r, .int .i64 s.b, .int .i64 s.i, .int .i64 s.s, .int .i64 s.d, .int .i64 s.m, .int .i64 ln] 29)).alloc (.cells #[.int .i64 zo, .int .i64 zf, .int .i64 zg, .bool zy, .int .i64 zr] 55))) W) => (((Below.refl w.heap.size w).alloc (Nat.le_refl _) (.cells #[.int .i64 op, .int .i64 sz, .int .i64 cd, .int .i64 fr, .int .i64 d.k, .int .i64 d.r, .int .i64 d.b, .int .i64 d.i, .int .i64 d.s, .int .i64 d.d, .int .i64 d.m, .int .i64 s.k, .int .i64 s.r, .int .i64 s.b, .int .i64 s.i, .int .i64 s.s, .int .i64 s.d, .int .i64 s.m, .int .i64 ln] 29)).alloc (by simp) (.cells #[.int .i64 zo, .int .i64 zf, .int .i64 zg, .bool zy, .int .i64 zr] 55)).trans (hb.mono (by omega)))
  have hlt : w.heap.size < w.heap.size + 1 + 1 := by omega
  cases wd
  · simp only [Bool.false_and, Bool.not_false, Bool.true_and]
    by_cases h4 : zr = 4
    · subst h4
      simp only [if_true]
      go_enter Tryd.func52, Tryd.ntmps52
      go_wp2
      go_ret
      refine ⟨rfl, ?_⟩
      have := BW.out _ (Below.refl _ _)
      simpa using this
    · simp only [if_neg h4]
      have n4 : (zr == 4) = false := beq_eq_false_iff_ne.mpr h4
      by_cases h0 : zr = 0
      · subst h0
        simp only [if_true]
        clear h4 n4
        go_enter Tryd.func52, Tryd.ntmps52
        go_wp2
        go_ret
        refine ⟨rfl, ?_⟩
        have := BW.out _ (Below.refl _ _)
        simpa using this
      · simp only [if_neg h0]
        have n0 : (zr == 0) = false := beq_eq_false_iff_ne.mpr h0
        clear h4 h0
        go_enter Tryd.func52, Tryd.ntmps52
        go_wp2
        go_ret
        refine ⟨rfl, ?_⟩
        have := BW.out _ (Below.refl _ _)
        simpa using this
  · simp only [Bool.true_and]
    have X1 : Hid (((w.alloc (.cells #[.int .i64 op, .int .i64 sz, .int .i64 cd, .int .i64 fr, .int .i64 d.k, .int .i64 d.r, .int .i64 d.b, .int .i64 d.i, .int .i64 d.s, .int .i64 d.d, .int .i64 d.m, .int .i64 s.k, .int .i64 s.r, .int .i64 s.b, .int .i64 s.i, .int .i64 s.s, .int .i64 s.d, .int .i64 s.m, .int .i64 ln] 29)).alloc (.cells #[.int .i64 zo, .int .i64 zf, .int .i64 zg, .bool zy, .int .i64 zr] 55)).cell? ⟨w.heap.size, 1, none⟩ = some (.int .i64 sz)) := Lib.hid (by rw [World.cell?_alloc_lt _ _ _ (by simp)]; exact box5 w _ _ 1)
    have Z4 : Hid (((w.alloc (.cells #[.int .i64 op, .int .i64 sz, .int .i64 cd, .int .i64 fr, .int .i64 d.k, .int .i64 d.r, .int .i64 d.b, .int .i64 d.i, .int .i64 d.s, .int .i64 d.d, .int .i64 d.m, .int .i64 s.k, .int .i64 s.r, .int .i64 s.b, .int .i64 s.i, .int .i64 s.s, .int .i64 s.d, .int .i64 s.m, .int .i64 ln] 29)).alloc (.cells #[.int .i64 zo, .int .i64 zf, .int .i64 zg, .bool zy, .int .i64 zr] 55)).cell? ⟨w.heap.size + 1, 4, none⟩ = some (.int .i64 zr)) := Lib.hid (by have := box5 (w.alloc (.cells #[.int .i64 op, .int .i64 sz, .int .i64 cd, .int .i64 fr, .int .i64 d.k, .int .i64 d.r, .int .i64 d.b, .int .i64 d.i, .int .i64 d.s, .int .i64 d.d, .int .i64 d.m, .int .i64 s.k, .int .i64 s.r, .int .i64 s.b, .int .i64 s.i, .int .i64 s.s, .int .i64 s.d, .int .i64 s.m, .int .i64 ln] 29)) #[.int .i64 zo, .int .i64 zf, .int .i64 zg, .bool zy, .int .i64 zr] 55 4; simp)
    rcases Bool.eq_false_or_eq_true (fixD op zy).2 with hf | hf
    · have HF := Lib.hid hf
      rw [hf]
      simp only [Bool.not_true, Bool.false_and]
      clear hf
      go_enter Tryd.func52, Tryd.ntmps52
      go_wp2_with fail
      refine Calls.mono (CW.out _) ?_
      rintro e w1 ⟨rfl, hb⟩
      have hb' := BW.out w1 (by simpa using hb)
      have HBB := Lib.hid hb'
      clear hb'
      have x1 := (hb.cell (p := ⟨w.heap.size, 1, none⟩) (by simp; omega)).trans X1.out
      have z4 := (hb.cell (p := ⟨w.heap.size + 1, 4, none⟩) (by simp)).trans Z4.out
      clear hb
      rw [HF.out]
      go_wp2
      go_ret
      exact ⟨rfl, HBB.out⟩
    · have HF := Lib.hid hf
      rw [hf]
      simp only [Bool.not_false, Bool.true_and]
      clear hf
      by_cases h4 : zr = 4
      · subst h4
        simp only [if_true]
        go_enter Tryd.func52, Tryd.ntmps52
        go_wp2_with fail
        refine Calls.mono (CW.out _) ?_
        rintro e w1 ⟨rfl, hb⟩
        have hb' := BW.out w1 (by simpa using hb)
        have HBB := Lib.hid hb'
        clear hb'
        have x1 := (hb.cell (p := ⟨w.heap.size, 1, none⟩) (by simp; omega)).trans X1.out
        have z4 := (hb.cell (p := ⟨w.heap.size + 1, 4, none⟩) (by simp)).trans Z4.out
        clear hb
        rw [HF.out]
        go_wp2
        go_ret
        exact ⟨rfl, HBB.out⟩
      · simp only [if_neg h4]
        have n4 : (zr == 4) = false := beq_eq_false_iff_ne.mpr h4
        by_cases h0 : zr = 0
        · subst h0
          simp only [if_true]
          clear h4 n4
          go_enter Tryd.func52, Tryd.ntmps52
          go_wp2_with fail
          refine Calls.mono (CW.out _) ?_
          rintro e w1 ⟨rfl, hb⟩
          have hb' := BW.out w1 (by simpa using hb)
          have HBB := Lib.hid hb'
          clear hb'
          have x1 := (hb.cell (p := ⟨w.heap.size, 1, none⟩) (by simp; omega)).trans X1.out
          have z4 := (hb.cell (p := ⟨w.heap.size + 1, 4, none⟩) (by simp)).trans Z4.out
          clear hb
          rw [HF.out]
          go_wp2
          go_ret
          exact ⟨rfl, HBB.out⟩
        · simp only [if_neg h0]
          have n0 : (zr == 0) = false := beq_eq_false_iff_ne.mpr h0
          clear h4 h0
          go_enter Tryd.func52, Tryd.ntmps52
          go_wp2_with fail
          refine Calls.mono (CW.out _) ?_
          rintro e w1 ⟨rfl, hb⟩
          have hb' := BW.out w1 (by simpa using hb)
          have HBB := Lib.hid hb'
          clear hb'
          have x1 := (hb.cell (p := ⟨w.heap.size, 1, none⟩) (by simp; omega)).trans X1.out
          have z4 := (hb.cell (p := ⟨w.heap.size + 1, 4, none⟩) (by simp)).trans Z4.out
          clear hb
          rw [HF.out]
          go_wp2
          go_ret
          exact ⟨rfl, HBB.out⟩
end Go.Proofs.YtinjpobepcenfaaDoor
namespace Go.Proofs.YtinjpobepcenfaaDoor
open Go.RowKit Go.Sort
set_option linter.unusedVariables false
theorem abs_world {T G : World → Prop} (W : World) (h : T W) (k : ∀ W, T W → G W) : G W := k W h
/-- a call by its contract -/
theorem callStep {P : Program} {ops : Array Oper} {rest : List Oper} {o : Oper} {a : Act} {w : World} {Q : Exit → Act → World → Prop} (hg : o.guard = none) (d : Option Tmp) (hd : o.dst = d)
    (f : FuncId) (args : Array Value) (hrun : (execOp a.eval o).run P w = .ok (.enter f args) w) {post : Ending → World → Prop} (hc : Calls P f args w post)
    (h : ∀ e w', post e w' → ∃ v, e = .returned v ∧ wpList P ops Q rest (a.put d v) w') : wpList P ops Q (o :: rest) a w := by
  subst hd
  refine wpList_plain hg fun K hK => ?_
  unfold Oper.wp
  rw [hrun, Oper.upon_enter]
  refine hc.mono fun e w'' hh => ?_
  obtain ⟨v, rfl, hv⟩ := h e w'' hh
  exact hK _ _ hv
/-- the same at one operation of a region that draws -/
theorem callOp {P : Program} {K : Act → World → Prop} {Q : Exit → Act → World → Prop} {o : Oper} {a : Act} {w : World} (d : Option Tmp) (hd : o.dst = d)
    (f : FuncId) (args : Array Value) (hrun : (execOp a.eval o).run P w = .ok (.enter f args) w) {post : Ending → World → Prop} (hc : Calls P f args w post)
    (h : ∀ e w', post e w' → ∃ v, e = .returned v ∧ K (a.put d v) w') : o.wp P a w K Q := by
  subst hd
  unfold Oper.wp
  rw [hrun, Oper.upon_enter]
  refine hc.mono fun e w'' hh => ?_
  obtain ⟨v, rfl, hv⟩ := h e w'' hh
  exact hv
theorem runOp {P : Program} {K : Act → World → Prop} {Q : Exit → Act → World → Prop} {o : Oper} {a : Act} {w : World} (d : Option Tmp) (hd : o.dst = d) (v : Value) (w' : World)
    (hrun : (execOp a.eval o).run P w = .ok (.value v) w') (h : K (a.put d v) w') : o.wp P a w K Q := by
  subst hd
  unfold Oper.wp
  rw [hrun, Oper.upon_value]
  exact h
theorem takeTo {P : Program} {md : Region.Mode} {ops : Array Oper} {Q : Exit → Act → World → Prop} {S : World → Prop} {fuel : Nat} {listed : Array Bool} {a : Act} {w : World} (i : Nat) {oi : Oper} {v : Value} (hi : ops[i]? = some oi) (d : Option Tmp) (hd : oi.dst = d)
    (hs : Region.noSelect ops = true) (hf : Region.free md ops listed i = true) (hr : (Region.ready md ops listed).contains i = true)
    (hQ : ∀ c a w, Q (.panic c) (a.put oi.dst v) w → Q (.panic c) a w) (hy : YieldsIf P ops S oi v a) (hS : S w)
    (h : wpAnyH P md ops Q S fuel (listed.setIfInBounds i true) (a.put d v) w) : wpAnyH P md ops Q S (fuel + 1) listed a w := by
  subst hd
  exact wpAnyH_take hi hs hf hr hQ hy hS h
theorem consPlain {P : Program} {md : Region.Mode} {ops : Array Oper} {Q : Exit → Act → World → Prop} {S : World → Prop} {fuel : Nat} {listed : Array Bool} {a : Act} {w : World} {i : Nat} {rs : List Nat} (o : Oper) (ho : ops[i]? = some o) (hg : o.guard = none)
    (h : ∀ K' : Act → World → Prop, Shut (∀ a w, S w → (S w → wpAnyH P md ops Q S fuel (listed.setIfInBounds i true) a w) → K' a w) → Oper.wp P o a w K' Q)
    (hs : AllReadyH P md ops Q S fuel listed a w rs) : AllReadyH P md ops Q S fuel listed a w (i :: rs) :=
  AllReadyH.cons ho (fun K hK => by simp only [Region.wanted, hg, if_true]; exact h K hK) hs
/-- an operation of a region that draws: a call by its contract -/
theorem consCall {P : Program} {md : Region.Mode} {ops : Array Oper} {Q : Exit → Act → World → Prop} {S : World → Prop} {fuel : Nat} {listed : Array Bool} {a : Act} {w : World} {i : Nat} {rs : List Nat} {o : Oper} (ho : ops[i]? = some o) (hg : o.guard = none)
    (d : Option Tmp) (hd : o.dst = d) (f : FuncId) (args : Array Value) (hrun : (execOp a.eval o).run P w = .ok (.enter f args) w) {post : Ending → World → Prop} (hc : Calls P f args w post)
    (h : ∀ e w', post e w' → ∃ v, e = .returned v ∧ S w' ∧ wpAnyH P md ops Q S fuel (listed.setIfInBounds i true) (a.put d v) w')
    (hs : AllReadyH P md ops Q S fuel listed a w rs) : AllReadyH P md ops Q S fuel listed a w (i :: rs) :=
  consPlain o ho hg (fun K hK => callOp d hd f args hrun hc fun e w' hp => by
    obtain ⟨v, e1, hS, hw⟩ := h e w' hp
    exact ⟨v, e1, hK.out _ _ hS (fun _ => hw)⟩) hs
/-- one that yields a value, in whatever world -/
theorem consRun {P : Program} {md : Region.Mode} {ops : Array Oper} {Q : Exit → Act → World → Prop} {S : World → Prop} {fuel : Nat} {listed : Array Bool} {a : Act} {w : World} {i : Nat} {rs : List Nat} {o : Oper} (ho : ops[i]? = some o) (hg : o.guard = none)
    (d : Option Tmp) (hd : o.dst = d) (v : Value) (w' : World) (hrun : (execOp a.eval o).run P w = .ok (.value v) w') (hS : S w')
    (h : wpAnyH P md ops Q S fuel (listed.setIfInBounds i true) (a.put d v) w')
    (hs : AllReadyH P md ops Q S fuel listed a w rs) : AllReadyH P md ops Q S fuel listed a w (i :: rs) :=
  consPlain o ho hg (fun K hK => runOp d hd v w' hrun (hK.out _ _ hS (fun _ => h))) hs
/-- one that stores a struct -/
theorem consRow {P : Program} {md : Region.Mode} {ops : Array Oper} {Q : Exit → Act → World → Prop} {S : World → Prop} {fuel : Nat} {listed : Array Bool} {a : Act} {w : World} {i : Nat} {rs : List Nat} {o : Oper} (ho : ops[i]? = some o) (hg : o.guard = none)
    (ty : TypeId) (x y : Operand) (hop : o.op = .store ty x y) (hd : o.dst = none) (g : Nat) (cells : Array Value) (hx : a.eval x = .pointer (some ⟨g, 0, none⟩)) (hy : a.eval y = .agg cells)
    (t : TypeId) (old : Array Value) (hr : w.heap[g]? = some (.cells old t (0, 0))) (hi : (P.info? ty).map (·.size) = some cells.size) (hold : old.size = cells.size) (h1 : cells.all (·.oneCell') = true)
    (hS : S (w.setRow g cells)) (h : wpAnyH P md ops Q S fuel (listed.setIfInBounds i true) a (w.setRow g cells))
    (hs : AllReadyH P md ops Q S fuel listed a w rs) : AllReadyH P md ops Q S fuel listed a w (i :: rs) :=
  consPlain o ho hg (fun K hK => wp_store_row ty x y hop g cells hx hy t old hr hi hold h1 (by rw [hd]; exact hK.out _ _ hS (fun _ => h))) hs
/-- one that stores a struct within a larger one -/
theorem consMid {P : Program} {md : Region.Mode} {ops : Array Oper} {Q : Exit → Act → World → Prop} {S : World → Prop} {fuel : Nat} {listed : Array Bool} {a : Act} {w : World} {i : Nat} {rs : List Nat} {o : Oper} (ho : ops[i]? = some o) (hg : o.guard = none)
    (ty : TypeId) (x y : Operand) (hop : o.op = .store ty x y) (hd : o.dst = none) (b off : Nat) (cells : Array Value) (hx : a.eval x = .pointer (some ⟨b, off, none⟩)) (hy : a.eval y = .agg cells)
    (ht : w.there b off cells.size) (hi : (P.info? ty).map (·.size) = some cells.size) (h1 : cells.all (·.oneCell') = true)
    (hS : S (w.setCells b off cells.toList)) (h : wpAnyH P md ops Q S fuel (listed.setIfInBounds i true) a (w.setCells b off cells.toList))
    (hs : AllReadyH P md ops Q S fuel listed a w rs) : AllReadyH P md ops Q S fuel listed a w (i :: rs) :=
  consPlain o ho hg (fun K hK => wp_store_mid ty x y hop b off cells hx hy ht hi h1 (by rw [hd]; exact hK.out _ _ hS (fun _ => h))) hs
end Go.Proofs.YtinjpobepcenfaaDoor
namespace Go.Proofs.YtinjpobepcenfaaDoor
open Go.RowKit Go.Sort
set_option linter.unusedVariables false
/-- an instruction -/
structure Ins where
  op : Int
  sz : Int
  cd : Int
  fr : Int
  d : Opd
  s : Opd
  ln : Int
def insV (x : Ins) : Array Value := insA x.op x.sz x.cd x.fr x.d x.s x.ln
theorem insV_one (x : Ins) : (insV x).all (·.oneCell') = true := ins_one _ _ _ _ _ _ _
theorem insV_size (x : Ins) : (insV x).size = 19 := rfl
/-- block b holds an instruction -/
def XI (W : World) (b : Nat) (x : Ins) : Prop := W.heap[b]? = some (.cells (insV x) 29 (0, 0))
theorem XI.cell {W : World} {b : Nat} {x : Ins} (h : XI W b x) (i : Nat) : W.cell? ⟨b, i, none⟩ = (insV x)[i]? := cell_of_row W b i _ _ (0, 0) h
theorem XI.free {W : World} {b : Nat} {x : Ins} (h : XI W b x) (i : Nat) : W.frozen? ⟨b, i, none⟩ = false := by unfold XI at h; simp [World.frozen?, h]
theorem XI.set {W : World} {b : Nat} {x y : Ins} (h : XI W b x) (i : Nat) (v : Value) (e : (insV x).setIfInBounds i v = insV y) : XI (W.setCell ⟨b, i, none⟩ v) b y := by
  unfold XI at *
  simp [World.setCell, Array.getElem?_modify, h, e]
theorem XI.dst {W : World} {b : Nat} {x : Ins} (h : XI W b x) (d : Opd) : XI (W.setCells b 4 (opdL d)) b { x with d := d } :=
  ((((((h.set (y := { x with d := { x.d with k := d.k } }) 4 (.int .i64 d.k) rfl).set (y := { x with d := { x.d with k := d.k, r := d.r } }) 5 (.int .i64 d.r) rfl).set (y := { x with d := { x.d with k := d.k, r := d.r, b := d.b } }) 6 (.int .i64 d.b) rfl).set (y := { x with d := { x.d with k := d.k, r := d.r, b := d.b, i := d.i } }) 7 (.int .i64 d.i) rfl).set (y := { x with d := { x.d with k := d.k, r := d.r, b := d.b, i := d.i, s := d.s } }) 8 (.int .i64 d.s) rfl).set (y := { x with d := { x.d with k := d.k, r := d.r, b := d.b, i := d.i, s := d.s, d := d.d } }) 9 (.int .i64 d.d) rfl).set (y := { x with d := d }) 10 (.int .i64 d.m) rfl
theorem XI.src {W : World} {b : Nat} {x : Ins} (h : XI W b x) (s : Opd) : XI (W.setCells b 11 (opdL s)) b { x with s := s } :=
  ((((((h.set (y := { x with s := { x.s with k := s.k } }) 11 (.int .i64 s.k) rfl).set (y := { x with s := { x.s with k := s.k, r := s.r } }) 12 (.int .i64 s.r) rfl).set (y := { x with s := { x.s with k := s.k, r := s.r, b := s.b } }) 13 (.int .i64 s.b) rfl).set (y := { x with s := { x.s with k := s.k, r := s.r, b := s.b, i := s.i } }) 14 (.int .i64 s.i) rfl).set (y := { x with s := { x.s with k := s.k, r := s.r, b := s.b, i := s.i, s := s.s } }) 15 (.int .i64 s.s) rfl).set (y := { x with s := { x.s with k := s.k, r := s.r, b := s.b, i := s.i, s := s.s, d := s.d } }) 16 (.int .i64 s.d) rfl).set (y := { x with s := s }) 17 (.int .i64 s.m) rfl
theorem setCells_oth (b k : Nat) (hk : k ≠ b) : ∀ (vs : List Value) (o : Nat) (w : World), (w.setCells b o vs).heap[k]? = w.heap[k]?
  | [], o, w => rfl
  | v :: r, o, w => (setCells_oth b k hk r (o + 1) _).trans (Below.heap_setCell _ _ _ _ (by simpa using hk))
theorem below_setCs {w W : World} {B g : Nat} (h : Below B w W) (hg : B ≤ g) : ∀ (vs : List Value) (o : Nat), Below B w (W.setCells g o vs) := by
  intro vs
  induction vs generalizing W with
  | nil => intro o; exact h
  | cons v r ih => intro o; exact ih (h.setCell (by show B ≤ g; omega) v) (o + 1)
theorem XI.lt {W : World} {b : Nat} {x : Ins} (h : XI W b x) : b < W.heap.size := lt_of_blk h
theorem XI.there {W : World} {b : Nat} {x : Ins} (h : XI W b x) (o n : Nat) (hn : o + n ≤ 19) : W.there b o n := fun j hj => by
  refine ⟨?_, h.free _⟩
  rw [h.cell, Array.getElem?_eq_getElem (by rw [insV_size]; omega)]; rfl
theorem opdL_len (x : Opd) : (opdL x).toArray.size = 7 := rfl
theorem XB.row {W : World} {b : Nat} {x : Opd} (h : XB W b x) : W.heap[b]? = some (.cells (opdL x).toArray 25 (0, 0)) := h
def oneX (x : Ins) (p : Opd) : Ins := if srcOp x.op then { x with s := p } else { x with d := p }
/-- the three blocks that l04One makes -/
structure One3 (w : World) (W : World) (x : Ins) (p : Opd) : Prop where
  x : XI W w.heap.size x
  p : XB W (w.heap.size + 1) p
  z : W.heap[w.heap.size + 2]? = some (.cells zIns 29 (0, 0))
  be : Below w.heap.size w W
theorem one3 (w : World) (x : Ins) (p : Opd) : One3 w (((w.alloc (.cells (insV x) 29)).alloc (.cells (opdL p).toArray 25)).alloc (.cells zIns 29)) x p := by
  refine ⟨?_, ?_, ?_, (((Below.refl _ _).alloc (Nat.le_refl _) _).alloc (by simp) _).alloc (by simp; omega) _⟩
  · exact (Below.heap_alloc _ _ _ (by simp; omega)).trans ((Below.heap_alloc _ _ _ (by simp)).trans (heap_alloc_new w _))
  · refine (Below.heap_alloc _ _ _ (by simp)).trans ?_
    have := heap_alloc_new (w.alloc (.cells (insV x) 29)) (.cells (opdL p).toArray 25)
    simpa [XB] using this
  · have := heap_alloc_new ((w.alloc (.cells (insV x) 29)).alloc (.cells (opdL p).toArray 25)) (.cells zIns 29)
    simpa using this
theorem One3.src {w W : World} {x : Ins} {p q : Opd} (h : One3 w W x p) : One3 w (W.setCells w.heap.size 11 (opdL q)) { x with s := q } p :=
  ⟨h.x.src q, (setCells_oth _ _ (by omega) _ _ _).trans h.p, (setCells_oth _ _ (by omega) _ _ _).trans h.z, below_setCs h.be (Nat.le_refl _) _ _⟩
theorem One3.dst {w W : World} {x : Ins} {p q : Opd} (h : One3 w W x p) : One3 w (W.setCells w.heap.size 4 (opdL q)) { x with d := q } p :=
  ⟨h.x.dst q, (setCells_oth _ _ (by omega) _ _ _).trans h.p, (setCells_oth _ _ (by omega) _ _ _).trans h.z, below_setCs h.be (Nat.le_refl _) _ _⟩
theorem below_setRowB {w W : World} {B g : Nat} {cs : Array Value} (h : Below B w W) (hg : B ≤ g) : Below B w (W.setRow g cs) :=
  ⟨h.os, h.tape, h.output, by rw [setRow_size]; exact h.size, fun i hi => by rw [setRow_other _ _ _ _ (by omega)]; exact h.block i hi⟩
set_option maxRecDepth 100000 in
set_option maxHeartbeats 2000000 in
theorem sOneSrc (x : Ins) (p : Opd) (w : World) (h : srcOp x.op) :
    Calls Tryd.prog 90 #[.agg (insV x), V7 p] w fun e w' => e = .returned (.agg (insV { x with s := p })) ∧ Below w.heap.size w w' := by
  obtain ⟨op, sz, cd, fr, d, s, ln⟩ := x
  unfold srcOp at h
  simp only at h
  have O0 := Lib.hid (one3 w ⟨op, sz, cd, fr, d, s, ln⟩ p)
  rcases h with rfl | rfl | rfl | rfl | rfl | rfl | rfl
  · go_enter Tryd.func90, Tryd.ntmps90
    go_upto_region 1 with fail
    refine abs_world (T := fun W => One3 w W ⟨13, sz, cd, fr, d, s, ln⟩ p) (G := fun W => Code.wp _ _ _ _ W) _ (O0.out) ?_
    clear O0
    intro W O
    have c0 := O.x.cell 0
    simp only [insV, insA, List.getElem?_toArray, List.getElem?_cons_zero] at c0
    go_upto_region 9 with fail
    clear c0
    apply wp_region_list
    refine wpList_load_row rfl 25 (.tmp 3) rfl (w.heap.size + 1) rfl 25 (opdL p).toArray (0, 0) _ (O.p) Tryd.underlying25 rfl (by kernel_rfl) ?_
    simp only [Act.put, List.setIfInBounds_toArray, List.set_cons_zero, List.set_cons_succ]
    refine Great.wpList_runTo rfl (some 16) rfl (.pointer (some ⟨w.heap.size, 11, none⟩)) W (by first | (go_simp; done) | rfl) ?_
    simp only [Act.put, List.setIfInBounds_toArray, List.set_cons_zero, List.set_cons_succ]
    refine wpList_store_mid rfl 25 (.tmp 16) (.tmp 15) rfl (w.heap.size) 11 (opdL p).toArray ?_ ?_ (O.x.there 11 7 (by decide)) (by kernel_rfl) (opd_one _) ?_
    · rfl
    · rfl
    go_upto_region 10 with fail
    refine abs_world (T := fun W => One3 w W ⟨13, sz, cd, fr, d, p, ln⟩ p) (G := fun W => Code.wp _ _ _ _ W) _ (O.src (q := p)) ?_
    clear O
    intro W O
    apply wp_region_list
    refine wpList_load_row rfl 29 (.tmp 2) rfl (w.heap.size) rfl 29 (insV ⟨13, sz, cd, fr, d, p, ln⟩) (0, 0) _ (O.x) Tryd.underlying29 rfl (by kernel_rfl) ?_
    simp only [Act.put, List.setIfInBounds_toArray, List.set_cons_zero, List.set_cons_succ]
    refine wpList_store_row rfl 29 (.tmp 4) (.tmp 17) rfl (w.heap.size + 2) (insV ⟨13, sz, cd, fr, d, p, ln⟩) ?_ ?_ 29 _ (O.z) (by kernel_rfl) rfl (insV_one _) ?_
    · rfl
    · rfl
    go_wp2_with fail
    refine bodyPost_ret (v := .agg (insV ⟨13, sz, cd, fr, d, p, ln⟩)) (by exact results_cell_row Tryd.results90 _ _ (w.heap.size + 2) 29 (insV ⟨13, sz, cd, fr, d, p, ln⟩) (0, 0) _ rfl (setRow_heap _ _ _ _ _ _ O.z) Tryd.underlying29 rfl (by kernel_rfl)) (by rfl) ⟨rfl, below_setRowB O.be (by omega)⟩
  · go_enter Tryd.func90, Tryd.ntmps90
    go_upto_region 1 with fail
    refine abs_world (T := fun W => One3 w W ⟨14, sz, cd, fr, d, s, ln⟩ p) (G := fun W => Code.wp _ _ _ _ W) _ (O0.out) ?_
    clear O0
    intro W O
    have c0 := O.x.cell 0
    simp only [insV, insA, List.getElem?_toArray, List.getElem?_cons_zero] at c0
    go_upto_region 9 with fail
    clear c0
    apply wp_region_list
    refine wpList_load_row rfl 25 (.tmp 3) rfl (w.heap.size + 1) rfl 25 (opdL p).toArray (0, 0) _ (O.p) Tryd.underlying25 rfl (by kernel_rfl) ?_
    simp only [Act.put, List.setIfInBounds_toArray, List.set_cons_zero, List.set_cons_succ]
    refine Great.wpList_runTo rfl (some 16) rfl (.pointer (some ⟨w.heap.size, 11, none⟩)) W (by first | (go_simp; done) | rfl) ?_
    simp only [Act.put, List.setIfInBounds_toArray, List.set_cons_zero, List.set_cons_succ]
    refine wpList_store_mid rfl 25 (.tmp 16) (.tmp 15) rfl (w.heap.size) 11 (opdL p).toArray ?_ ?_ (O.x.there 11 7 (by decide)) (by kernel_rfl) (opd_one _) ?_
    · rfl
    · rfl
    go_upto_region 10 with fail
    refine abs_world (T := fun W => One3 w W ⟨14, sz, cd, fr, d, p, ln⟩ p) (G := fun W => Code.wp _ _ _ _ W) _ (O.src (q := p)) ?_
    clear O
    intro W O
    apply wp_region_list
    refine wpList_load_row rfl 29 (.tmp 2) rfl (w.heap.size) rfl 29 (insV ⟨14, sz, cd, fr, d, p, ln⟩) (0, 0) _ (O.x) Tryd.underlying29 rfl (by kernel_rfl) ?_
    simp only [Act.put, List.setIfInBounds_toArray, List.set_cons_zero, List.set_cons_succ]
    refine wpList_store_row rfl 29 (.tmp 4) (.tmp 17) rfl (w.heap.size + 2) (insV ⟨14, sz, cd, fr, d, p, ln⟩) ?_ ?_ 29 _ (O.z) (by kernel_rfl) rfl (insV_one _) ?_
    · rfl
    · rfl
    go_wp2_with fail
    refine bodyPost_ret (v := .agg (insV ⟨14, sz, cd, fr, d, p, ln⟩)) (by exact results_cell_row Tryd.results90 _ _ (w.heap.size + 2) 29 (insV ⟨14, sz, cd, fr, d, p, ln⟩) (0, 0) _ rfl (setRow_heap _ _ _ _ _ _ O.z) Tryd.underlying29 rfl (by kernel_rfl)) (by rfl) ⟨rfl, below_setRowB O.be (by omega)⟩
  · go_enter Tryd.func90, Tryd.ntmps90
    go_upto_region 1 with fail
    refine abs_world (T := fun W => One3 w W ⟨15, sz, cd, fr, d, s, ln⟩ p) (G := fun W => Code.wp _ _ _ _ W) _ (O0.out) ?_
    clear O0
    intro W O
    have c0 := O.x.cell 0
    simp only [insV, insA, List.getElem?_toArray, List.getElem?_cons_zero] at c0
    go_upto_region 9 with fail
    clear c0
    apply wp_region_list
    refine wpList_load_row rfl 25 (.tmp 3) rfl (w.heap.size + 1) rfl 25 (opdL p).toArray (0, 0) _ (O.p) Tryd.underlying25 rfl (by kernel_rfl) ?_
    simp only [Act.put, List.setIfInBounds_toArray, List.set_cons_zero, List.set_cons_succ]
    refine Great.wpList_runTo rfl (some 16) rfl (.pointer (some ⟨w.heap.size, 11, none⟩)) W (by first | (go_simp; done) | rfl) ?_
    simp only [Act.put, List.setIfInBounds_toArray, List.set_cons_zero, List.set_cons_succ]
    refine wpList_store_mid rfl 25 (.tmp 16) (.tmp 15) rfl (w.heap.size) 11 (opdL p).toArray ?_ ?_ (O.x.there 11 7 (by decide)) (by kernel_rfl) (opd_one _) ?_
    · rfl
    · rfl
    go_upto_region 10 with fail
    refine abs_world (T := fun W => One3 w W ⟨15, sz, cd, fr, d, p, ln⟩ p) (G := fun W => Code.wp _ _ _ _ W) _ (O.src (q := p)) ?_
    clear O
    intro W O
    apply wp_region_list
    refine wpList_load_row rfl 29 (.tmp 2) rfl (w.heap.size) rfl 29 (insV ⟨15, sz, cd, fr, d, p, ln⟩) (0, 0) _ (O.x) Tryd.underlying29 rfl (by kernel_rfl) ?_
    simp only [Act.put, List.setIfInBounds_toArray, List.set_cons_zero, List.set_cons_succ]
    refine wpList_store_row rfl 29 (.tmp 4) (.tmp 17) rfl (w.heap.size + 2) (insV ⟨15, sz, cd, fr, d, p, ln⟩) ?_ ?_ 29 _ (O.z) (by kernel_rfl) rfl (insV_one _) ?_
    · rfl
    · rfl
    go_wp2_with fail
    refine bodyPost_ret (v := .agg (insV ⟨15, sz, cd, fr, d, p, ln⟩)) (by exact results_cell_row Tryd.results90 _ _ (w.heap.size + 2) 29 (insV ⟨15, sz, cd, fr, d, p, ln⟩) (0, 0) _ rfl (setRow_heap _ _ _ _ _ _ O.z) Tryd.underlying29 rfl (by kernel_rfl)) (by rfl) ⟨rfl, below_setRowB O.be (by omega)⟩
  · go_enter Tryd.func90, Tryd.ntmps90
    go_upto_region 1 with fail
    refine abs_world (T := fun W => One3 w W ⟨16, sz, cd, fr, d, s, ln⟩ p) (G := fun W => Code.wp _ _ _ _ W) _ (O0.out) ?_
    clear O0
    intro W O
    have c0 := O.x.cell 0
    simp only [insV, insA, List.getElem?_toArray, List.getElem?_cons_zero] at c0
    go_upto_region 9 with fail
    clear c0
    apply wp_region_list
    refine wpList_load_row rfl 25 (.tmp 3) rfl (w.heap.size + 1) rfl 25 (opdL p).toArray (0, 0) _ (O.p) Tryd.underlying25 rfl (by kernel_rfl) ?_
    simp only [Act.put, List.setIfInBounds_toArray, List.set_cons_zero, List.set_cons_succ]
    refine Great.wpList_runTo rfl (some 16) rfl (.pointer (some ⟨w.heap.size, 11, none⟩)) W (by first | (go_simp; done) | rfl) ?_
    simp only [Act.put, List.setIfInBounds_toArray, List.set_cons_zero, List.set_cons_succ]
    refine wpList_store_mid rfl 25 (.tmp 16) (.tmp 15) rfl (w.heap.size) 11 (opdL p).toArray ?_ ?_ (O.x.there 11 7 (by decide)) (by kernel_rfl) (opd_one _) ?_
    · rfl
    · rfl
    go_upto_region 10 with fail
    refine abs_world (T := fun W => One3 w W ⟨16, sz, cd, fr, d, p, ln⟩ p) (G := fun W => Code.wp _ _ _ _ W) _ (O.src (q := p)) ?_
    clear O
    intro W O
    apply wp_region_list
    refine wpList_load_row rfl 29 (.tmp 2) rfl (w.heap.size) rfl 29 (insV ⟨16, sz, cd, fr, d, p, ln⟩) (0, 0) _ (O.x) Tryd.underlying29 rfl (by kernel_rfl) ?_
    simp only [Act.put, List.setIfInBounds_toArray, List.set_cons_zero, List.set_cons_succ]
    refine wpList_store_row rfl 29 (.tmp 4) (.tmp 17) rfl (w.heap.size + 2) (insV ⟨16, sz, cd, fr, d, p, ln⟩) ?_ ?_ 29 _ (O.z) (by kernel_rfl) rfl (insV_one _) ?_
    · rfl
    · rfl
    go_wp2_with fail
    refine bodyPost_ret (v := .agg (insV ⟨16, sz, cd, fr, d, p, ln⟩)) (by exact results_cell_row Tryd.results90 _ _ (w.heap.size + 2) 29 (insV ⟨16, sz, cd, fr, d, p, ln⟩) (0, 0) _ rfl (setRow_heap _ _ _ _ _ _ O.z) Tryd.underlying29 rfl (by kernel_rfl)) (by rfl) ⟨rfl, below_setRowB O.be (by omega)⟩
  · go_enter Tryd.func90, Tryd.ntmps90
    go_upto_region 1 with fail
    refine abs_world (T := fun W => One3 w W ⟨31, sz, cd, fr, d, s, ln⟩ p) (G := fun W => Code.wp _ _ _ _ W) _ (O0.out) ?_
    clear O0
    intro W O
    have c0 := O.x.cell 0
    simp only [insV, insA, List.getElem?_toArray, List.getElem?_cons_zero] at c0
    go_upto_region 9 with fail
    clear c0
    apply wp_region_list
    refine wpList_load_row rfl 25 (.tmp 3) rfl (w.heap.size + 1) rfl 25 (opdL p).toArray (0, 0) _ (O.p) Tryd.underlying25 rfl (by kernel_rfl) ?_
    simp only [Act.put, List.setIfInBounds_toArray, List.set_cons_zero, List.set_cons_succ]
    refine Great.wpList_runTo rfl (some 16) rfl (.pointer (some ⟨w.heap.size, 11, none⟩)) W (by first | (go_simp; done) | rfl) ?_
    simp only [Act.put, List.setIfInBounds_toArray, List.set_cons_zero, List.set_cons_succ]
    refine wpList_store_mid rfl 25 (.tmp 16) (.tmp 15) rfl (w.heap.size) 11 (opdL p).toArray ?_ ?_ (O.x.there 11 7 (by decide)) (by kernel_rfl) (opd_one _) ?_
    · rfl
    · rfl
    go_upto_region 10 with fail
    refine abs_world (T := fun W => One3 w W ⟨31, sz, cd, fr, d, p, ln⟩ p) (G := fun W => Code.wp _ _ _ _ W) _ (O.src (q := p)) ?_
    clear O
    intro W O
    apply wp_region_list
    refine wpList_load_row rfl 29 (.tmp 2) rfl (w.heap.size) rfl 29 (insV ⟨31, sz, cd, fr, d, p, ln⟩) (0, 0) _ (O.x) Tryd.underlying29 rfl (by kernel_rfl) ?_
    simp only [Act.put, List.setIfInBounds_toArray, List.set_cons_zero, List.set_cons_succ]
    refine wpList_store_row rfl 29 (.tmp 4) (.tmp 17) rfl (w.heap.size + 2) (insV ⟨31, sz, cd, fr, d, p, ln⟩) ?_ ?_ 29 _ (O.z) (by kernel_rfl) rfl (insV_one _) ?_
    · rfl
    · rfl
    go_wp2_with fail
    refine bodyPost_ret (v := .agg (insV ⟨31, sz, cd, fr, d, p, ln⟩)) (by exact results_cell_row Tryd.results90 _ _ (w.heap.size + 2) 29 (insV ⟨31, sz, cd, fr, d, p, ln⟩) (0, 0) _ rfl (setRow_heap _ _ _ _ _ _ O.z) Tryd.underlying29 rfl (by kernel_rfl)) (by rfl) ⟨rfl, below_setRowB O.be (by omega)⟩
  · go_enter Tryd.func90, Tryd.ntmps90
    go_upto_region 1 with fail
    refine abs_world (T := fun W => One3 w W ⟨32, sz, cd, fr, d, s, ln⟩ p) (G := fun W => Code.wp _ _ _ _ W) _ (O0.out) ?_
    clear O0
    intro W O
    have c0 := O.x.cell 0
    simp only [insV, insA, List.getElem?_toArray, List.getElem?_cons_zero] at c0
    go_upto_region 9 with fail
    clear c0
    apply wp_region_list
    refine wpList_load_row rfl 25 (.tmp 3) rfl (w.heap.size + 1) rfl 25 (opdL p).toArray (0, 0) _ (O.p) Tryd.underlying25 rfl (by kernel_rfl) ?_
    simp only [Act.put, List.setIfInBounds_toArray, List.set_cons_zero, List.set_cons_succ]
    refine Great.wpList_runTo rfl (some 16) rfl (.pointer (some ⟨w.heap.size, 11, none⟩)) W (by first | (go_simp; done) | rfl) ?_
    simp only [Act.put, List.setIfInBounds_toArray, List.set_cons_zero, List.set_cons_succ]
    refine wpList_store_mid rfl 25 (.tmp 16) (.tmp 15) rfl (w.heap.size) 11 (opdL p).toArray ?_ ?_ (O.x.there 11 7 (by decide)) (by kernel_rfl) (opd_one _) ?_
    · rfl
    · rfl
    go_upto_region 10 with fail
    refine abs_world (T := fun W => One3 w W ⟨32, sz, cd, fr, d, p, ln⟩ p) (G := fun W => Code.wp _ _ _ _ W) _ (O.src (q := p)) ?_
    clear O
    intro W O
    apply wp_region_list
    refine wpList_load_row rfl 29 (.tmp 2) rfl (w.heap.size) rfl 29 (insV ⟨32, sz, cd, fr, d, p, ln⟩) (0, 0) _ (O.x) Tryd.underlying29 rfl (by kernel_rfl) ?_
    simp only [Act.put, List.setIfInBounds_toArray, List.set_cons_zero, List.set_cons_succ]
    refine wpList_store_row rfl 29 (.tmp 4) (.tmp 17) rfl (w.heap.size + 2) (insV ⟨32, sz, cd, fr, d, p, ln⟩) ?_ ?_ 29 _ (O.z) (by kernel_rfl) rfl (insV_one _) ?_
    · rfl
    · rfl
    go_wp2_with fail
    refine bodyPost_ret (v := .agg (insV ⟨32, sz, cd, fr, d, p, ln⟩)) (by exact results_cell_row Tryd.results90 _ _ (w.heap.size + 2) 29 (insV ⟨32, sz, cd, fr, d, p, ln⟩) (0, 0) _ rfl (setRow_heap _ _ _ _ _ _ O.z) Tryd.underlying29 rfl (by kernel_rfl)) (by rfl) ⟨rfl, below_setRowB O.be (by omega)⟩
  · go_enter Tryd.func90, Tryd.ntmps90
    go_upto_region 1 with fail
    refine abs_world (T := fun W => One3 w W ⟨29, sz, cd, fr, d, s, ln⟩ p) (G := fun W => Code.wp _ _ _ _ W) _ (O0.out) ?_
    clear O0
    intro W O
    have c0 := O.x.cell 0
    simp only [insV, insA, List.getElem?_toArray, List.getElem?_cons_zero] at c0
    go_upto_region 9 with fail
    clear c0
    apply wp_region_list
    refine wpList_load_row rfl 25 (.tmp 3) rfl (w.heap.size + 1) rfl 25 (opdL p).toArray (0, 0) _ (O.p) Tryd.underlying25 rfl (by kernel_rfl) ?_
    simp only [Act.put, List.setIfInBounds_toArray, List.set_cons_zero, List.set_cons_succ]
    refine Great.wpList_runTo rfl (some 16) rfl (.pointer (some ⟨w.heap.size, 11, none⟩)) W (by first | (go_simp; done) | rfl) ?_
    simp only [Act.put, List.setIfInBounds_toArray, List.set_cons_zero, List.set_cons_succ]
    refine wpList_store_mid rfl 25 (.tmp 16) (.tmp 15) rfl (w.heap.size) 11 (opdL p).toArray ?_ ?_ (O.x.there 11 7 (by decide)) (by kernel_rfl) (opd_one _) ?_
    · rfl
    · rfl
    go_upto_region 10 with fail
    refine abs_world (T := fun W => One3 w W ⟨29, sz, cd, fr, d, p, ln⟩ p) (G := fun W => Code.wp _ _ _ _ W) _ (O.src (q := p)) ?_
    clear O
    intro W O
    apply wp_region_list
    refine wpList_load_row rfl 29 (.tmp 2) rfl (w.heap.size) rfl 29 (insV ⟨29, sz, cd, fr, d, p, ln⟩) (0, 0) _ (O.x) Tryd.underlying29 rfl (by kernel_rfl) ?_
    simp only [Act.put, List.setIfInBounds_toArray, List.set_cons_zero, List.set_cons_succ]
    refine wpList_store_row rfl 29 (.tmp 4) (.tmp 17) rfl (w.heap.size + 2) (insV ⟨29, sz, cd, fr, d, p, ln⟩) ?_ ?_ 29 _ (O.z) (by kernel_rfl) rfl (insV_one _) ?_
    · rfl
    · rfl
    go_wp2_with fail
    refine bodyPost_ret (v := .agg (insV ⟨29, sz, cd, fr, d, p, ln⟩)) (by exact results_cell_row Tryd.results90 _ _ (w.heap.size + 2) 29 (insV ⟨29, sz, cd, fr, d, p, ln⟩) (0, 0) _ rfl (setRow_heap _ _ _ _ _ _ O.z) Tryd.underlying29 rfl (by kernel_rfl)) (by rfl) ⟨rfl, below_setRowB O.be (by omega)⟩
set_option maxRecDepth 100000 in
set_option maxHeartbeats 2000000 in
theorem sOneDst (x : Ins) (p : Opd) (w : World) (h : ¬ srcOp x.op) :
    Calls Tryd.prog 90 #[.agg (insV x), V7 p] w fun e w' => e = .returned (.agg (insV { x with d := p })) ∧ Below w.heap.size w w' := by
  obtain ⟨op, sz, cd, fr, d, s, ln⟩ := x
  unfold srcOp at h
  simp only at h
  have O0 := Lib.hid (one3 w ⟨op, sz, cd, fr, d, s, ln⟩ p)
  obtain ⟨n1, n2, n3, n4, n5, n6, n7⟩ : (op == 13) = false ∧ (op == 14) = false ∧ (op == 15) = false ∧ (op == 16) = false ∧ (op == 31) = false ∧ (op == 32) = false ∧ (op == 29) = false := by
    simp only [beq_eq_false_iff_ne]; omega
  clear h
  go_enter Tryd.func90, Tryd.ntmps90
  go_upto_region 1 with fail
  refine abs_world (T := fun W => One3 w W ⟨op, sz, cd, fr, d, s, ln⟩ p) (G := fun W => Code.wp _ _ _ _ W) _ (O0.out) ?_
  clear O0
  intro W O
  have c0 := O.x.cell 0
  simp only [insV, insA, List.getElem?_toArray, List.getElem?_cons_zero] at c0
  go_upto_region 11 with fail
  clear c0
  apply wp_region_list
  refine wpList_load_row rfl 25 (.tmp 3) rfl (w.heap.size + 1) rfl 25 (opdL p).toArray (0, 0) _ (O.p) Tryd.underlying25 rfl (by kernel_rfl) ?_
  simp only [Act.put, List.setIfInBounds_toArray, List.set_cons_zero, List.set_cons_succ]
  refine Great.wpList_runTo rfl (some 19) rfl (.pointer (some ⟨w.heap.size, 4, none⟩)) W (by first | (go_simp; done) | rfl) ?_
  simp only [Act.put, List.setIfInBounds_toArray, List.set_cons_zero, List.set_cons_succ]
  refine wpList_store_mid rfl 25 (.tmp 19) (.tmp 18) rfl (w.heap.size) 4 (opdL p).toArray ?_ ?_ (O.x.there 4 7 (by decide)) (by kernel_rfl) (opd_one _) ?_
  · rfl
  · rfl
  go_upto_region 12 with fail
  refine abs_world (T := fun W => One3 w W ⟨op, sz, cd, fr, p, s, ln⟩ p) (G := fun W => Code.wp _ _ _ _ W) _ (O.dst (q := p)) ?_
  clear O
  intro W O
  apply wp_region_list
  refine wpList_load_row rfl 29 (.tmp 2) rfl (w.heap.size) rfl 29 (insV ⟨op, sz, cd, fr, p, s, ln⟩) (0, 0) _ (O.x) Tryd.underlying29 rfl (by kernel_rfl) ?_
  simp only [Act.put, List.setIfInBounds_toArray, List.set_cons_zero, List.set_cons_succ]
  refine wpList_store_row rfl 29 (.tmp 4) (.tmp 20) rfl (w.heap.size + 2) (insV ⟨op, sz, cd, fr, p, s, ln⟩) ?_ ?_ 29 _ (O.z) (by kernel_rfl) rfl (insV_one _) ?_
  · rfl
  · rfl
  go_wp2_with fail
  refine bodyPost_ret (v := .agg (insV ⟨op, sz, cd, fr, p, s, ln⟩)) (by exact results_cell_row Tryd.results90 _ _ (w.heap.size + 2) 29 (insV ⟨op, sz, cd, fr, p, s, ln⟩) (0, 0) _ rfl (setRow_heap _ _ _ _ _ _ O.z) Tryd.underlying29 rfl (by kernel_rfl)) (by rfl) ⟨rfl, below_setRowB O.be (by omega)⟩
end Go.Proofs.YtinjpobepcenfaaDoor
