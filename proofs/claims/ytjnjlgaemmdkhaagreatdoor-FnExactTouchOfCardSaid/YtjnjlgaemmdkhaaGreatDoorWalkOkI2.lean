/-
  What pattern.hasSize, pattern.hasKinds, operandsOK, needsRex and InstrOK of impl do; conditions: those in each head.
-/
import Derived.Test.YtjnjlgaemmdkhaaGreatDoorWalkOkI
import Derived.Test.YtjnjlgaemmdkhaaGreatDoorBytes
import Derived.Deep.RegionHeld3
import Derived.Great.Walk
import Derived.Great.BuildSlice
import Derived.Deep.Cut
import Derived.Deep.CutRange
namespace Go.Proofs.YtjnjlgaemmdkhaaGreatDoor
open Go.RowKit Go.Sort
set_option linter.unusedVariables false
set_option linter.unusedSimpArgs false
def szK (m z : Int) : Bool := if m = 0 then decide (z = 0) else decide ((z = 1 ∧ (m = 1 ∨ m = 15)) ∨ ((z = 2 ∨ z = 4) ∧ (m = 14 ∨ m = 15)) ∨ (z = 8 ∧ (m = 8 ∨ m = 14 ∨ m = 15)))
def maskP (m : Int) : Prop := m = 0 ∨ m = 1 ∨ m = 8 ∨ m = 14 ∨ m = 15
set_option maxHeartbeats 1000000 in
theorem hasSizeC (m z : Int) (K : ByteArray) (w : World) (aR : Addr) (hs : SentR w aR) (hm : maskP m) : Calls Tryz.prog 52 #[.agg #[.int .i64 m, .string K], .int .i64 z] w fun e w' => e = .returned (.bool (szK m z)) ∧ Below w.heap.size w w' := by
  unfold szK
  by_cases h0 : m = 0
  · subst h0
    rw [if_pos rfl]
    clear hs hm
    go_enter Tryz.func52, Tryz.ntmps52
    go_wp2
    go_ret
    exact ⟨rfl, belA _ _⟩
  · rw [if_neg h0]
    have n0 : (m == 0) = false := beq_eq_false_iff_ne.mpr h0
    by_cases hz : okSize z
    · have CZ := Lib.hid (fun w => checkYes z w hz)
      rcases hm with rfl | rfl | rfl | rfl | rfl
      case inl => exact absurd rfl h0
      all_goals
        clear h0 n0
        rcases hz with rfl | rfl | rfl | rfl
        all_goals
          go_enter Tryz.func52, Tryz.ntmps52
          go_wp2_with fail
          refine (CZ.out _).mono ?_
          rintro e w1 ⟨rfl, rfl⟩
          go_wp2
          go_ret
          exact ⟨rfl, belA _ _⟩
    · have e0 : decide ((z = 1 ∧ (m = 1 ∨ m = 15)) ∨ ((z = 2 ∨ z = 4) ∧ (m = 14 ∨ m = 15)) ∨ (z = 8 ∧ (m = 8 ∨ m = 14 ∨ m = 15))) = false := decide_eq_false (by unfold okSize at hz; omega)
      rw [e0]
      have CZ := Lib.hid (fun (v : Array Value) => checkNoR z (w.alloc (.cells v 70)) aR (hs.below (belA _ _)) hz)
      unfold bErr at CZ
      clear hz e0 hs hm h0
      go_enter Tryz.func52, Tryz.ntmps52
      go_wp2_with fail
      refine (CZ.out _).mono ?_
      rintro e w1 ⟨rfl, rfl⟩
      go_wp2
      go_ret
      exact ⟨rfl, belA _ _⟩
/-- the variable MaxLen of internal/bytealg is a number -/
def MaxL (w : World) : Prop := ∃ m, w.cell? ⟨6, 0, none⟩ = some (.int .i64 m)
theorem MaxL.below {w w' : World} (h : MaxL w) (hb : Below w.heap.size w w') : MaxL w' := by
  obtain ⟨m, hm⟩ := h
  exact ⟨m, (hb.cell (p := ⟨6, 0, none⟩) (lt_of_cell hm)).trans hm⟩
/-- a kind's letter -/
def letK (k : Int) : UInt8 := if k = 0 then 45 else if k = 1 then 114 else if k = 2 then 109 else 105
def kinK (K : ByteArray) (a b : Int) : Bool := Lib.contains K.data.toList [letK a, letK b]
theorem takeTo2 {P : Program} {md : Region.Mode} {ops : Array Oper} {Q : Exit → Act → World → Prop} {S : World → Prop} {fuel : Nat} {listed : Array Bool} {a : Act} {w : World} (i : Nat) {oi : Oper} {v : Value} (hi : ops[i]? = some oi) (d : Option Tmp) (hd : oi.dst = d)
    (hs : Region.noSelect ops = true) (hf : Region.free md ops listed i = true) (hr : (Region.ready md ops listed).contains i = true)
    (hQ : ∀ c a w, Q (.panic c) (a.put oi.dst v) w → Q (.panic c) a w) (hy : YieldsIf P ops S oi v a) (hS : S w)
    (h : wpAnyH P md ops Q S fuel (listed.setIfInBounds i true) (a.put d v) w) : wpAnyH P md ops Q S (fuel + 1) listed a w := by
  subst hd
  exact wpAnyH_take hi hs hf hr hQ hy hS h
theorem absW {T G : World → Prop} (W : World) (h : T W) (k : ∀ W, T W → G W) : G W := k W h
/-- within hasKinds: the three boxes -/
structure Box3 (w W : World) (K : ByteArray) (a b : Int) : Prop where
  c0 : W.cell? ⟨w.heap.size, 1, none⟩ = some (.string K)
  c1 : W.cell? ⟨w.heap.size + 1, 0, none⟩ = some (.int .i64 a)
  c2 : W.cell? ⟨w.heap.size + 2, 0, none⟩ = some (.int .i64 b)
  be : Below w.heap.size w W
  mx : MaxL W
  sz : w.heap.size + 3 ≤ W.heap.size
theorem Box3.below {w W W' : World} {K : ByteArray} {a b : Int} (h : Box3 w W K a b) (hb : Below W.heap.size W W') : Box3 w W' K a b := by
  have hs := h.sz; have hs2 := hb.size
  exact ⟨(hb.cell (p := ⟨w.heap.size, 1, none⟩) (by show w.heap.size < _; omega)).trans h.c0, (hb.cell (p := ⟨w.heap.size + 1, 0, none⟩) (by show w.heap.size + 1 < _; omega)).trans h.c1, (hb.cell (p := ⟨w.heap.size + 2, 0, none⟩) (by show w.heap.size + 2 < _; omega)).trans h.c2, h.be.trans (hb.mono h.be.size), h.mx.below hb, by omega⟩
theorem Box3.drew {w W : World} {K : ByteArray} {a b : Int} (h : Box3 w W K a b) : Box3 w W.drew K a b := h.below ((Below.refl _ _).drew)
theorem box3 (w : World) (m : Int) (K : ByteArray) (xk xr xb xi xs xd xm yk yr yb yi ys yd ym : Int) (hm : MaxL w) : Box3 w (((w.alloc (.cells #[.int .i64 m, .string K] 70)).alloc (.cells #[.int .i64 xk, .int .i64 xr, .int .i64 xb, .int .i64 xi, .int .i64 xs, .int .i64 xd, .int .i64 xm] 31)).alloc (.cells #[.int .i64 yk, .int .i64 yr, .int .i64 yb, .int .i64 yi, .int .i64 ys, .int .i64 yd, .int .i64 ym] 31)) K xk yk := by
  have b1 := belA w (.cells #[.int .i64 m, .string K] 70)
  have e1 : (w.alloc (.cells #[.int .i64 m, .string K] 70)).heap.size = w.heap.size + 1 := by simp
  have r1 := heap_alloc_new w (.cells #[.int .i64 m, .string K] 70)
  generalize w.alloc (.cells #[.int .i64 m, .string K] 70) = W1 at *
  have b2 := belA W1 (.cells #[.int .i64 xk, .int .i64 xr, .int .i64 xb, .int .i64 xi, .int .i64 xs, .int .i64 xd, .int .i64 xm] 31)
  have e2 : (W1.alloc (.cells #[.int .i64 xk, .int .i64 xr, .int .i64 xb, .int .i64 xi, .int .i64 xs, .int .i64 xd, .int .i64 xm] 31)).heap.size = w.heap.size + 2 := by simp [e1]
  have r2 := heap_alloc_new W1 (.cells #[.int .i64 xk, .int .i64 xr, .int .i64 xb, .int .i64 xi, .int .i64 xs, .int .i64 xd, .int .i64 xm] 31)
  generalize W1.alloc (.cells #[.int .i64 xk, .int .i64 xr, .int .i64 xb, .int .i64 xi, .int .i64 xs, .int .i64 xd, .int .i64 xm] 31) = W2 at *
  have b3 := belA W2 (.cells #[.int .i64 yk, .int .i64 yr, .int .i64 yb, .int .i64 yi, .int .i64 ys, .int .i64 yd, .int .i64 ym] 31)
  have e3 : (W2.alloc (.cells #[.int .i64 yk, .int .i64 yr, .int .i64 yb, .int .i64 yi, .int .i64 ys, .int .i64 yd, .int .i64 ym] 31)).heap.size = w.heap.size + 3 := by simp [e2]
  have r3 := heap_alloc_new W2 (.cells #[.int .i64 yk, .int .i64 yr, .int .i64 yb, .int .i64 yi, .int .i64 ys, .int .i64 yd, .int .i64 ym] 31)
  generalize W2.alloc (.cells #[.int .i64 yk, .int .i64 yr, .int .i64 yb, .int .i64 yi, .int .i64 ys, .int .i64 yd, .int .i64 ym] 31) = W3 at *
  rw [e1] at r2; rw [e2] at r3
  have q1 := (b3.block _ (by omega)).trans ((b2.block _ (by omega)).trans r1)
  have q2 := (b3.block _ (by omega)).trans r2
  exact ⟨cell_of_row _ _ 1 _ _ _ q1, cell_of_row _ _ 0 _ _ _ q2, cell_of_row _ _ 0 _ _ _ r3, b1.trans ((b2.trans (b3.mono (by omega))).mono (by omega)), ((hm.below b1).below b2).below b3, by omega⟩
theorem callOp2 {P : Program} {K : Act → World → Prop} {Q : Exit → Act → World → Prop} {o : Oper} {a : Act} {w : World} (d : Option Tmp) (hd : o.dst = d)
    (f : FuncId) (args : Array Value) (hrun : (execOp a.eval o).run P w = .ok (.enter f args) w) {post : Ending → World → Prop} (hc : Calls P f args w post)
    (h : ∀ e w', post e w' → ∃ v, e = .returned v ∧ K (a.put d v) w') : o.wp P a w K Q := by
  subst hd
  unfold Oper.wp
  rw [hrun, Oper.upon_enter]
  refine hc.mono fun e w'' hh => ?_
  obtain ⟨v, rfl, hv⟩ := h e w'' hh
  exact hv
theorem runOp2 {P : Program} {K : Act → World → Prop} {Q : Exit → Act → World → Prop} {o : Oper} {a : Act} {w : World} (d : Option Tmp) (hd : o.dst = d) (v : Value) (w' : World)
    (hrun : (execOp a.eval o).run P w = .ok (.value v) w') (h : K (a.put d v) w') : o.wp P a w K Q := by
  subst hd
  unfold Oper.wp
  rw [hrun, Oper.upon_value]
  exact h
theorem consPlain2 {P : Program} {md : Region.Mode} {ops : Array Oper} {Q : Exit → Act → World → Prop} {S : World → Prop} {fuel : Nat} {listed : Array Bool} {a : Act} {w : World} {i : Nat} {rs : List Nat} (o : Oper) (ho : ops[i]? = some o) (hg : o.guard = none)
    (h : ∀ K' : Act → World → Prop, Shut (∀ a w, S w → (S w → wpAnyH P md ops Q S fuel (listed.setIfInBounds i true) a w) → K' a w) → Oper.wp P o a w K' Q)
    (hs : AllReadyH P md ops Q S fuel listed a w rs) : AllReadyH P md ops Q S fuel listed a w (i :: rs) :=
  AllReadyH.cons ho (fun K hK => by simp only [Region.wanted, hg, if_true]; exact h K hK) hs
theorem consCall2 {P : Program} {md : Region.Mode} {ops : Array Oper} {Q : Exit → Act → World → Prop} {S : World → Prop} {fuel : Nat} {listed : Array Bool} {a : Act} {w : World} {i : Nat} {rs : List Nat} {o : Oper} (ho : ops[i]? = some o) (hg : o.guard = none)
    (d : Option Tmp) (hd : o.dst = d) (f : FuncId) (args : Array Value) (hrun : (execOp a.eval o).run P w = .ok (.enter f args) w) {post : Ending → World → Prop} (hc : Calls P f args w post)
    (h : ∀ e w', post e w' → ∃ v, e = .returned v ∧ S w' ∧ wpAnyH P md ops Q S fuel (listed.setIfInBounds i true) (a.put d v) w')
    (hs : AllReadyH P md ops Q S fuel listed a w rs) : AllReadyH P md ops Q S fuel listed a w (i :: rs) :=
  consPlain2 o ho hg (fun K hK => callOp2 d hd f args hrun hc fun e w' hp => by
    obtain ⟨v, e1, hS, hw⟩ := h e w' hp
    exact ⟨v, e1, hK.out _ _ hS (fun _ => hw)⟩) hs
theorem consRun2 {P : Program} {md : Region.Mode} {ops : Array Oper} {Q : Exit → Act → World → Prop} {S : World → Prop} {fuel : Nat} {listed : Array Bool} {a : Act} {w : World} {i : Nat} {rs : List Nat} {o : Oper} (ho : ops[i]? = some o) (hg : o.guard = none)
    (d : Option Tmp) (hd : o.dst = d) (v : Value) (w' : World) (hrun : (execOp a.eval o).run P w = .ok (.value v) w') (hS : S w')
    (h : wpAnyH P md ops Q S fuel (listed.setIfInBounds i true) (a.put d v) w')
    (hs : AllReadyH P md ops Q S fuel listed a w rs) : AllReadyH P md ops Q S fuel listed a w (i :: rs) :=
  consPlain2 o ho hg (fun K hK => runOp2 d hd v w' hrun (hK.out _ _ hS (fun _ => h))) hs
set_option maxRecDepth 100000 in
set_option maxHeartbeats 4000000 in
theorem kindsC (m : Int) (K : ByteArray) (x y : Opd) (w : World) (hK : K.size < 4294967281) (hm : MaxL w) (hx : x.k = 0 ∨ x.k = 1 ∨ x.k = 2 ∨ x.k = 3) (hy : y.k = 0 ∨ y.k = 1 ∨ y.k = 2 ∨ y.k = 3) :
    Calls Tryz.prog 53 #[.agg #[.int .i64 m, .string K], V7 x, V7 y] w fun e w' => e = .returned (.bool (kinK K x.k y.k)) ∧ Below w.heap.size w w' := by
  obtain ⟨xk, xr, xb, xi, xs, xd, xm⟩ := x
  obtain ⟨yk, yr, yb, yi, ys, yd, ym⟩ := y
  unfold V7
  simp only at hx hy ⊢
  have CC := Lib.hid (fun (W : World) (l1 l2 : UInt8) (h : MaxL W) => by
    obtain ⟨q, hq⟩ := h
    exact Tryz.strings_Contains K ⟨#[l1, l2]⟩ q W hK hq)
  have W3 : Hid (Box3 w (((w.alloc (.cells #[.int .i64 m, .string K] 70)).alloc (.cells #[.int .i64 xk, .int .i64 xr, .int .i64 xb, .int .i64 xi, .int .i64 xs, .int .i64 xd, .int .i64 xm] 31)).alloc (.cells #[.int .i64 yk, .int .i64 yr, .int .i64 yb, .int .i64 yi, .int .i64 ys, .int .i64 yd, .int .i64 ym] 31)) K xk yk) := Lib.hid (box3 w m K xk xr xb xi xs xd xm yk yr yb yi ys yd ym hm)
  clear hm
  rcases hx with rfl | rfl | rfl | rfl
  · rcases hy with rfl | rfl | rfl | rfl
    · go_enter Tryz.func53, Tryz.ntmps53
      go_upto_region 1 with fail
      refine absW (T := fun W => Box3 w W K 0 0) (G := fun W => Code.wp _ _ _ _ W) _ W3.out ?_
      clear W3
      intro W M
      refine wp_region_held_drew (S := fun W' => Box3 w W' K 0 0) (by kernel_rfl) M.drew (fun (hH : Box3 w W.drew K 0 0) => ?_)
      refine takeTo2 0 (v := ?_) rfl (some 7) rfl (by kernel_rfl) (by kernel_rfl) (by kernel_rfl) (fun _ _ _ h => h) (Or.inl ⟨by rfl, ?_⟩) hH ?_
      rotate_left
      · intro w' hS
        have c0 := hS.c0; have c1 := hS.c1; have c2 := hS.c2
        go_simp
        try (with_reducible rfl)
      simp only [Act.put, List.setIfInBounds_toArray, List.set_cons_zero, List.set_cons_succ]
      refine takeTo2 1 (v := ?_) rfl (some 8) rfl (by kernel_rfl) (by kernel_rfl) (by kernel_rfl) (fun _ _ _ h => h) (Or.inl ⟨by rfl, ?_⟩) hH ?_
      rotate_left
      · intro w' hS
        have c0 := hS.c0; have c1 := hS.c1; have c2 := hS.c2
        go_simp
        try (with_reducible rfl)
      simp only [Act.put, List.setIfInBounds_toArray, List.set_cons_zero, List.set_cons_succ]
      refine takeTo2 2 (v := ?_) rfl (some 9) rfl (by kernel_rfl) (by kernel_rfl) (by kernel_rfl) (fun _ _ _ h => h) (Or.inl ⟨by rfl, ?_⟩) hH ?_
      rotate_left
      · intro w' hS
        have c0 := hS.c0; have c1 := hS.c1; have c2 := hS.c2
        go_simp
        try (with_reducible rfl)
      simp only [Act.put, List.setIfInBounds_toArray, List.set_cons_zero, List.set_cons_succ]
      refine takeTo2 3 (v := ?_) rfl (some 10) rfl (by kernel_rfl) (by kernel_rfl) (by kernel_rfl) (fun _ _ _ h => h) (Or.inl ⟨by rfl, ?_⟩) hH ?_
      rotate_left
      · intro w' hS
        have c0 := hS.c0; have c1 := hS.c1; have c2 := hS.c2
        go_simp
        try (with_reducible rfl)
      simp only [Act.put, List.setIfInBounds_toArray, List.set_cons_zero, List.set_cons_succ]
      refine takeTo2 4 (v := .int .u8 45) rfl (some 11) rfl (by kernel_rfl) (by kernel_rfl) (by kernel_rfl) (fun _ _ _ h => h) (Or.inl ⟨by rfl, ?_⟩) hH ?_
      · intro w' hS
        go_simp
        try rfl
      simp only [Act.put, List.setIfInBounds_toArray, List.set_cons_zero, List.set_cons_succ]
      refine takeTo2 5 (v := ?_) rfl (some 12) rfl (by kernel_rfl) (by kernel_rfl) (by kernel_rfl) (fun _ _ _ h => h) (Or.inl ⟨by rfl, ?_⟩) hH ?_
      rotate_left
      · intro w' hS
        have c0 := hS.c0; have c1 := hS.c1; have c2 := hS.c2
        go_simp
        try (with_reducible rfl)
      simp only [Act.put, List.setIfInBounds_toArray, List.set_cons_zero, List.set_cons_succ]
      refine takeTo2 6 (v := ?_) rfl (some 13) rfl (by kernel_rfl) (by kernel_rfl) (by kernel_rfl) (fun _ _ _ h => h) (Or.inl ⟨by rfl, ?_⟩) hH ?_
      rotate_left
      · intro w' hS
        have c0 := hS.c0; have c1 := hS.c1; have c2 := hS.c2
        go_simp
        try (with_reducible rfl)
      simp only [Act.put, List.setIfInBounds_toArray, List.set_cons_zero, List.set_cons_succ]
      refine takeTo2 7 (v := .int .u8 45) rfl (some 14) rfl (by kernel_rfl) (by kernel_rfl) (by kernel_rfl) (fun _ _ _ h => h) (Or.inl ⟨by rfl, ?_⟩) hH ?_
      · intro w' hS
        go_simp
        try rfl
      simp only [Act.put, List.setIfInBounds_toArray, List.set_cons_zero, List.set_cons_succ]
      refine wpAnyH_ready (rs := [8]) (by kernel_rfl) (by simp) ?_
      have hH2 := hH.below (belA W.drew (.cells #[.int .u8 45, .int .u8 45] 5))
      have hconv : (convert 85 9 (.slice (some ⟨W.heap.size, 0, none⟩) 2 2)).run Tryz.prog (W.alloc (.cells #[.int .u8 45, .int .u8 45] 5)).drew = .ok (.string ⟨#[45, 45]⟩) (W.alloc (.cells #[.int .u8 45, .int .u8 45] 5)).drew := str_own (w := (W.alloc (.cells #[.int .u8 45, .int .u8 45] 5)).drew) (l := [45, 45]) (B := W.heap.size) (World.ownsRow_lit W #[.int .u8 45, .int .u8 45] 2 (Nat.le_refl _) (by decide) rfl).drew
      refine consRun2 rfl rfl (some 15) rfl (.slice (some ⟨W.heap.size, 0, none⟩) 2 2) (W.drew.alloc (.cells #[.int .u8 45, .int .u8 45] 5)) (by first | (go_simp; done) | rfl) hH2 ?_ AllReadyH.nil
      simp only [Act.put, List.setIfInBounds_toArray, List.set_cons_zero, List.set_cons_succ]
      refine wpAnyH_ready (rs := [9]) (by kernel_rfl) (by simp) ?_
      refine consRun2 rfl rfl (some 16) rfl (.string ⟨#[45, 45]⟩) (W.drew.alloc (.cells #[.int .u8 45, .int .u8 45] 5)) (by first | (go_simp; done) | rfl) hH2 ?_ AllReadyH.nil
      simp only [Act.put, List.setIfInBounds_toArray, List.set_cons_zero, List.set_cons_succ]
      refine wpAnyH_ready (rs := [10]) (by kernel_rfl) (by simp) ?_
      refine consCall2 rfl rfl (some 17) rfl 71 #[.string K, .string ⟨#[45, 45]⟩] (by first | (go_simp; done) | rfl) (CC.out _ 45 45 hH2.mx) ?_ AllReadyH.nil
      rintro e w1 ⟨rfl, rfl⟩
      refine ⟨_, rfl, hH2, ?_⟩
      simp only [Act.put, List.setIfInBounds_toArray, List.set_cons_zero, List.set_cons_succ]
      clear hconv
      refine takeTo2 11 (v := ?_) rfl (some 6) rfl (by kernel_rfl) (by kernel_rfl) (by kernel_rfl) (fun _ _ _ h => h) (Or.inl ⟨by rfl, ?_⟩) hH2 ?_
      rotate_left
      · intro w' hS
        have c0 := hS.c0; have c1 := hS.c1; have c2 := hS.c2
        go_simp
        try (with_reducible rfl)
      simp only [Act.put, List.setIfInBounds_toArray, List.set_cons_zero, List.set_cons_succ]
      refine wpAnyH_done (by kernel_rfl) ?_ _
      go_wp2
      go_ret
      exact ⟨rfl, hH2.be⟩
    · go_enter Tryz.func53, Tryz.ntmps53
      go_upto_region 1 with fail
      refine absW (T := fun W => Box3 w W K 0 1) (G := fun W => Code.wp _ _ _ _ W) _ W3.out ?_
      clear W3
      intro W M
      refine wp_region_held_drew (S := fun W' => Box3 w W' K 0 1) (by kernel_rfl) M.drew (fun (hH : Box3 w W.drew K 0 1) => ?_)
      refine takeTo2 0 (v := ?_) rfl (some 7) rfl (by kernel_rfl) (by kernel_rfl) (by kernel_rfl) (fun _ _ _ h => h) (Or.inl ⟨by rfl, ?_⟩) hH ?_
      rotate_left
      · intro w' hS
        have c0 := hS.c0; have c1 := hS.c1; have c2 := hS.c2
        go_simp
        try (with_reducible rfl)
      simp only [Act.put, List.setIfInBounds_toArray, List.set_cons_zero, List.set_cons_succ]
      refine takeTo2 1 (v := ?_) rfl (some 8) rfl (by kernel_rfl) (by kernel_rfl) (by kernel_rfl) (fun _ _ _ h => h) (Or.inl ⟨by rfl, ?_⟩) hH ?_
      rotate_left
      · intro w' hS
        have c0 := hS.c0; have c1 := hS.c1; have c2 := hS.c2
        go_simp
        try (with_reducible rfl)
      simp only [Act.put, List.setIfInBounds_toArray, List.set_cons_zero, List.set_cons_succ]
      refine takeTo2 2 (v := ?_) rfl (some 9) rfl (by kernel_rfl) (by kernel_rfl) (by kernel_rfl) (fun _ _ _ h => h) (Or.inl ⟨by rfl, ?_⟩) hH ?_
      rotate_left
      · intro w' hS
        have c0 := hS.c0; have c1 := hS.c1; have c2 := hS.c2
        go_simp
        try (with_reducible rfl)
      simp only [Act.put, List.setIfInBounds_toArray, List.set_cons_zero, List.set_cons_succ]
      refine takeTo2 3 (v := ?_) rfl (some 10) rfl (by kernel_rfl) (by kernel_rfl) (by kernel_rfl) (fun _ _ _ h => h) (Or.inl ⟨by rfl, ?_⟩) hH ?_
      rotate_left
      · intro w' hS
        have c0 := hS.c0; have c1 := hS.c1; have c2 := hS.c2
        go_simp
        try (with_reducible rfl)
      simp only [Act.put, List.setIfInBounds_toArray, List.set_cons_zero, List.set_cons_succ]
      refine takeTo2 4 (v := .int .u8 45) rfl (some 11) rfl (by kernel_rfl) (by kernel_rfl) (by kernel_rfl) (fun _ _ _ h => h) (Or.inl ⟨by rfl, ?_⟩) hH ?_
      · intro w' hS
        go_simp
        try rfl
      simp only [Act.put, List.setIfInBounds_toArray, List.set_cons_zero, List.set_cons_succ]
      refine takeTo2 5 (v := ?_) rfl (some 12) rfl (by kernel_rfl) (by kernel_rfl) (by kernel_rfl) (fun _ _ _ h => h) (Or.inl ⟨by rfl, ?_⟩) hH ?_
      rotate_left
      · intro w' hS
        have c0 := hS.c0; have c1 := hS.c1; have c2 := hS.c2
        go_simp
        try (with_reducible rfl)
      simp only [Act.put, List.setIfInBounds_toArray, List.set_cons_zero, List.set_cons_succ]
      refine takeTo2 6 (v := ?_) rfl (some 13) rfl (by kernel_rfl) (by kernel_rfl) (by kernel_rfl) (fun _ _ _ h => h) (Or.inl ⟨by rfl, ?_⟩) hH ?_
      rotate_left
      · intro w' hS
        have c0 := hS.c0; have c1 := hS.c1; have c2 := hS.c2
        go_simp
        try (with_reducible rfl)
      simp only [Act.put, List.setIfInBounds_toArray, List.set_cons_zero, List.set_cons_succ]
      refine takeTo2 7 (v := .int .u8 114) rfl (some 14) rfl (by kernel_rfl) (by kernel_rfl) (by kernel_rfl) (fun _ _ _ h => h) (Or.inl ⟨by rfl, ?_⟩) hH ?_
      · intro w' hS
        go_simp
        try rfl
      simp only [Act.put, List.setIfInBounds_toArray, List.set_cons_zero, List.set_cons_succ]
      refine wpAnyH_ready (rs := [8]) (by kernel_rfl) (by simp) ?_
      have hH2 := hH.below (belA W.drew (.cells #[.int .u8 45, .int .u8 114] 5))
      have hconv : (convert 85 9 (.slice (some ⟨W.heap.size, 0, none⟩) 2 2)).run Tryz.prog (W.alloc (.cells #[.int .u8 45, .int .u8 114] 5)).drew = .ok (.string ⟨#[45, 114]⟩) (W.alloc (.cells #[.int .u8 45, .int .u8 114] 5)).drew := str_own (w := (W.alloc (.cells #[.int .u8 45, .int .u8 114] 5)).drew) (l := [45, 114]) (B := W.heap.size) (World.ownsRow_lit W #[.int .u8 45, .int .u8 114] 2 (Nat.le_refl _) (by decide) rfl).drew
      refine consRun2 rfl rfl (some 15) rfl (.slice (some ⟨W.heap.size, 0, none⟩) 2 2) (W.drew.alloc (.cells #[.int .u8 45, .int .u8 114] 5)) (by first | (go_simp; done) | rfl) hH2 ?_ AllReadyH.nil
      simp only [Act.put, List.setIfInBounds_toArray, List.set_cons_zero, List.set_cons_succ]
      refine wpAnyH_ready (rs := [9]) (by kernel_rfl) (by simp) ?_
      refine consRun2 rfl rfl (some 16) rfl (.string ⟨#[45, 114]⟩) (W.drew.alloc (.cells #[.int .u8 45, .int .u8 114] 5)) (by first | (go_simp; done) | rfl) hH2 ?_ AllReadyH.nil
      simp only [Act.put, List.setIfInBounds_toArray, List.set_cons_zero, List.set_cons_succ]
      refine wpAnyH_ready (rs := [10]) (by kernel_rfl) (by simp) ?_
      refine consCall2 rfl rfl (some 17) rfl 71 #[.string K, .string ⟨#[45, 114]⟩] (by first | (go_simp; done) | rfl) (CC.out _ 45 114 hH2.mx) ?_ AllReadyH.nil
      rintro e w1 ⟨rfl, rfl⟩
      refine ⟨_, rfl, hH2, ?_⟩
      simp only [Act.put, List.setIfInBounds_toArray, List.set_cons_zero, List.set_cons_succ]
      clear hconv
      refine takeTo2 11 (v := ?_) rfl (some 6) rfl (by kernel_rfl) (by kernel_rfl) (by kernel_rfl) (fun _ _ _ h => h) (Or.inl ⟨by rfl, ?_⟩) hH2 ?_
      rotate_left
      · intro w' hS
        have c0 := hS.c0; have c1 := hS.c1; have c2 := hS.c2
        go_simp
        try (with_reducible rfl)
      simp only [Act.put, List.setIfInBounds_toArray, List.set_cons_zero, List.set_cons_succ]
      refine wpAnyH_done (by kernel_rfl) ?_ _
      go_wp2
      go_ret
      exact ⟨rfl, hH2.be⟩
    · go_enter Tryz.func53, Tryz.ntmps53
      go_upto_region 1 with fail
      refine absW (T := fun W => Box3 w W K 0 2) (G := fun W => Code.wp _ _ _ _ W) _ W3.out ?_
      clear W3
      intro W M
      refine wp_region_held_drew (S := fun W' => Box3 w W' K 0 2) (by kernel_rfl) M.drew (fun (hH : Box3 w W.drew K 0 2) => ?_)
      refine takeTo2 0 (v := ?_) rfl (some 7) rfl (by kernel_rfl) (by kernel_rfl) (by kernel_rfl) (fun _ _ _ h => h) (Or.inl ⟨by rfl, ?_⟩) hH ?_
      rotate_left
      · intro w' hS
        have c0 := hS.c0; have c1 := hS.c1; have c2 := hS.c2
        go_simp
        try (with_reducible rfl)
      simp only [Act.put, List.setIfInBounds_toArray, List.set_cons_zero, List.set_cons_succ]
      refine takeTo2 1 (v := ?_) rfl (some 8) rfl (by kernel_rfl) (by kernel_rfl) (by kernel_rfl) (fun _ _ _ h => h) (Or.inl ⟨by rfl, ?_⟩) hH ?_
      rotate_left
      · intro w' hS
        have c0 := hS.c0; have c1 := hS.c1; have c2 := hS.c2
        go_simp
        try (with_reducible rfl)
      simp only [Act.put, List.setIfInBounds_toArray, List.set_cons_zero, List.set_cons_succ]
      refine takeTo2 2 (v := ?_) rfl (some 9) rfl (by kernel_rfl) (by kernel_rfl) (by kernel_rfl) (fun _ _ _ h => h) (Or.inl ⟨by rfl, ?_⟩) hH ?_
      rotate_left
      · intro w' hS
        have c0 := hS.c0; have c1 := hS.c1; have c2 := hS.c2
        go_simp
        try (with_reducible rfl)
      simp only [Act.put, List.setIfInBounds_toArray, List.set_cons_zero, List.set_cons_succ]
      refine takeTo2 3 (v := ?_) rfl (some 10) rfl (by kernel_rfl) (by kernel_rfl) (by kernel_rfl) (fun _ _ _ h => h) (Or.inl ⟨by rfl, ?_⟩) hH ?_
      rotate_left
      · intro w' hS
        have c0 := hS.c0; have c1 := hS.c1; have c2 := hS.c2
        go_simp
        try (with_reducible rfl)
      simp only [Act.put, List.setIfInBounds_toArray, List.set_cons_zero, List.set_cons_succ]
      refine takeTo2 4 (v := .int .u8 45) rfl (some 11) rfl (by kernel_rfl) (by kernel_rfl) (by kernel_rfl) (fun _ _ _ h => h) (Or.inl ⟨by rfl, ?_⟩) hH ?_
      · intro w' hS
        go_simp
        try rfl
      simp only [Act.put, List.setIfInBounds_toArray, List.set_cons_zero, List.set_cons_succ]
      refine takeTo2 5 (v := ?_) rfl (some 12) rfl (by kernel_rfl) (by kernel_rfl) (by kernel_rfl) (fun _ _ _ h => h) (Or.inl ⟨by rfl, ?_⟩) hH ?_
      rotate_left
      · intro w' hS
        have c0 := hS.c0; have c1 := hS.c1; have c2 := hS.c2
        go_simp
        try (with_reducible rfl)
      simp only [Act.put, List.setIfInBounds_toArray, List.set_cons_zero, List.set_cons_succ]
      refine takeTo2 6 (v := ?_) rfl (some 13) rfl (by kernel_rfl) (by kernel_rfl) (by kernel_rfl) (fun _ _ _ h => h) (Or.inl ⟨by rfl, ?_⟩) hH ?_
      rotate_left
      · intro w' hS
        have c0 := hS.c0; have c1 := hS.c1; have c2 := hS.c2
        go_simp
        try (with_reducible rfl)
      simp only [Act.put, List.setIfInBounds_toArray, List.set_cons_zero, List.set_cons_succ]
      refine takeTo2 7 (v := .int .u8 109) rfl (some 14) rfl (by kernel_rfl) (by kernel_rfl) (by kernel_rfl) (fun _ _ _ h => h) (Or.inl ⟨by rfl, ?_⟩) hH ?_
      · intro w' hS
        go_simp
        try rfl
      simp only [Act.put, List.setIfInBounds_toArray, List.set_cons_zero, List.set_cons_succ]
      refine wpAnyH_ready (rs := [8]) (by kernel_rfl) (by simp) ?_
      have hH2 := hH.below (belA W.drew (.cells #[.int .u8 45, .int .u8 109] 5))
      have hconv : (convert 85 9 (.slice (some ⟨W.heap.size, 0, none⟩) 2 2)).run Tryz.prog (W.alloc (.cells #[.int .u8 45, .int .u8 109] 5)).drew = .ok (.string ⟨#[45, 109]⟩) (W.alloc (.cells #[.int .u8 45, .int .u8 109] 5)).drew := str_own (w := (W.alloc (.cells #[.int .u8 45, .int .u8 109] 5)).drew) (l := [45, 109]) (B := W.heap.size) (World.ownsRow_lit W #[.int .u8 45, .int .u8 109] 2 (Nat.le_refl _) (by decide) rfl).drew
      refine consRun2 rfl rfl (some 15) rfl (.slice (some ⟨W.heap.size, 0, none⟩) 2 2) (W.drew.alloc (.cells #[.int .u8 45, .int .u8 109] 5)) (by first | (go_simp; done) | rfl) hH2 ?_ AllReadyH.nil
      simp only [Act.put, List.setIfInBounds_toArray, List.set_cons_zero, List.set_cons_succ]
      refine wpAnyH_ready (rs := [9]) (by kernel_rfl) (by simp) ?_
      refine consRun2 rfl rfl (some 16) rfl (.string ⟨#[45, 109]⟩) (W.drew.alloc (.cells #[.int .u8 45, .int .u8 109] 5)) (by first | (go_simp; done) | rfl) hH2 ?_ AllReadyH.nil
      simp only [Act.put, List.setIfInBounds_toArray, List.set_cons_zero, List.set_cons_succ]
      refine wpAnyH_ready (rs := [10]) (by kernel_rfl) (by simp) ?_
      refine consCall2 rfl rfl (some 17) rfl 71 #[.string K, .string ⟨#[45, 109]⟩] (by first | (go_simp; done) | rfl) (CC.out _ 45 109 hH2.mx) ?_ AllReadyH.nil
      rintro e w1 ⟨rfl, rfl⟩
      refine ⟨_, rfl, hH2, ?_⟩
      simp only [Act.put, List.setIfInBounds_toArray, List.set_cons_zero, List.set_cons_succ]
      clear hconv
      refine takeTo2 11 (v := ?_) rfl (some 6) rfl (by kernel_rfl) (by kernel_rfl) (by kernel_rfl) (fun _ _ _ h => h) (Or.inl ⟨by rfl, ?_⟩) hH2 ?_
      rotate_left
      · intro w' hS
        have c0 := hS.c0; have c1 := hS.c1; have c2 := hS.c2
        go_simp
        try (with_reducible rfl)
      simp only [Act.put, List.setIfInBounds_toArray, List.set_cons_zero, List.set_cons_succ]
      refine wpAnyH_done (by kernel_rfl) ?_ _
      go_wp2
      go_ret
      exact ⟨rfl, hH2.be⟩
    · go_enter Tryz.func53, Tryz.ntmps53
      go_upto_region 1 with fail
      refine absW (T := fun W => Box3 w W K 0 3) (G := fun W => Code.wp _ _ _ _ W) _ W3.out ?_
      clear W3
      intro W M
      refine wp_region_held_drew (S := fun W' => Box3 w W' K 0 3) (by kernel_rfl) M.drew (fun (hH : Box3 w W.drew K 0 3) => ?_)
      refine takeTo2 0 (v := ?_) rfl (some 7) rfl (by kernel_rfl) (by kernel_rfl) (by kernel_rfl) (fun _ _ _ h => h) (Or.inl ⟨by rfl, ?_⟩) hH ?_
      rotate_left
      · intro w' hS
        have c0 := hS.c0; have c1 := hS.c1; have c2 := hS.c2
        go_simp
        try (with_reducible rfl)
      simp only [Act.put, List.setIfInBounds_toArray, List.set_cons_zero, List.set_cons_succ]
      refine takeTo2 1 (v := ?_) rfl (some 8) rfl (by kernel_rfl) (by kernel_rfl) (by kernel_rfl) (fun _ _ _ h => h) (Or.inl ⟨by rfl, ?_⟩) hH ?_
      rotate_left
      · intro w' hS
        have c0 := hS.c0; have c1 := hS.c1; have c2 := hS.c2
        go_simp
        try (with_reducible rfl)
      simp only [Act.put, List.setIfInBounds_toArray, List.set_cons_zero, List.set_cons_succ]
      refine takeTo2 2 (v := ?_) rfl (some 9) rfl (by kernel_rfl) (by kernel_rfl) (by kernel_rfl) (fun _ _ _ h => h) (Or.inl ⟨by rfl, ?_⟩) hH ?_
      rotate_left
      · intro w' hS
        have c0 := hS.c0; have c1 := hS.c1; have c2 := hS.c2
        go_simp
        try (with_reducible rfl)
      simp only [Act.put, List.setIfInBounds_toArray, List.set_cons_zero, List.set_cons_succ]
      refine takeTo2 3 (v := ?_) rfl (some 10) rfl (by kernel_rfl) (by kernel_rfl) (by kernel_rfl) (fun _ _ _ h => h) (Or.inl ⟨by rfl, ?_⟩) hH ?_
      rotate_left
      · intro w' hS
        have c0 := hS.c0; have c1 := hS.c1; have c2 := hS.c2
        go_simp
        try (with_reducible rfl)
      simp only [Act.put, List.setIfInBounds_toArray, List.set_cons_zero, List.set_cons_succ]
      refine takeTo2 4 (v := .int .u8 45) rfl (some 11) rfl (by kernel_rfl) (by kernel_rfl) (by kernel_rfl) (fun _ _ _ h => h) (Or.inl ⟨by rfl, ?_⟩) hH ?_
      · intro w' hS
        go_simp
        try rfl
      simp only [Act.put, List.setIfInBounds_toArray, List.set_cons_zero, List.set_cons_succ]
      refine takeTo2 5 (v := ?_) rfl (some 12) rfl (by kernel_rfl) (by kernel_rfl) (by kernel_rfl) (fun _ _ _ h => h) (Or.inl ⟨by rfl, ?_⟩) hH ?_
      rotate_left
      · intro w' hS
        have c0 := hS.c0; have c1 := hS.c1; have c2 := hS.c2
        go_simp
        try (with_reducible rfl)
      simp only [Act.put, List.setIfInBounds_toArray, List.set_cons_zero, List.set_cons_succ]
      refine takeTo2 6 (v := ?_) rfl (some 13) rfl (by kernel_rfl) (by kernel_rfl) (by kernel_rfl) (fun _ _ _ h => h) (Or.inl ⟨by rfl, ?_⟩) hH ?_
      rotate_left
      · intro w' hS
        have c0 := hS.c0; have c1 := hS.c1; have c2 := hS.c2
        go_simp
        try (with_reducible rfl)
      simp only [Act.put, List.setIfInBounds_toArray, List.set_cons_zero, List.set_cons_succ]
      refine takeTo2 7 (v := .int .u8 105) rfl (some 14) rfl (by kernel_rfl) (by kernel_rfl) (by kernel_rfl) (fun _ _ _ h => h) (Or.inl ⟨by rfl, ?_⟩) hH ?_
      · intro w' hS
        go_simp
        try rfl
      simp only [Act.put, List.setIfInBounds_toArray, List.set_cons_zero, List.set_cons_succ]
      refine wpAnyH_ready (rs := [8]) (by kernel_rfl) (by simp) ?_
      have hH2 := hH.below (belA W.drew (.cells #[.int .u8 45, .int .u8 105] 5))
      have hconv : (convert 85 9 (.slice (some ⟨W.heap.size, 0, none⟩) 2 2)).run Tryz.prog (W.alloc (.cells #[.int .u8 45, .int .u8 105] 5)).drew = .ok (.string ⟨#[45, 105]⟩) (W.alloc (.cells #[.int .u8 45, .int .u8 105] 5)).drew := str_own (w := (W.alloc (.cells #[.int .u8 45, .int .u8 105] 5)).drew) (l := [45, 105]) (B := W.heap.size) (World.ownsRow_lit W #[.int .u8 45, .int .u8 105] 2 (Nat.le_refl _) (by decide) rfl).drew
      refine consRun2 rfl rfl (some 15) rfl (.slice (some ⟨W.heap.size, 0, none⟩) 2 2) (W.drew.alloc (.cells #[.int .u8 45, .int .u8 105] 5)) (by first | (go_simp; done) | rfl) hH2 ?_ AllReadyH.nil
      simp only [Act.put, List.setIfInBounds_toArray, List.set_cons_zero, List.set_cons_succ]
      refine wpAnyH_ready (rs := [9]) (by kernel_rfl) (by simp) ?_
      refine consRun2 rfl rfl (some 16) rfl (.string ⟨#[45, 105]⟩) (W.drew.alloc (.cells #[.int .u8 45, .int .u8 105] 5)) (by first | (go_simp; done) | rfl) hH2 ?_ AllReadyH.nil
      simp only [Act.put, List.setIfInBounds_toArray, List.set_cons_zero, List.set_cons_succ]
      refine wpAnyH_ready (rs := [10]) (by kernel_rfl) (by simp) ?_
      refine consCall2 rfl rfl (some 17) rfl 71 #[.string K, .string ⟨#[45, 105]⟩] (by first | (go_simp; done) | rfl) (CC.out _ 45 105 hH2.mx) ?_ AllReadyH.nil
      rintro e w1 ⟨rfl, rfl⟩
      refine ⟨_, rfl, hH2, ?_⟩
      simp only [Act.put, List.setIfInBounds_toArray, List.set_cons_zero, List.set_cons_succ]
      clear hconv
      refine takeTo2 11 (v := ?_) rfl (some 6) rfl (by kernel_rfl) (by kernel_rfl) (by kernel_rfl) (fun _ _ _ h => h) (Or.inl ⟨by rfl, ?_⟩) hH2 ?_
      rotate_left
      · intro w' hS
        have c0 := hS.c0; have c1 := hS.c1; have c2 := hS.c2
        go_simp
        try (with_reducible rfl)
      simp only [Act.put, List.setIfInBounds_toArray, List.set_cons_zero, List.set_cons_succ]
      refine wpAnyH_done (by kernel_rfl) ?_ _
      go_wp2
      go_ret
      exact ⟨rfl, hH2.be⟩
  · rcases hy with rfl | rfl | rfl | rfl
    · go_enter Tryz.func53, Tryz.ntmps53
      go_upto_region 1 with fail
      refine absW (T := fun W => Box3 w W K 1 0) (G := fun W => Code.wp _ _ _ _ W) _ W3.out ?_
      clear W3
      intro W M
      refine wp_region_held_drew (S := fun W' => Box3 w W' K 1 0) (by kernel_rfl) M.drew (fun (hH : Box3 w W.drew K 1 0) => ?_)
      refine takeTo2 0 (v := ?_) rfl (some 7) rfl (by kernel_rfl) (by kernel_rfl) (by kernel_rfl) (fun _ _ _ h => h) (Or.inl ⟨by rfl, ?_⟩) hH ?_
      rotate_left
      · intro w' hS
        have c0 := hS.c0; have c1 := hS.c1; have c2 := hS.c2
        go_simp
        try (with_reducible rfl)
      simp only [Act.put, List.setIfInBounds_toArray, List.set_cons_zero, List.set_cons_succ]
      refine takeTo2 1 (v := ?_) rfl (some 8) rfl (by kernel_rfl) (by kernel_rfl) (by kernel_rfl) (fun _ _ _ h => h) (Or.inl ⟨by rfl, ?_⟩) hH ?_
      rotate_left
      · intro w' hS
        have c0 := hS.c0; have c1 := hS.c1; have c2 := hS.c2
        go_simp
        try (with_reducible rfl)
      simp only [Act.put, List.setIfInBounds_toArray, List.set_cons_zero, List.set_cons_succ]
      refine takeTo2 2 (v := ?_) rfl (some 9) rfl (by kernel_rfl) (by kernel_rfl) (by kernel_rfl) (fun _ _ _ h => h) (Or.inl ⟨by rfl, ?_⟩) hH ?_
      rotate_left
      · intro w' hS
        have c0 := hS.c0; have c1 := hS.c1; have c2 := hS.c2
        go_simp
        try (with_reducible rfl)
      simp only [Act.put, List.setIfInBounds_toArray, List.set_cons_zero, List.set_cons_succ]
      refine takeTo2 3 (v := ?_) rfl (some 10) rfl (by kernel_rfl) (by kernel_rfl) (by kernel_rfl) (fun _ _ _ h => h) (Or.inl ⟨by rfl, ?_⟩) hH ?_
      rotate_left
      · intro w' hS
        have c0 := hS.c0; have c1 := hS.c1; have c2 := hS.c2
        go_simp
        try (with_reducible rfl)
      simp only [Act.put, List.setIfInBounds_toArray, List.set_cons_zero, List.set_cons_succ]
      refine takeTo2 4 (v := .int .u8 114) rfl (some 11) rfl (by kernel_rfl) (by kernel_rfl) (by kernel_rfl) (fun _ _ _ h => h) (Or.inl ⟨by rfl, ?_⟩) hH ?_
      · intro w' hS
        go_simp
        try rfl
      simp only [Act.put, List.setIfInBounds_toArray, List.set_cons_zero, List.set_cons_succ]
      refine takeTo2 5 (v := ?_) rfl (some 12) rfl (by kernel_rfl) (by kernel_rfl) (by kernel_rfl) (fun _ _ _ h => h) (Or.inl ⟨by rfl, ?_⟩) hH ?_
      rotate_left
      · intro w' hS
        have c0 := hS.c0; have c1 := hS.c1; have c2 := hS.c2
        go_simp
        try (with_reducible rfl)
      simp only [Act.put, List.setIfInBounds_toArray, List.set_cons_zero, List.set_cons_succ]
      refine takeTo2 6 (v := ?_) rfl (some 13) rfl (by kernel_rfl) (by kernel_rfl) (by kernel_rfl) (fun _ _ _ h => h) (Or.inl ⟨by rfl, ?_⟩) hH ?_
      rotate_left
      · intro w' hS
        have c0 := hS.c0; have c1 := hS.c1; have c2 := hS.c2
        go_simp
        try (with_reducible rfl)
      simp only [Act.put, List.setIfInBounds_toArray, List.set_cons_zero, List.set_cons_succ]
      refine takeTo2 7 (v := .int .u8 45) rfl (some 14) rfl (by kernel_rfl) (by kernel_rfl) (by kernel_rfl) (fun _ _ _ h => h) (Or.inl ⟨by rfl, ?_⟩) hH ?_
      · intro w' hS
        go_simp
        try rfl
      simp only [Act.put, List.setIfInBounds_toArray, List.set_cons_zero, List.set_cons_succ]
      refine wpAnyH_ready (rs := [8]) (by kernel_rfl) (by simp) ?_
      have hH2 := hH.below (belA W.drew (.cells #[.int .u8 114, .int .u8 45] 5))
      have hconv : (convert 85 9 (.slice (some ⟨W.heap.size, 0, none⟩) 2 2)).run Tryz.prog (W.alloc (.cells #[.int .u8 114, .int .u8 45] 5)).drew = .ok (.string ⟨#[114, 45]⟩) (W.alloc (.cells #[.int .u8 114, .int .u8 45] 5)).drew := str_own (w := (W.alloc (.cells #[.int .u8 114, .int .u8 45] 5)).drew) (l := [114, 45]) (B := W.heap.size) (World.ownsRow_lit W #[.int .u8 114, .int .u8 45] 2 (Nat.le_refl _) (by decide) rfl).drew
      refine consRun2 rfl rfl (some 15) rfl (.slice (some ⟨W.heap.size, 0, none⟩) 2 2) (W.drew.alloc (.cells #[.int .u8 114, .int .u8 45] 5)) (by first | (go_simp; done) | rfl) hH2 ?_ AllReadyH.nil
      simp only [Act.put, List.setIfInBounds_toArray, List.set_cons_zero, List.set_cons_succ]
      refine wpAnyH_ready (rs := [9]) (by kernel_rfl) (by simp) ?_
      refine consRun2 rfl rfl (some 16) rfl (.string ⟨#[114, 45]⟩) (W.drew.alloc (.cells #[.int .u8 114, .int .u8 45] 5)) (by first | (go_simp; done) | rfl) hH2 ?_ AllReadyH.nil
      simp only [Act.put, List.setIfInBounds_toArray, List.set_cons_zero, List.set_cons_succ]
      refine wpAnyH_ready (rs := [10]) (by kernel_rfl) (by simp) ?_
      refine consCall2 rfl rfl (some 17) rfl 71 #[.string K, .string ⟨#[114, 45]⟩] (by first | (go_simp; done) | rfl) (CC.out _ 114 45 hH2.mx) ?_ AllReadyH.nil
      rintro e w1 ⟨rfl, rfl⟩
      refine ⟨_, rfl, hH2, ?_⟩
      simp only [Act.put, List.setIfInBounds_toArray, List.set_cons_zero, List.set_cons_succ]
      clear hconv
      refine takeTo2 11 (v := ?_) rfl (some 6) rfl (by kernel_rfl) (by kernel_rfl) (by kernel_rfl) (fun _ _ _ h => h) (Or.inl ⟨by rfl, ?_⟩) hH2 ?_
      rotate_left
      · intro w' hS
        have c0 := hS.c0; have c1 := hS.c1; have c2 := hS.c2
        go_simp
        try (with_reducible rfl)
      simp only [Act.put, List.setIfInBounds_toArray, List.set_cons_zero, List.set_cons_succ]
      refine wpAnyH_done (by kernel_rfl) ?_ _
      go_wp2
      go_ret
      exact ⟨rfl, hH2.be⟩
    · go_enter Tryz.func53, Tryz.ntmps53
      go_upto_region 1 with fail
      refine absW (T := fun W => Box3 w W K 1 1) (G := fun W => Code.wp _ _ _ _ W) _ W3.out ?_
      clear W3
      intro W M
      refine wp_region_held_drew (S := fun W' => Box3 w W' K 1 1) (by kernel_rfl) M.drew (fun (hH : Box3 w W.drew K 1 1) => ?_)
      refine takeTo2 0 (v := ?_) rfl (some 7) rfl (by kernel_rfl) (by kernel_rfl) (by kernel_rfl) (fun _ _ _ h => h) (Or.inl ⟨by rfl, ?_⟩) hH ?_
      rotate_left
      · intro w' hS
        have c0 := hS.c0; have c1 := hS.c1; have c2 := hS.c2
        go_simp
        try (with_reducible rfl)
      simp only [Act.put, List.setIfInBounds_toArray, List.set_cons_zero, List.set_cons_succ]
      refine takeTo2 1 (v := ?_) rfl (some 8) rfl (by kernel_rfl) (by kernel_rfl) (by kernel_rfl) (fun _ _ _ h => h) (Or.inl ⟨by rfl, ?_⟩) hH ?_
      rotate_left
      · intro w' hS
        have c0 := hS.c0; have c1 := hS.c1; have c2 := hS.c2
        go_simp
        try (with_reducible rfl)
      simp only [Act.put, List.setIfInBounds_toArray, List.set_cons_zero, List.set_cons_succ]
      refine takeTo2 2 (v := ?_) rfl (some 9) rfl (by kernel_rfl) (by kernel_rfl) (by kernel_rfl) (fun _ _ _ h => h) (Or.inl ⟨by rfl, ?_⟩) hH ?_
      rotate_left
      · intro w' hS
        have c0 := hS.c0; have c1 := hS.c1; have c2 := hS.c2
        go_simp
        try (with_reducible rfl)
      simp only [Act.put, List.setIfInBounds_toArray, List.set_cons_zero, List.set_cons_succ]
      refine takeTo2 3 (v := ?_) rfl (some 10) rfl (by kernel_rfl) (by kernel_rfl) (by kernel_rfl) (fun _ _ _ h => h) (Or.inl ⟨by rfl, ?_⟩) hH ?_
      rotate_left
      · intro w' hS
        have c0 := hS.c0; have c1 := hS.c1; have c2 := hS.c2
        go_simp
        try (with_reducible rfl)
      simp only [Act.put, List.setIfInBounds_toArray, List.set_cons_zero, List.set_cons_succ]
      refine takeTo2 4 (v := .int .u8 114) rfl (some 11) rfl (by kernel_rfl) (by kernel_rfl) (by kernel_rfl) (fun _ _ _ h => h) (Or.inl ⟨by rfl, ?_⟩) hH ?_
      · intro w' hS
        go_simp
        try rfl
      simp only [Act.put, List.setIfInBounds_toArray, List.set_cons_zero, List.set_cons_succ]
      refine takeTo2 5 (v := ?_) rfl (some 12) rfl (by kernel_rfl) (by kernel_rfl) (by kernel_rfl) (fun _ _ _ h => h) (Or.inl ⟨by rfl, ?_⟩) hH ?_
      rotate_left
      · intro w' hS
        have c0 := hS.c0; have c1 := hS.c1; have c2 := hS.c2
        go_simp
        try (with_reducible rfl)
      simp only [Act.put, List.setIfInBounds_toArray, List.set_cons_zero, List.set_cons_succ]
      refine takeTo2 6 (v := ?_) rfl (some 13) rfl (by kernel_rfl) (by kernel_rfl) (by kernel_rfl) (fun _ _ _ h => h) (Or.inl ⟨by rfl, ?_⟩) hH ?_
      rotate_left
      · intro w' hS
        have c0 := hS.c0; have c1 := hS.c1; have c2 := hS.c2
        go_simp
        try (with_reducible rfl)
      simp only [Act.put, List.setIfInBounds_toArray, List.set_cons_zero, List.set_cons_succ]
      refine takeTo2 7 (v := .int .u8 114) rfl (some 14) rfl (by kernel_rfl) (by kernel_rfl) (by kernel_rfl) (fun _ _ _ h => h) (Or.inl ⟨by rfl, ?_⟩) hH ?_
      · intro w' hS
        go_simp
        try rfl
      simp only [Act.put, List.setIfInBounds_toArray, List.set_cons_zero, List.set_cons_succ]
      refine wpAnyH_ready (rs := [8]) (by kernel_rfl) (by simp) ?_
      have hH2 := hH.below (belA W.drew (.cells #[.int .u8 114, .int .u8 114] 5))
      have hconv : (convert 85 9 (.slice (some ⟨W.heap.size, 0, none⟩) 2 2)).run Tryz.prog (W.alloc (.cells #[.int .u8 114, .int .u8 114] 5)).drew = .ok (.string ⟨#[114, 114]⟩) (W.alloc (.cells #[.int .u8 114, .int .u8 114] 5)).drew := str_own (w := (W.alloc (.cells #[.int .u8 114, .int .u8 114] 5)).drew) (l := [114, 114]) (B := W.heap.size) (World.ownsRow_lit W #[.int .u8 114, .int .u8 114] 2 (Nat.le_refl _) (by decide) rfl).drew
      refine consRun2 rfl rfl (some 15) rfl (.slice (some ⟨W.heap.size, 0, none⟩) 2 2) (W.drew.alloc (.cells #[.int .u8 114, .int .u8 114] 5)) (by first | (go_simp; done) | rfl) hH2 ?_ AllReadyH.nil
      simp only [Act.put, List.setIfInBounds_toArray, List.set_cons_zero, List.set_cons_succ]
      refine wpAnyH_ready (rs := [9]) (by kernel_rfl) (by simp) ?_
      refine consRun2 rfl rfl (some 16) rfl (.string ⟨#[114, 114]⟩) (W.drew.alloc (.cells #[.int .u8 114, .int .u8 114] 5)) (by first | (go_simp; done) | rfl) hH2 ?_ AllReadyH.nil
      simp only [Act.put, List.setIfInBounds_toArray, List.set_cons_zero, List.set_cons_succ]
      refine wpAnyH_ready (rs := [10]) (by kernel_rfl) (by simp) ?_
      refine consCall2 rfl rfl (some 17) rfl 71 #[.string K, .string ⟨#[114, 114]⟩] (by first | (go_simp; done) | rfl) (CC.out _ 114 114 hH2.mx) ?_ AllReadyH.nil
      rintro e w1 ⟨rfl, rfl⟩
      refine ⟨_, rfl, hH2, ?_⟩
      simp only [Act.put, List.setIfInBounds_toArray, List.set_cons_zero, List.set_cons_succ]
      clear hconv
      refine takeTo2 11 (v := ?_) rfl (some 6) rfl (by kernel_rfl) (by kernel_rfl) (by kernel_rfl) (fun _ _ _ h => h) (Or.inl ⟨by rfl, ?_⟩) hH2 ?_
      rotate_left
      · intro w' hS
        have c0 := hS.c0; have c1 := hS.c1; have c2 := hS.c2
        go_simp
        try (with_reducible rfl)
      simp only [Act.put, List.setIfInBounds_toArray, List.set_cons_zero, List.set_cons_succ]
      refine wpAnyH_done (by kernel_rfl) ?_ _
      go_wp2
      go_ret
      exact ⟨rfl, hH2.be⟩
    · go_enter Tryz.func53, Tryz.ntmps53
      go_upto_region 1 with fail
      refine absW (T := fun W => Box3 w W K 1 2) (G := fun W => Code.wp _ _ _ _ W) _ W3.out ?_
      clear W3
      intro W M
      refine wp_region_held_drew (S := fun W' => Box3 w W' K 1 2) (by kernel_rfl) M.drew (fun (hH : Box3 w W.drew K 1 2) => ?_)
      refine takeTo2 0 (v := ?_) rfl (some 7) rfl (by kernel_rfl) (by kernel_rfl) (by kernel_rfl) (fun _ _ _ h => h) (Or.inl ⟨by rfl, ?_⟩) hH ?_
      rotate_left
      · intro w' hS
        have c0 := hS.c0; have c1 := hS.c1; have c2 := hS.c2
        go_simp
        try (with_reducible rfl)
      simp only [Act.put, List.setIfInBounds_toArray, List.set_cons_zero, List.set_cons_succ]
      refine takeTo2 1 (v := ?_) rfl (some 8) rfl (by kernel_rfl) (by kernel_rfl) (by kernel_rfl) (fun _ _ _ h => h) (Or.inl ⟨by rfl, ?_⟩) hH ?_
      rotate_left
      · intro w' hS
        have c0 := hS.c0; have c1 := hS.c1; have c2 := hS.c2
        go_simp
        try (with_reducible rfl)
      simp only [Act.put, List.setIfInBounds_toArray, List.set_cons_zero, List.set_cons_succ]
      refine takeTo2 2 (v := ?_) rfl (some 9) rfl (by kernel_rfl) (by kernel_rfl) (by kernel_rfl) (fun _ _ _ h => h) (Or.inl ⟨by rfl, ?_⟩) hH ?_
      rotate_left
      · intro w' hS
        have c0 := hS.c0; have c1 := hS.c1; have c2 := hS.c2
        go_simp
        try (with_reducible rfl)
      simp only [Act.put, List.setIfInBounds_toArray, List.set_cons_zero, List.set_cons_succ]
      refine takeTo2 3 (v := ?_) rfl (some 10) rfl (by kernel_rfl) (by kernel_rfl) (by kernel_rfl) (fun _ _ _ h => h) (Or.inl ⟨by rfl, ?_⟩) hH ?_
      rotate_left
      · intro w' hS
        have c0 := hS.c0; have c1 := hS.c1; have c2 := hS.c2
        go_simp
        try (with_reducible rfl)
      simp only [Act.put, List.setIfInBounds_toArray, List.set_cons_zero, List.set_cons_succ]
      refine takeTo2 4 (v := .int .u8 114) rfl (some 11) rfl (by kernel_rfl) (by kernel_rfl) (by kernel_rfl) (fun _ _ _ h => h) (Or.inl ⟨by rfl, ?_⟩) hH ?_
      · intro w' hS
        go_simp
        try rfl
      simp only [Act.put, List.setIfInBounds_toArray, List.set_cons_zero, List.set_cons_succ]
      refine takeTo2 5 (v := ?_) rfl (some 12) rfl (by kernel_rfl) (by kernel_rfl) (by kernel_rfl) (fun _ _ _ h => h) (Or.inl ⟨by rfl, ?_⟩) hH ?_
      rotate_left
      · intro w' hS
        have c0 := hS.c0; have c1 := hS.c1; have c2 := hS.c2
        go_simp
        try (with_reducible rfl)
      simp only [Act.put, List.setIfInBounds_toArray, List.set_cons_zero, List.set_cons_succ]
      refine takeTo2 6 (v := ?_) rfl (some 13) rfl (by kernel_rfl) (by kernel_rfl) (by kernel_rfl) (fun _ _ _ h => h) (Or.inl ⟨by rfl, ?_⟩) hH ?_
      rotate_left
      · intro w' hS
        have c0 := hS.c0; have c1 := hS.c1; have c2 := hS.c2
        go_simp
        try (with_reducible rfl)
      simp only [Act.put, List.setIfInBounds_toArray, List.set_cons_zero, List.set_cons_succ]
      refine takeTo2 7 (v := .int .u8 109) rfl (some 14) rfl (by kernel_rfl) (by kernel_rfl) (by kernel_rfl) (fun _ _ _ h => h) (Or.inl ⟨by rfl, ?_⟩) hH ?_
      · intro w' hS
        go_simp
        try rfl
      simp only [Act.put, List.setIfInBounds_toArray, List.set_cons_zero, List.set_cons_succ]
      refine wpAnyH_ready (rs := [8]) (by kernel_rfl) (by simp) ?_
      have hH2 := hH.below (belA W.drew (.cells #[.int .u8 114, .int .u8 109] 5))
      have hconv : (convert 85 9 (.slice (some ⟨W.heap.size, 0, none⟩) 2 2)).run Tryz.prog (W.alloc (.cells #[.int .u8 114, .int .u8 109] 5)).drew = .ok (.string ⟨#[114, 109]⟩) (W.alloc (.cells #[.int .u8 114, .int .u8 109] 5)).drew := str_own (w := (W.alloc (.cells #[.int .u8 114, .int .u8 109] 5)).drew) (l := [114, 109]) (B := W.heap.size) (World.ownsRow_lit W #[.int .u8 114, .int .u8 109] 2 (Nat.le_refl _) (by decide) rfl).drew
      refine consRun2 rfl rfl (some 15) rfl (.slice (some ⟨W.heap.size, 0, none⟩) 2 2) (W.drew.alloc (.cells #[.int .u8 114, .int .u8 109] 5)) (by first | (go_simp; done) | rfl) hH2 ?_ AllReadyH.nil
      simp only [Act.put, List.setIfInBounds_toArray, List.set_cons_zero, List.set_cons_succ]
      refine wpAnyH_ready (rs := [9]) (by kernel_rfl) (by simp) ?_
      refine consRun2 rfl rfl (some 16) rfl (.string ⟨#[114, 109]⟩) (W.drew.alloc (.cells #[.int .u8 114, .int .u8 109] 5)) (by first | (go_simp; done) | rfl) hH2 ?_ AllReadyH.nil
      simp only [Act.put, List.setIfInBounds_toArray, List.set_cons_zero, List.set_cons_succ]
      refine wpAnyH_ready (rs := [10]) (by kernel_rfl) (by simp) ?_
      refine consCall2 rfl rfl (some 17) rfl 71 #[.string K, .string ⟨#[114, 109]⟩] (by first | (go_simp; done) | rfl) (CC.out _ 114 109 hH2.mx) ?_ AllReadyH.nil
      rintro e w1 ⟨rfl, rfl⟩
      refine ⟨_, rfl, hH2, ?_⟩
      simp only [Act.put, List.setIfInBounds_toArray, List.set_cons_zero, List.set_cons_succ]
      clear hconv
      refine takeTo2 11 (v := ?_) rfl (some 6) rfl (by kernel_rfl) (by kernel_rfl) (by kernel_rfl) (fun _ _ _ h => h) (Or.inl ⟨by rfl, ?_⟩) hH2 ?_
      rotate_left
      · intro w' hS
        have c0 := hS.c0; have c1 := hS.c1; have c2 := hS.c2
        go_simp
        try (with_reducible rfl)
      simp only [Act.put, List.setIfInBounds_toArray, List.set_cons_zero, List.set_cons_succ]
      refine wpAnyH_done (by kernel_rfl) ?_ _
      go_wp2
      go_ret
      exact ⟨rfl, hH2.be⟩
    · go_enter Tryz.func53, Tryz.ntmps53
      go_upto_region 1 with fail
      refine absW (T := fun W => Box3 w W K 1 3) (G := fun W => Code.wp _ _ _ _ W) _ W3.out ?_
      clear W3
      intro W M
      refine wp_region_held_drew (S := fun W' => Box3 w W' K 1 3) (by kernel_rfl) M.drew (fun (hH : Box3 w W.drew K 1 3) => ?_)
      refine takeTo2 0 (v := ?_) rfl (some 7) rfl (by kernel_rfl) (by kernel_rfl) (by kernel_rfl) (fun _ _ _ h => h) (Or.inl ⟨by rfl, ?_⟩) hH ?_
      rotate_left
      · intro w' hS
        have c0 := hS.c0; have c1 := hS.c1; have c2 := hS.c2
        go_simp
        try (with_reducible rfl)
      simp only [Act.put, List.setIfInBounds_toArray, List.set_cons_zero, List.set_cons_succ]
      refine takeTo2 1 (v := ?_) rfl (some 8) rfl (by kernel_rfl) (by kernel_rfl) (by kernel_rfl) (fun _ _ _ h => h) (Or.inl ⟨by rfl, ?_⟩) hH ?_
      rotate_left
      · intro w' hS
        have c0 := hS.c0; have c1 := hS.c1; have c2 := hS.c2
        go_simp
        try (with_reducible rfl)
      simp only [Act.put, List.setIfInBounds_toArray, List.set_cons_zero, List.set_cons_succ]
      refine takeTo2 2 (v := ?_) rfl (some 9) rfl (by kernel_rfl) (by kernel_rfl) (by kernel_rfl) (fun _ _ _ h => h) (Or.inl ⟨by rfl, ?_⟩) hH ?_
      rotate_left
      · intro w' hS
        have c0 := hS.c0; have c1 := hS.c1; have c2 := hS.c2
        go_simp
        try (with_reducible rfl)
      simp only [Act.put, List.setIfInBounds_toArray, List.set_cons_zero, List.set_cons_succ]
      refine takeTo2 3 (v := ?_) rfl (some 10) rfl (by kernel_rfl) (by kernel_rfl) (by kernel_rfl) (fun _ _ _ h => h) (Or.inl ⟨by rfl, ?_⟩) hH ?_
      rotate_left
      · intro w' hS
        have c0 := hS.c0; have c1 := hS.c1; have c2 := hS.c2
        go_simp
        try (with_reducible rfl)
      simp only [Act.put, List.setIfInBounds_toArray, List.set_cons_zero, List.set_cons_succ]
      refine takeTo2 4 (v := .int .u8 114) rfl (some 11) rfl (by kernel_rfl) (by kernel_rfl) (by kernel_rfl) (fun _ _ _ h => h) (Or.inl ⟨by rfl, ?_⟩) hH ?_
      · intro w' hS
        go_simp
        try rfl
      simp only [Act.put, List.setIfInBounds_toArray, List.set_cons_zero, List.set_cons_succ]
      refine takeTo2 5 (v := ?_) rfl (some 12) rfl (by kernel_rfl) (by kernel_rfl) (by kernel_rfl) (fun _ _ _ h => h) (Or.inl ⟨by rfl, ?_⟩) hH ?_
      rotate_left
      · intro w' hS
        have c0 := hS.c0; have c1 := hS.c1; have c2 := hS.c2
        go_simp
        try (with_reducible rfl)
      simp only [Act.put, List.setIfInBounds_toArray, List.set_cons_zero, List.set_cons_succ]
      refine takeTo2 6 (v := ?_) rfl (some 13) rfl (by kernel_rfl) (by kernel_rfl) (by kernel_rfl) (fun _ _ _ h => h) (Or.inl ⟨by rfl, ?_⟩) hH ?_
      rotate_left
      · intro w' hS
        have c0 := hS.c0; have c1 := hS.c1; have c2 := hS.c2
        go_simp
        try (with_reducible rfl)
      simp only [Act.put, List.setIfInBounds_toArray, List.set_cons_zero, List.set_cons_succ]
      refine takeTo2 7 (v := .int .u8 105) rfl (some 14) rfl (by kernel_rfl) (by kernel_rfl) (by kernel_rfl) (fun _ _ _ h => h) (Or.inl ⟨by rfl, ?_⟩) hH ?_
      · intro w' hS
        go_simp
        try rfl
      simp only [Act.put, List.setIfInBounds_toArray, List.set_cons_zero, List.set_cons_succ]
      refine wpAnyH_ready (rs := [8]) (by kernel_rfl) (by simp) ?_
      have hH2 := hH.below (belA W.drew (.cells #[.int .u8 114, .int .u8 105] 5))
      have hconv : (convert 85 9 (.slice (some ⟨W.heap.size, 0, none⟩) 2 2)).run Tryz.prog (W.alloc (.cells #[.int .u8 114, .int .u8 105] 5)).drew = .ok (.string ⟨#[114, 105]⟩) (W.alloc (.cells #[.int .u8 114, .int .u8 105] 5)).drew := str_own (w := (W.alloc (.cells #[.int .u8 114, .int .u8 105] 5)).drew) (l := [114, 105]) (B := W.heap.size) (World.ownsRow_lit W #[.int .u8 114, .int .u8 105] 2 (Nat.le_refl _) (by decide) rfl).drew
      refine consRun2 rfl rfl (some 15) rfl (.slice (some ⟨W.heap.size, 0, none⟩) 2 2) (W.drew.alloc (.cells #[.int .u8 114, .int .u8 105] 5)) (by first | (go_simp; done) | rfl) hH2 ?_ AllReadyH.nil
      simp only [Act.put, List.setIfInBounds_toArray, List.set_cons_zero, List.set_cons_succ]
      refine wpAnyH_ready (rs := [9]) (by kernel_rfl) (by simp) ?_
      refine consRun2 rfl rfl (some 16) rfl (.string ⟨#[114, 105]⟩) (W.drew.alloc (.cells #[.int .u8 114, .int .u8 105] 5)) (by first | (go_simp; done) | rfl) hH2 ?_ AllReadyH.nil
      simp only [Act.put, List.setIfInBounds_toArray, List.set_cons_zero, List.set_cons_succ]
      refine wpAnyH_ready (rs := [10]) (by kernel_rfl) (by simp) ?_
      refine consCall2 rfl rfl (some 17) rfl 71 #[.string K, .string ⟨#[114, 105]⟩] (by first | (go_simp; done) | rfl) (CC.out _ 114 105 hH2.mx) ?_ AllReadyH.nil
      rintro e w1 ⟨rfl, rfl⟩
      refine ⟨_, rfl, hH2, ?_⟩
      simp only [Act.put, List.setIfInBounds_toArray, List.set_cons_zero, List.set_cons_succ]
      clear hconv
      refine takeTo2 11 (v := ?_) rfl (some 6) rfl (by kernel_rfl) (by kernel_rfl) (by kernel_rfl) (fun _ _ _ h => h) (Or.inl ⟨by rfl, ?_⟩) hH2 ?_
      rotate_left
      · intro w' hS
        have c0 := hS.c0; have c1 := hS.c1; have c2 := hS.c2
        go_simp
        try (with_reducible rfl)
      simp only [Act.put, List.setIfInBounds_toArray, List.set_cons_zero, List.set_cons_succ]
      refine wpAnyH_done (by kernel_rfl) ?_ _
      go_wp2
      go_ret
      exact ⟨rfl, hH2.be⟩
  · rcases hy with rfl | rfl | rfl | rfl
    · go_enter Tryz.func53, Tryz.ntmps53
      go_upto_region 1 with fail
      refine absW (T := fun W => Box3 w W K 2 0) (G := fun W => Code.wp _ _ _ _ W) _ W3.out ?_
      clear W3
      intro W M
      refine wp_region_held_drew (S := fun W' => Box3 w W' K 2 0) (by kernel_rfl) M.drew (fun (hH : Box3 w W.drew K 2 0) => ?_)
      refine takeTo2 0 (v := ?_) rfl (some 7) rfl (by kernel_rfl) (by kernel_rfl) (by kernel_rfl) (fun _ _ _ h => h) (Or.inl ⟨by rfl, ?_⟩) hH ?_
      rotate_left
      · intro w' hS
        have c0 := hS.c0; have c1 := hS.c1; have c2 := hS.c2
        go_simp
        try (with_reducible rfl)
      simp only [Act.put, List.setIfInBounds_toArray, List.set_cons_zero, List.set_cons_succ]
      refine takeTo2 1 (v := ?_) rfl (some 8) rfl (by kernel_rfl) (by kernel_rfl) (by kernel_rfl) (fun _ _ _ h => h) (Or.inl ⟨by rfl, ?_⟩) hH ?_
      rotate_left
      · intro w' hS
        have c0 := hS.c0; have c1 := hS.c1; have c2 := hS.c2
        go_simp
        try (with_reducible rfl)
      simp only [Act.put, List.setIfInBounds_toArray, List.set_cons_zero, List.set_cons_succ]
      refine takeTo2 2 (v := ?_) rfl (some 9) rfl (by kernel_rfl) (by kernel_rfl) (by kernel_rfl) (fun _ _ _ h => h) (Or.inl ⟨by rfl, ?_⟩) hH ?_
      rotate_left
      · intro w' hS
        have c0 := hS.c0; have c1 := hS.c1; have c2 := hS.c2
        go_simp
        try (with_reducible rfl)
      simp only [Act.put, List.setIfInBounds_toArray, List.set_cons_zero, List.set_cons_succ]
      refine takeTo2 3 (v := ?_) rfl (some 10) rfl (by kernel_rfl) (by kernel_rfl) (by kernel_rfl) (fun _ _ _ h => h) (Or.inl ⟨by rfl, ?_⟩) hH ?_
      rotate_left
      · intro w' hS
        have c0 := hS.c0; have c1 := hS.c1; have c2 := hS.c2
        go_simp
        try (with_reducible rfl)
      simp only [Act.put, List.setIfInBounds_toArray, List.set_cons_zero, List.set_cons_succ]
      refine takeTo2 4 (v := .int .u8 109) rfl (some 11) rfl (by kernel_rfl) (by kernel_rfl) (by kernel_rfl) (fun _ _ _ h => h) (Or.inl ⟨by rfl, ?_⟩) hH ?_
      · intro w' hS
        go_simp
        try rfl
      simp only [Act.put, List.setIfInBounds_toArray, List.set_cons_zero, List.set_cons_succ]
      refine takeTo2 5 (v := ?_) rfl (some 12) rfl (by kernel_rfl) (by kernel_rfl) (by kernel_rfl) (fun _ _ _ h => h) (Or.inl ⟨by rfl, ?_⟩) hH ?_
      rotate_left
      · intro w' hS
        have c0 := hS.c0; have c1 := hS.c1; have c2 := hS.c2
        go_simp
        try (with_reducible rfl)
      simp only [Act.put, List.setIfInBounds_toArray, List.set_cons_zero, List.set_cons_succ]
      refine takeTo2 6 (v := ?_) rfl (some 13) rfl (by kernel_rfl) (by kernel_rfl) (by kernel_rfl) (fun _ _ _ h => h) (Or.inl ⟨by rfl, ?_⟩) hH ?_
      rotate_left
      · intro w' hS
        have c0 := hS.c0; have c1 := hS.c1; have c2 := hS.c2
        go_simp
        try (with_reducible rfl)
      simp only [Act.put, List.setIfInBounds_toArray, List.set_cons_zero, List.set_cons_succ]
      refine takeTo2 7 (v := .int .u8 45) rfl (some 14) rfl (by kernel_rfl) (by kernel_rfl) (by kernel_rfl) (fun _ _ _ h => h) (Or.inl ⟨by rfl, ?_⟩) hH ?_
      · intro w' hS
        go_simp
        try rfl
      simp only [Act.put, List.setIfInBounds_toArray, List.set_cons_zero, List.set_cons_succ]
      refine wpAnyH_ready (rs := [8]) (by kernel_rfl) (by simp) ?_
      have hH2 := hH.below (belA W.drew (.cells #[.int .u8 109, .int .u8 45] 5))
      have hconv : (convert 85 9 (.slice (some ⟨W.heap.size, 0, none⟩) 2 2)).run Tryz.prog (W.alloc (.cells #[.int .u8 109, .int .u8 45] 5)).drew = .ok (.string ⟨#[109, 45]⟩) (W.alloc (.cells #[.int .u8 109, .int .u8 45] 5)).drew := str_own (w := (W.alloc (.cells #[.int .u8 109, .int .u8 45] 5)).drew) (l := [109, 45]) (B := W.heap.size) (World.ownsRow_lit W #[.int .u8 109, .int .u8 45] 2 (Nat.le_refl _) (by decide) rfl).drew
      refine consRun2 rfl rfl (some 15) rfl (.slice (some ⟨W.heap.size, 0, none⟩) 2 2) (W.drew.alloc (.cells #[.int .u8 109, .int .u8 45] 5)) (by first | (go_simp; done) | rfl) hH2 ?_ AllReadyH.nil
      simp only [Act.put, List.setIfInBounds_toArray, List.set_cons_zero, List.set_cons_succ]
      refine wpAnyH_ready (rs := [9]) (by kernel_rfl) (by simp) ?_
      refine consRun2 rfl rfl (some 16) rfl (.string ⟨#[109, 45]⟩) (W.drew.alloc (.cells #[.int .u8 109, .int .u8 45] 5)) (by first | (go_simp; done) | rfl) hH2 ?_ AllReadyH.nil
      simp only [Act.put, List.setIfInBounds_toArray, List.set_cons_zero, List.set_cons_succ]
      refine wpAnyH_ready (rs := [10]) (by kernel_rfl) (by simp) ?_
      refine consCall2 rfl rfl (some 17) rfl 71 #[.string K, .string ⟨#[109, 45]⟩] (by first | (go_simp; done) | rfl) (CC.out _ 109 45 hH2.mx) ?_ AllReadyH.nil
      rintro e w1 ⟨rfl, rfl⟩
      refine ⟨_, rfl, hH2, ?_⟩
      simp only [Act.put, List.setIfInBounds_toArray, List.set_cons_zero, List.set_cons_succ]
      clear hconv
      refine takeTo2 11 (v := ?_) rfl (some 6) rfl (by kernel_rfl) (by kernel_rfl) (by kernel_rfl) (fun _ _ _ h => h) (Or.inl ⟨by rfl, ?_⟩) hH2 ?_
      rotate_left
      · intro w' hS
        have c0 := hS.c0; have c1 := hS.c1; have c2 := hS.c2
        go_simp
        try (with_reducible rfl)
      simp only [Act.put, List.setIfInBounds_toArray, List.set_cons_zero, List.set_cons_succ]
      refine wpAnyH_done (by kernel_rfl) ?_ _
      go_wp2
      go_ret
      exact ⟨rfl, hH2.be⟩
    · go_enter Tryz.func53, Tryz.ntmps53
      go_upto_region 1 with fail
      refine absW (T := fun W => Box3 w W K 2 1) (G := fun W => Code.wp _ _ _ _ W) _ W3.out ?_
      clear W3
      intro W M
      refine wp_region_held_drew (S := fun W' => Box3 w W' K 2 1) (by kernel_rfl) M.drew (fun (hH : Box3 w W.drew K 2 1) => ?_)
      refine takeTo2 0 (v := ?_) rfl (some 7) rfl (by kernel_rfl) (by kernel_rfl) (by kernel_rfl) (fun _ _ _ h => h) (Or.inl ⟨by rfl, ?_⟩) hH ?_
      rotate_left
      · intro w' hS
        have c0 := hS.c0; have c1 := hS.c1; have c2 := hS.c2
        go_simp
        try (with_reducible rfl)
      simp only [Act.put, List.setIfInBounds_toArray, List.set_cons_zero, List.set_cons_succ]
      refine takeTo2 1 (v := ?_) rfl (some 8) rfl (by kernel_rfl) (by kernel_rfl) (by kernel_rfl) (fun _ _ _ h => h) (Or.inl ⟨by rfl, ?_⟩) hH ?_
      rotate_left
      · intro w' hS
        have c0 := hS.c0; have c1 := hS.c1; have c2 := hS.c2
        go_simp
        try (with_reducible rfl)
      simp only [Act.put, List.setIfInBounds_toArray, List.set_cons_zero, List.set_cons_succ]
      refine takeTo2 2 (v := ?_) rfl (some 9) rfl (by kernel_rfl) (by kernel_rfl) (by kernel_rfl) (fun _ _ _ h => h) (Or.inl ⟨by rfl, ?_⟩) hH ?_
      rotate_left
      · intro w' hS
        have c0 := hS.c0; have c1 := hS.c1; have c2 := hS.c2
        go_simp
        try (with_reducible rfl)
      simp only [Act.put, List.setIfInBounds_toArray, List.set_cons_zero, List.set_cons_succ]
      refine takeTo2 3 (v := ?_) rfl (some 10) rfl (by kernel_rfl) (by kernel_rfl) (by kernel_rfl) (fun _ _ _ h => h) (Or.inl ⟨by rfl, ?_⟩) hH ?_
      rotate_left
      · intro w' hS
        have c0 := hS.c0; have c1 := hS.c1; have c2 := hS.c2
        go_simp
        try (with_reducible rfl)
      simp only [Act.put, List.setIfInBounds_toArray, List.set_cons_zero, List.set_cons_succ]
      refine takeTo2 4 (v := .int .u8 109) rfl (some 11) rfl (by kernel_rfl) (by kernel_rfl) (by kernel_rfl) (fun _ _ _ h => h) (Or.inl ⟨by rfl, ?_⟩) hH ?_
      · intro w' hS
        go_simp
        try rfl
      simp only [Act.put, List.setIfInBounds_toArray, List.set_cons_zero, List.set_cons_succ]
      refine takeTo2 5 (v := ?_) rfl (some 12) rfl (by kernel_rfl) (by kernel_rfl) (by kernel_rfl) (fun _ _ _ h => h) (Or.inl ⟨by rfl, ?_⟩) hH ?_
      rotate_left
      · intro w' hS
        have c0 := hS.c0; have c1 := hS.c1; have c2 := hS.c2
        go_simp
        try (with_reducible rfl)
      simp only [Act.put, List.setIfInBounds_toArray, List.set_cons_zero, List.set_cons_succ]
      refine takeTo2 6 (v := ?_) rfl (some 13) rfl (by kernel_rfl) (by kernel_rfl) (by kernel_rfl) (fun _ _ _ h => h) (Or.inl ⟨by rfl, ?_⟩) hH ?_
      rotate_left
      · intro w' hS
        have c0 := hS.c0; have c1 := hS.c1; have c2 := hS.c2
        go_simp
        try (with_reducible rfl)
      simp only [Act.put, List.setIfInBounds_toArray, List.set_cons_zero, List.set_cons_succ]
      refine takeTo2 7 (v := .int .u8 114) rfl (some 14) rfl (by kernel_rfl) (by kernel_rfl) (by kernel_rfl) (fun _ _ _ h => h) (Or.inl ⟨by rfl, ?_⟩) hH ?_
      · intro w' hS
        go_simp
        try rfl
      simp only [Act.put, List.setIfInBounds_toArray, List.set_cons_zero, List.set_cons_succ]
      refine wpAnyH_ready (rs := [8]) (by kernel_rfl) (by simp) ?_
      have hH2 := hH.below (belA W.drew (.cells #[.int .u8 109, .int .u8 114] 5))
      have hconv : (convert 85 9 (.slice (some ⟨W.heap.size, 0, none⟩) 2 2)).run Tryz.prog (W.alloc (.cells #[.int .u8 109, .int .u8 114] 5)).drew = .ok (.string ⟨#[109, 114]⟩) (W.alloc (.cells #[.int .u8 109, .int .u8 114] 5)).drew := str_own (w := (W.alloc (.cells #[.int .u8 109, .int .u8 114] 5)).drew) (l := [109, 114]) (B := W.heap.size) (World.ownsRow_lit W #[.int .u8 109, .int .u8 114] 2 (Nat.le_refl _) (by decide) rfl).drew
      refine consRun2 rfl rfl (some 15) rfl (.slice (some ⟨W.heap.size, 0, none⟩) 2 2) (W.drew.alloc (.cells #[.int .u8 109, .int .u8 114] 5)) (by first | (go_simp; done) | rfl) hH2 ?_ AllReadyH.nil
      simp only [Act.put, List.setIfInBounds_toArray, List.set_cons_zero, List.set_cons_succ]
      refine wpAnyH_ready (rs := [9]) (by kernel_rfl) (by simp) ?_
      refine consRun2 rfl rfl (some 16) rfl (.string ⟨#[109, 114]⟩) (W.drew.alloc (.cells #[.int .u8 109, .int .u8 114] 5)) (by first | (go_simp; done) | rfl) hH2 ?_ AllReadyH.nil
      simp only [Act.put, List.setIfInBounds_toArray, List.set_cons_zero, List.set_cons_succ]
      refine wpAnyH_ready (rs := [10]) (by kernel_rfl) (by simp) ?_
      refine consCall2 rfl rfl (some 17) rfl 71 #[.string K, .string ⟨#[109, 114]⟩] (by first | (go_simp; done) | rfl) (CC.out _ 109 114 hH2.mx) ?_ AllReadyH.nil
      rintro e w1 ⟨rfl, rfl⟩
      refine ⟨_, rfl, hH2, ?_⟩
      simp only [Act.put, List.setIfInBounds_toArray, List.set_cons_zero, List.set_cons_succ]
      clear hconv
      refine takeTo2 11 (v := ?_) rfl (some 6) rfl (by kernel_rfl) (by kernel_rfl) (by kernel_rfl) (fun _ _ _ h => h) (Or.inl ⟨by rfl, ?_⟩) hH2 ?_
      rotate_left
      · intro w' hS
        have c0 := hS.c0; have c1 := hS.c1; have c2 := hS.c2
        go_simp
        try (with_reducible rfl)
      simp only [Act.put, List.setIfInBounds_toArray, List.set_cons_zero, List.set_cons_succ]
      refine wpAnyH_done (by kernel_rfl) ?_ _
      go_wp2
      go_ret
      exact ⟨rfl, hH2.be⟩
    · go_enter Tryz.func53, Tryz.ntmps53
      go_upto_region 1 with fail
      refine absW (T := fun W => Box3 w W K 2 2) (G := fun W => Code.wp _ _ _ _ W) _ W3.out ?_
      clear W3
      intro W M
      refine wp_region_held_drew (S := fun W' => Box3 w W' K 2 2) (by kernel_rfl) M.drew (fun (hH : Box3 w W.drew K 2 2) => ?_)
      refine takeTo2 0 (v := ?_) rfl (some 7) rfl (by kernel_rfl) (by kernel_rfl) (by kernel_rfl) (fun _ _ _ h => h) (Or.inl ⟨by rfl, ?_⟩) hH ?_
      rotate_left
      · intro w' hS
        have c0 := hS.c0; have c1 := hS.c1; have c2 := hS.c2
        go_simp
        try (with_reducible rfl)
      simp only [Act.put, List.setIfInBounds_toArray, List.set_cons_zero, List.set_cons_succ]
      refine takeTo2 1 (v := ?_) rfl (some 8) rfl (by kernel_rfl) (by kernel_rfl) (by kernel_rfl) (fun _ _ _ h => h) (Or.inl ⟨by rfl, ?_⟩) hH ?_
      rotate_left
      · intro w' hS
        have c0 := hS.c0; have c1 := hS.c1; have c2 := hS.c2
        go_simp
        try (with_reducible rfl)
      simp only [Act.put, List.setIfInBounds_toArray, List.set_cons_zero, List.set_cons_succ]
      refine takeTo2 2 (v := ?_) rfl (some 9) rfl (by kernel_rfl) (by kernel_rfl) (by kernel_rfl) (fun _ _ _ h => h) (Or.inl ⟨by rfl, ?_⟩) hH ?_
      rotate_left
      · intro w' hS
        have c0 := hS.c0; have c1 := hS.c1; have c2 := hS.c2
        go_simp
        try (with_reducible rfl)
      simp only [Act.put, List.setIfInBounds_toArray, List.set_cons_zero, List.set_cons_succ]
      refine takeTo2 3 (v := ?_) rfl (some 10) rfl (by kernel_rfl) (by kernel_rfl) (by kernel_rfl) (fun _ _ _ h => h) (Or.inl ⟨by rfl, ?_⟩) hH ?_
      rotate_left
      · intro w' hS
        have c0 := hS.c0; have c1 := hS.c1; have c2 := hS.c2
        go_simp
        try (with_reducible rfl)
      simp only [Act.put, List.setIfInBounds_toArray, List.set_cons_zero, List.set_cons_succ]
      refine takeTo2 4 (v := .int .u8 109) rfl (some 11) rfl (by kernel_rfl) (by kernel_rfl) (by kernel_rfl) (fun _ _ _ h => h) (Or.inl ⟨by rfl, ?_⟩) hH ?_
      · intro w' hS
        go_simp
        try rfl
      simp only [Act.put, List.setIfInBounds_toArray, List.set_cons_zero, List.set_cons_succ]
      refine takeTo2 5 (v := ?_) rfl (some 12) rfl (by kernel_rfl) (by kernel_rfl) (by kernel_rfl) (fun _ _ _ h => h) (Or.inl ⟨by rfl, ?_⟩) hH ?_
      rotate_left
      · intro w' hS
        have c0 := hS.c0; have c1 := hS.c1; have c2 := hS.c2
        go_simp
        try (with_reducible rfl)
      simp only [Act.put, List.setIfInBounds_toArray, List.set_cons_zero, List.set_cons_succ]
      refine takeTo2 6 (v := ?_) rfl (some 13) rfl (by kernel_rfl) (by kernel_rfl) (by kernel_rfl) (fun _ _ _ h => h) (Or.inl ⟨by rfl, ?_⟩) hH ?_
      rotate_left
      · intro w' hS
        have c0 := hS.c0; have c1 := hS.c1; have c2 := hS.c2
        go_simp
        try (with_reducible rfl)
      simp only [Act.put, List.setIfInBounds_toArray, List.set_cons_zero, List.set_cons_succ]
      refine takeTo2 7 (v := .int .u8 109) rfl (some 14) rfl (by kernel_rfl) (by kernel_rfl) (by kernel_rfl) (fun _ _ _ h => h) (Or.inl ⟨by rfl, ?_⟩) hH ?_
      · intro w' hS
        go_simp
        try rfl
      simp only [Act.put, List.setIfInBounds_toArray, List.set_cons_zero, List.set_cons_succ]
      refine wpAnyH_ready (rs := [8]) (by kernel_rfl) (by simp) ?_
      have hH2 := hH.below (belA W.drew (.cells #[.int .u8 109, .int .u8 109] 5))
      have hconv : (convert 85 9 (.slice (some ⟨W.heap.size, 0, none⟩) 2 2)).run Tryz.prog (W.alloc (.cells #[.int .u8 109, .int .u8 109] 5)).drew = .ok (.string ⟨#[109, 109]⟩) (W.alloc (.cells #[.int .u8 109, .int .u8 109] 5)).drew := str_own (w := (W.alloc (.cells #[.int .u8 109, .int .u8 109] 5)).drew) (l := [109, 109]) (B := W.heap.size) (World.ownsRow_lit W #[.int .u8 109, .int .u8 109] 2 (Nat.le_refl _) (by decide) rfl).drew
      refine consRun2 rfl rfl (some 15) rfl (.slice (some ⟨W.heap.size, 0, none⟩) 2 2) (W.drew.alloc (.cells #[.int .u8 109, .int .u8 109] 5)) (by first | (go_simp; done) | rfl) hH2 ?_ AllReadyH.nil
      simp only [Act.put, List.setIfInBounds_toArray, List.set_cons_zero, List.set_cons_succ]
      refine wpAnyH_ready (rs := [9]) (by kernel_rfl) (by simp) ?_
      refine consRun2 rfl rfl (some 16) rfl (.string ⟨#[109, 109]⟩) (W.drew.alloc (.cells #[.int .u8 109, .int .u8 109] 5)) (by first | (go_simp; done) | rfl) hH2 ?_ AllReadyH.nil
      simp only [Act.put, List.setIfInBounds_toArray, List.set_cons_zero, List.set_cons_succ]
      refine wpAnyH_ready (rs := [10]) (by kernel_rfl) (by simp) ?_
      refine consCall2 rfl rfl (some 17) rfl 71 #[.string K, .string ⟨#[109, 109]⟩] (by first | (go_simp; done) | rfl) (CC.out _ 109 109 hH2.mx) ?_ AllReadyH.nil
      rintro e w1 ⟨rfl, rfl⟩
      refine ⟨_, rfl, hH2, ?_⟩
      simp only [Act.put, List.setIfInBounds_toArray, List.set_cons_zero, List.set_cons_succ]
      clear hconv
      refine takeTo2 11 (v := ?_) rfl (some 6) rfl (by kernel_rfl) (by kernel_rfl) (by kernel_rfl) (fun _ _ _ h => h) (Or.inl ⟨by rfl, ?_⟩) hH2 ?_
      rotate_left
      · intro w' hS
        have c0 := hS.c0; have c1 := hS.c1; have c2 := hS.c2
        go_simp
        try (with_reducible rfl)
      simp only [Act.put, List.setIfInBounds_toArray, List.set_cons_zero, List.set_cons_succ]
      refine wpAnyH_done (by kernel_rfl) ?_ _
      go_wp2
      go_ret
      exact ⟨rfl, hH2.be⟩
    · go_enter Tryz.func53, Tryz.ntmps53
      go_upto_region 1 with fail
      refine absW (T := fun W => Box3 w W K 2 3) (G := fun W => Code.wp _ _ _ _ W) _ W3.out ?_
      clear W3
      intro W M
      refine wp_region_held_drew (S := fun W' => Box3 w W' K 2 3) (by kernel_rfl) M.drew (fun (hH : Box3 w W.drew K 2 3) => ?_)
      refine takeTo2 0 (v := ?_) rfl (some 7) rfl (by kernel_rfl) (by kernel_rfl) (by kernel_rfl) (fun _ _ _ h => h) (Or.inl ⟨by rfl, ?_⟩) hH ?_
      rotate_left
      · intro w' hS
        have c0 := hS.c0; have c1 := hS.c1; have c2 := hS.c2
        go_simp
        try (with_reducible rfl)
      simp only [Act.put, List.setIfInBounds_toArray, List.set_cons_zero, List.set_cons_succ]
      refine takeTo2 1 (v := ?_) rfl (some 8) rfl (by kernel_rfl) (by kernel_rfl) (by kernel_rfl) (fun _ _ _ h => h) (Or.inl ⟨by rfl, ?_⟩) hH ?_
      rotate_left
      · intro w' hS
        have c0 := hS.c0; have c1 := hS.c1; have c2 := hS.c2
        go_simp
        try (with_reducible rfl)
      simp only [Act.put, List.setIfInBounds_toArray, List.set_cons_zero, List.set_cons_succ]
      refine takeTo2 2 (v := ?_) rfl (some 9) rfl (by kernel_rfl) (by kernel_rfl) (by kernel_rfl) (fun _ _ _ h => h) (Or.inl ⟨by rfl, ?_⟩) hH ?_
      rotate_left
      · intro w' hS
        have c0 := hS.c0; have c1 := hS.c1; have c2 := hS.c2
        go_simp
        try (with_reducible rfl)
      simp only [Act.put, List.setIfInBounds_toArray, List.set_cons_zero, List.set_cons_succ]
      refine takeTo2 3 (v := ?_) rfl (some 10) rfl (by kernel_rfl) (by kernel_rfl) (by kernel_rfl) (fun _ _ _ h => h) (Or.inl ⟨by rfl, ?_⟩) hH ?_
      rotate_left
      · intro w' hS
        have c0 := hS.c0; have c1 := hS.c1; have c2 := hS.c2
        go_simp
        try (with_reducible rfl)
      simp only [Act.put, List.setIfInBounds_toArray, List.set_cons_zero, List.set_cons_succ]
      refine takeTo2 4 (v := .int .u8 109) rfl (some 11) rfl (by kernel_rfl) (by kernel_rfl) (by kernel_rfl) (fun _ _ _ h => h) (Or.inl ⟨by rfl, ?_⟩) hH ?_
      · intro w' hS
        go_simp
        try rfl
      simp only [Act.put, List.setIfInBounds_toArray, List.set_cons_zero, List.set_cons_succ]
      refine takeTo2 5 (v := ?_) rfl (some 12) rfl (by kernel_rfl) (by kernel_rfl) (by kernel_rfl) (fun _ _ _ h => h) (Or.inl ⟨by rfl, ?_⟩) hH ?_
      rotate_left
      · intro w' hS
        have c0 := hS.c0; have c1 := hS.c1; have c2 := hS.c2
        go_simp
        try (with_reducible rfl)
      simp only [Act.put, List.setIfInBounds_toArray, List.set_cons_zero, List.set_cons_succ]
      refine takeTo2 6 (v := ?_) rfl (some 13) rfl (by kernel_rfl) (by kernel_rfl) (by kernel_rfl) (fun _ _ _ h => h) (Or.inl ⟨by rfl, ?_⟩) hH ?_
      rotate_left
      · intro w' hS
        have c0 := hS.c0; have c1 := hS.c1; have c2 := hS.c2
        go_simp
        try (with_reducible rfl)
      simp only [Act.put, List.setIfInBounds_toArray, List.set_cons_zero, List.set_cons_succ]
      refine takeTo2 7 (v := .int .u8 105) rfl (some 14) rfl (by kernel_rfl) (by kernel_rfl) (by kernel_rfl) (fun _ _ _ h => h) (Or.inl ⟨by rfl, ?_⟩) hH ?_
      · intro w' hS
        go_simp
        try rfl
      simp only [Act.put, List.setIfInBounds_toArray, List.set_cons_zero, List.set_cons_succ]
      refine wpAnyH_ready (rs := [8]) (by kernel_rfl) (by simp) ?_
      have hH2 := hH.below (belA W.drew (.cells #[.int .u8 109, .int .u8 105] 5))
      have hconv : (convert 85 9 (.slice (some ⟨W.heap.size, 0, none⟩) 2 2)).run Tryz.prog (W.alloc (.cells #[.int .u8 109, .int .u8 105] 5)).drew = .ok (.string ⟨#[109, 105]⟩) (W.alloc (.cells #[.int .u8 109, .int .u8 105] 5)).drew := str_own (w := (W.alloc (.cells #[.int .u8 109, .int .u8 105] 5)).drew) (l := [109, 105]) (B := W.heap.size) (World.ownsRow_lit W #[.int .u8 109, .int .u8 105] 2 (Nat.le_refl _) (by decide) rfl).drew
      refine consRun2 rfl rfl (some 15) rfl (.slice (some ⟨W.heap.size, 0, none⟩) 2 2) (W.drew.alloc (.cells #[.int .u8 109, .int .u8 105] 5)) (by first | (go_simp; done) | rfl) hH2 ?_ AllReadyH.nil
      simp only [Act.put, List.setIfInBounds_toArray, List.set_cons_zero, List.set_cons_succ]
      refine wpAnyH_ready (rs := [9]) (by kernel_rfl) (by simp) ?_
      refine consRun2 rfl rfl (some 16) rfl (.string ⟨#[109, 105]⟩) (W.drew.alloc (.cells #[.int .u8 109, .int .u8 105] 5)) (by first | (go_simp; done) | rfl) hH2 ?_ AllReadyH.nil
      simp only [Act.put, List.setIfInBounds_toArray, List.set_cons_zero, List.set_cons_succ]
      refine wpAnyH_ready (rs := [10]) (by kernel_rfl) (by simp) ?_
      refine consCall2 rfl rfl (some 17) rfl 71 #[.string K, .string ⟨#[109, 105]⟩] (by first | (go_simp; done) | rfl) (CC.out _ 109 105 hH2.mx) ?_ AllReadyH.nil
      rintro e w1 ⟨rfl, rfl⟩
      refine ⟨_, rfl, hH2, ?_⟩
      simp only [Act.put, List.setIfInBounds_toArray, List.set_cons_zero, List.set_cons_succ]
      clear hconv
      refine takeTo2 11 (v := ?_) rfl (some 6) rfl (by kernel_rfl) (by kernel_rfl) (by kernel_rfl) (fun _ _ _ h => h) (Or.inl ⟨by rfl, ?_⟩) hH2 ?_
      rotate_left
      · intro w' hS
        have c0 := hS.c0; have c1 := hS.c1; have c2 := hS.c2
        go_simp
        try (with_reducible rfl)
      simp only [Act.put, List.setIfInBounds_toArray, List.set_cons_zero, List.set_cons_succ]
      refine wpAnyH_done (by kernel_rfl) ?_ _
      go_wp2
      go_ret
      exact ⟨rfl, hH2.be⟩
  · rcases hy with rfl | rfl | rfl | rfl
    · go_enter Tryz.func53, Tryz.ntmps53
      go_upto_region 1 with fail
      refine absW (T := fun W => Box3 w W K 3 0) (G := fun W => Code.wp _ _ _ _ W) _ W3.out ?_
      clear W3
      intro W M
      refine wp_region_held_drew (S := fun W' => Box3 w W' K 3 0) (by kernel_rfl) M.drew (fun (hH : Box3 w W.drew K 3 0) => ?_)
      refine takeTo2 0 (v := ?_) rfl (some 7) rfl (by kernel_rfl) (by kernel_rfl) (by kernel_rfl) (fun _ _ _ h => h) (Or.inl ⟨by rfl, ?_⟩) hH ?_
      rotate_left
      · intro w' hS
        have c0 := hS.c0; have c1 := hS.c1; have c2 := hS.c2
        go_simp
        try (with_reducible rfl)
      simp only [Act.put, List.setIfInBounds_toArray, List.set_cons_zero, List.set_cons_succ]
      refine takeTo2 1 (v := ?_) rfl (some 8) rfl (by kernel_rfl) (by kernel_rfl) (by kernel_rfl) (fun _ _ _ h => h) (Or.inl ⟨by rfl, ?_⟩) hH ?_
      rotate_left
      · intro w' hS
        have c0 := hS.c0; have c1 := hS.c1; have c2 := hS.c2
        go_simp
        try (with_reducible rfl)
      simp only [Act.put, List.setIfInBounds_toArray, List.set_cons_zero, List.set_cons_succ]
      refine takeTo2 2 (v := ?_) rfl (some 9) rfl (by kernel_rfl) (by kernel_rfl) (by kernel_rfl) (fun _ _ _ h => h) (Or.inl ⟨by rfl, ?_⟩) hH ?_
      rotate_left
      · intro w' hS
        have c0 := hS.c0; have c1 := hS.c1; have c2 := hS.c2
        go_simp
        try (with_reducible rfl)
      simp only [Act.put, List.setIfInBounds_toArray, List.set_cons_zero, List.set_cons_succ]
      refine takeTo2 3 (v := ?_) rfl (some 10) rfl (by kernel_rfl) (by kernel_rfl) (by kernel_rfl) (fun _ _ _ h => h) (Or.inl ⟨by rfl, ?_⟩) hH ?_
      rotate_left
      · intro w' hS
        have c0 := hS.c0; have c1 := hS.c1; have c2 := hS.c2
        go_simp
        try (with_reducible rfl)
      simp only [Act.put, List.setIfInBounds_toArray, List.set_cons_zero, List.set_cons_succ]
      refine takeTo2 4 (v := .int .u8 105) rfl (some 11) rfl (by kernel_rfl) (by kernel_rfl) (by kernel_rfl) (fun _ _ _ h => h) (Or.inl ⟨by rfl, ?_⟩) hH ?_
      · intro w' hS
        go_simp
        try rfl
      simp only [Act.put, List.setIfInBounds_toArray, List.set_cons_zero, List.set_cons_succ]
      refine takeTo2 5 (v := ?_) rfl (some 12) rfl (by kernel_rfl) (by kernel_rfl) (by kernel_rfl) (fun _ _ _ h => h) (Or.inl ⟨by rfl, ?_⟩) hH ?_
      rotate_left
      · intro w' hS
        have c0 := hS.c0; have c1 := hS.c1; have c2 := hS.c2
        go_simp
        try (with_reducible rfl)
      simp only [Act.put, List.setIfInBounds_toArray, List.set_cons_zero, List.set_cons_succ]
      refine takeTo2 6 (v := ?_) rfl (some 13) rfl (by kernel_rfl) (by kernel_rfl) (by kernel_rfl) (fun _ _ _ h => h) (Or.inl ⟨by rfl, ?_⟩) hH ?_
      rotate_left
      · intro w' hS
        have c0 := hS.c0; have c1 := hS.c1; have c2 := hS.c2
        go_simp
        try (with_reducible rfl)
      simp only [Act.put, List.setIfInBounds_toArray, List.set_cons_zero, List.set_cons_succ]
      refine takeTo2 7 (v := .int .u8 45) rfl (some 14) rfl (by kernel_rfl) (by kernel_rfl) (by kernel_rfl) (fun _ _ _ h => h) (Or.inl ⟨by rfl, ?_⟩) hH ?_
      · intro w' hS
        go_simp
        try rfl
      simp only [Act.put, List.setIfInBounds_toArray, List.set_cons_zero, List.set_cons_succ]
      refine wpAnyH_ready (rs := [8]) (by kernel_rfl) (by simp) ?_
      have hH2 := hH.below (belA W.drew (.cells #[.int .u8 105, .int .u8 45] 5))
      have hconv : (convert 85 9 (.slice (some ⟨W.heap.size, 0, none⟩) 2 2)).run Tryz.prog (W.alloc (.cells #[.int .u8 105, .int .u8 45] 5)).drew = .ok (.string ⟨#[105, 45]⟩) (W.alloc (.cells #[.int .u8 105, .int .u8 45] 5)).drew := str_own (w := (W.alloc (.cells #[.int .u8 105, .int .u8 45] 5)).drew) (l := [105, 45]) (B := W.heap.size) (World.ownsRow_lit W #[.int .u8 105, .int .u8 45] 2 (Nat.le_refl _) (by decide) rfl).drew
      refine consRun2 rfl rfl (some 15) rfl (.slice (some ⟨W.heap.size, 0, none⟩) 2 2) (W.drew.alloc (.cells #[.int .u8 105, .int .u8 45] 5)) (by first | (go_simp; done) | rfl) hH2 ?_ AllReadyH.nil
      simp only [Act.put, List.setIfInBounds_toArray, List.set_cons_zero, List.set_cons_succ]
      refine wpAnyH_ready (rs := [9]) (by kernel_rfl) (by simp) ?_
      refine consRun2 rfl rfl (some 16) rfl (.string ⟨#[105, 45]⟩) (W.drew.alloc (.cells #[.int .u8 105, .int .u8 45] 5)) (by first | (go_simp; done) | rfl) hH2 ?_ AllReadyH.nil
      simp only [Act.put, List.setIfInBounds_toArray, List.set_cons_zero, List.set_cons_succ]
      refine wpAnyH_ready (rs := [10]) (by kernel_rfl) (by simp) ?_
      refine consCall2 rfl rfl (some 17) rfl 71 #[.string K, .string ⟨#[105, 45]⟩] (by first | (go_simp; done) | rfl) (CC.out _ 105 45 hH2.mx) ?_ AllReadyH.nil
      rintro e w1 ⟨rfl, rfl⟩
      refine ⟨_, rfl, hH2, ?_⟩
      simp only [Act.put, List.setIfInBounds_toArray, List.set_cons_zero, List.set_cons_succ]
      clear hconv
      refine takeTo2 11 (v := ?_) rfl (some 6) rfl (by kernel_rfl) (by kernel_rfl) (by kernel_rfl) (fun _ _ _ h => h) (Or.inl ⟨by rfl, ?_⟩) hH2 ?_
      rotate_left
      · intro w' hS
        have c0 := hS.c0; have c1 := hS.c1; have c2 := hS.c2
        go_simp
        try (with_reducible rfl)
      simp only [Act.put, List.setIfInBounds_toArray, List.set_cons_zero, List.set_cons_succ]
      refine wpAnyH_done (by kernel_rfl) ?_ _
      go_wp2
      go_ret
      exact ⟨rfl, hH2.be⟩
    · go_enter Tryz.func53, Tryz.ntmps53
      go_upto_region 1 with fail
      refine absW (T := fun W => Box3 w W K 3 1) (G := fun W => Code.wp _ _ _ _ W) _ W3.out ?_
      clear W3
      intro W M
      refine wp_region_held_drew (S := fun W' => Box3 w W' K 3 1) (by kernel_rfl) M.drew (fun (hH : Box3 w W.drew K 3 1) => ?_)
      refine takeTo2 0 (v := ?_) rfl (some 7) rfl (by kernel_rfl) (by kernel_rfl) (by kernel_rfl) (fun _ _ _ h => h) (Or.inl ⟨by rfl, ?_⟩) hH ?_
      rotate_left
      · intro w' hS
        have c0 := hS.c0; have c1 := hS.c1; have c2 := hS.c2
        go_simp
        try (with_reducible rfl)
      simp only [Act.put, List.setIfInBounds_toArray, List.set_cons_zero, List.set_cons_succ]
      refine takeTo2 1 (v := ?_) rfl (some 8) rfl (by kernel_rfl) (by kernel_rfl) (by kernel_rfl) (fun _ _ _ h => h) (Or.inl ⟨by rfl, ?_⟩) hH ?_
      rotate_left
      · intro w' hS
        have c0 := hS.c0; have c1 := hS.c1; have c2 := hS.c2
        go_simp
        try (with_reducible rfl)
      simp only [Act.put, List.setIfInBounds_toArray, List.set_cons_zero, List.set_cons_succ]
      refine takeTo2 2 (v := ?_) rfl (some 9) rfl (by kernel_rfl) (by kernel_rfl) (by kernel_rfl) (fun _ _ _ h => h) (Or.inl ⟨by rfl, ?_⟩) hH ?_
      rotate_left
      · intro w' hS
        have c0 := hS.c0; have c1 := hS.c1; have c2 := hS.c2
        go_simp
        try (with_reducible rfl)
      simp only [Act.put, List.setIfInBounds_toArray, List.set_cons_zero, List.set_cons_succ]
      refine takeTo2 3 (v := ?_) rfl (some 10) rfl (by kernel_rfl) (by kernel_rfl) (by kernel_rfl) (fun _ _ _ h => h) (Or.inl ⟨by rfl, ?_⟩) hH ?_
      rotate_left
      · intro w' hS
        have c0 := hS.c0; have c1 := hS.c1; have c2 := hS.c2
        go_simp
        try (with_reducible rfl)
      simp only [Act.put, List.setIfInBounds_toArray, List.set_cons_zero, List.set_cons_succ]
      refine takeTo2 4 (v := .int .u8 105) rfl (some 11) rfl (by kernel_rfl) (by kernel_rfl) (by kernel_rfl) (fun _ _ _ h => h) (Or.inl ⟨by rfl, ?_⟩) hH ?_
      · intro w' hS
        go_simp
        try rfl
      simp only [Act.put, List.setIfInBounds_toArray, List.set_cons_zero, List.set_cons_succ]
      refine takeTo2 5 (v := ?_) rfl (some 12) rfl (by kernel_rfl) (by kernel_rfl) (by kernel_rfl) (fun _ _ _ h => h) (Or.inl ⟨by rfl, ?_⟩) hH ?_
      rotate_left
      · intro w' hS
        have c0 := hS.c0; have c1 := hS.c1; have c2 := hS.c2
        go_simp
        try (with_reducible rfl)
      simp only [Act.put, List.setIfInBounds_toArray, List.set_cons_zero, List.set_cons_succ]
      refine takeTo2 6 (v := ?_) rfl (some 13) rfl (by kernel_rfl) (by kernel_rfl) (by kernel_rfl) (fun _ _ _ h => h) (Or.inl ⟨by rfl, ?_⟩) hH ?_
      rotate_left
      · intro w' hS
        have c0 := hS.c0; have c1 := hS.c1; have c2 := hS.c2
        go_simp
        try (with_reducible rfl)
      simp only [Act.put, List.setIfInBounds_toArray, List.set_cons_zero, List.set_cons_succ]
      refine takeTo2 7 (v := .int .u8 114) rfl (some 14) rfl (by kernel_rfl) (by kernel_rfl) (by kernel_rfl) (fun _ _ _ h => h) (Or.inl ⟨by rfl, ?_⟩) hH ?_
      · intro w' hS
        go_simp
        try rfl
      simp only [Act.put, List.setIfInBounds_toArray, List.set_cons_zero, List.set_cons_succ]
      refine wpAnyH_ready (rs := [8]) (by kernel_rfl) (by simp) ?_
      have hH2 := hH.below (belA W.drew (.cells #[.int .u8 105, .int .u8 114] 5))
      have hconv : (convert 85 9 (.slice (some ⟨W.heap.size, 0, none⟩) 2 2)).run Tryz.prog (W.alloc (.cells #[.int .u8 105, .int .u8 114] 5)).drew = .ok (.string ⟨#[105, 114]⟩) (W.alloc (.cells #[.int .u8 105, .int .u8 114] 5)).drew := str_own (w := (W.alloc (.cells #[.int .u8 105, .int .u8 114] 5)).drew) (l := [105, 114]) (B := W.heap.size) (World.ownsRow_lit W #[.int .u8 105, .int .u8 114] 2 (Nat.le_refl _) (by decide) rfl).drew
      refine consRun2 rfl rfl (some 15) rfl (.slice (some ⟨W.heap.size, 0, none⟩) 2 2) (W.drew.alloc (.cells #[.int .u8 105, .int .u8 114] 5)) (by first | (go_simp; done) | rfl) hH2 ?_ AllReadyH.nil
      simp only [Act.put, List.setIfInBounds_toArray, List.set_cons_zero, List.set_cons_succ]
      refine wpAnyH_ready (rs := [9]) (by kernel_rfl) (by simp) ?_
      refine consRun2 rfl rfl (some 16) rfl (.string ⟨#[105, 114]⟩) (W.drew.alloc (.cells #[.int .u8 105, .int .u8 114] 5)) (by first | (go_simp; done) | rfl) hH2 ?_ AllReadyH.nil
      simp only [Act.put, List.setIfInBounds_toArray, List.set_cons_zero, List.set_cons_succ]
      refine wpAnyH_ready (rs := [10]) (by kernel_rfl) (by simp) ?_
      refine consCall2 rfl rfl (some 17) rfl 71 #[.string K, .string ⟨#[105, 114]⟩] (by first | (go_simp; done) | rfl) (CC.out _ 105 114 hH2.mx) ?_ AllReadyH.nil
      rintro e w1 ⟨rfl, rfl⟩
      refine ⟨_, rfl, hH2, ?_⟩
      simp only [Act.put, List.setIfInBounds_toArray, List.set_cons_zero, List.set_cons_succ]
      clear hconv
      refine takeTo2 11 (v := ?_) rfl (some 6) rfl (by kernel_rfl) (by kernel_rfl) (by kernel_rfl) (fun _ _ _ h => h) (Or.inl ⟨by rfl, ?_⟩) hH2 ?_
      rotate_left
      · intro w' hS
        have c0 := hS.c0; have c1 := hS.c1; have c2 := hS.c2
        go_simp
        try (with_reducible rfl)
      simp only [Act.put, List.setIfInBounds_toArray, List.set_cons_zero, List.set_cons_succ]
      refine wpAnyH_done (by kernel_rfl) ?_ _
      go_wp2
      go_ret
      exact ⟨rfl, hH2.be⟩
    · go_enter Tryz.func53, Tryz.ntmps53
      go_upto_region 1 with fail
      refine absW (T := fun W => Box3 w W K 3 2) (G := fun W => Code.wp _ _ _ _ W) _ W3.out ?_
      clear W3
      intro W M
      refine wp_region_held_drew (S := fun W' => Box3 w W' K 3 2) (by kernel_rfl) M.drew (fun (hH : Box3 w W.drew K 3 2) => ?_)
      refine takeTo2 0 (v := ?_) rfl (some 7) rfl (by kernel_rfl) (by kernel_rfl) (by kernel_rfl) (fun _ _ _ h => h) (Or.inl ⟨by rfl, ?_⟩) hH ?_
      rotate_left
      · intro w' hS
        have c0 := hS.c0; have c1 := hS.c1; have c2 := hS.c2
        go_simp
        try (with_reducible rfl)
      simp only [Act.put, List.setIfInBounds_toArray, List.set_cons_zero, List.set_cons_succ]
      refine takeTo2 1 (v := ?_) rfl (some 8) rfl (by kernel_rfl) (by kernel_rfl) (by kernel_rfl) (fun _ _ _ h => h) (Or.inl ⟨by rfl, ?_⟩) hH ?_
      rotate_left
      · intro w' hS
        have c0 := hS.c0; have c1 := hS.c1; have c2 := hS.c2
        go_simp
        try (with_reducible rfl)
      simp only [Act.put, List.setIfInBounds_toArray, List.set_cons_zero, List.set_cons_succ]
      refine takeTo2 2 (v := ?_) rfl (some 9) rfl (by kernel_rfl) (by kernel_rfl) (by kernel_rfl) (fun _ _ _ h => h) (Or.inl ⟨by rfl, ?_⟩) hH ?_
      rotate_left
      · intro w' hS
        have c0 := hS.c0; have c1 := hS.c1; have c2 := hS.c2
        go_simp
        try (with_reducible rfl)
      simp only [Act.put, List.setIfInBounds_toArray, List.set_cons_zero, List.set_cons_succ]
      refine takeTo2 3 (v := ?_) rfl (some 10) rfl (by kernel_rfl) (by kernel_rfl) (by kernel_rfl) (fun _ _ _ h => h) (Or.inl ⟨by rfl, ?_⟩) hH ?_
      rotate_left
      · intro w' hS
        have c0 := hS.c0; have c1 := hS.c1; have c2 := hS.c2
        go_simp
        try (with_reducible rfl)
      simp only [Act.put, List.setIfInBounds_toArray, List.set_cons_zero, List.set_cons_succ]
      refine takeTo2 4 (v := .int .u8 105) rfl (some 11) rfl (by kernel_rfl) (by kernel_rfl) (by kernel_rfl) (fun _ _ _ h => h) (Or.inl ⟨by rfl, ?_⟩) hH ?_
      · intro w' hS
        go_simp
        try rfl
      simp only [Act.put, List.setIfInBounds_toArray, List.set_cons_zero, List.set_cons_succ]
      refine takeTo2 5 (v := ?_) rfl (some 12) rfl (by kernel_rfl) (by kernel_rfl) (by kernel_rfl) (fun _ _ _ h => h) (Or.inl ⟨by rfl, ?_⟩) hH ?_
      rotate_left
      · intro w' hS
        have c0 := hS.c0; have c1 := hS.c1; have c2 := hS.c2
        go_simp
        try (with_reducible rfl)
      simp only [Act.put, List.setIfInBounds_toArray, List.set_cons_zero, List.set_cons_succ]
      refine takeTo2 6 (v := ?_) rfl (some 13) rfl (by kernel_rfl) (by kernel_rfl) (by kernel_rfl) (fun _ _ _ h => h) (Or.inl ⟨by rfl, ?_⟩) hH ?_
      rotate_left
      · intro w' hS
        have c0 := hS.c0; have c1 := hS.c1; have c2 := hS.c2
        go_simp
        try (with_reducible rfl)
      simp only [Act.put, List.setIfInBounds_toArray, List.set_cons_zero, List.set_cons_succ]
      refine takeTo2 7 (v := .int .u8 109) rfl (some 14) rfl (by kernel_rfl) (by kernel_rfl) (by kernel_rfl) (fun _ _ _ h => h) (Or.inl ⟨by rfl, ?_⟩) hH ?_
      · intro w' hS
        go_simp
        try rfl
      simp only [Act.put, List.setIfInBounds_toArray, List.set_cons_zero, List.set_cons_succ]
      refine wpAnyH_ready (rs := [8]) (by kernel_rfl) (by simp) ?_
      have hH2 := hH.below (belA W.drew (.cells #[.int .u8 105, .int .u8 109] 5))
      have hconv : (convert 85 9 (.slice (some ⟨W.heap.size, 0, none⟩) 2 2)).run Tryz.prog (W.alloc (.cells #[.int .u8 105, .int .u8 109] 5)).drew = .ok (.string ⟨#[105, 109]⟩) (W.alloc (.cells #[.int .u8 105, .int .u8 109] 5)).drew := str_own (w := (W.alloc (.cells #[.int .u8 105, .int .u8 109] 5)).drew) (l := [105, 109]) (B := W.heap.size) (World.ownsRow_lit W #[.int .u8 105, .int .u8 109] 2 (Nat.le_refl _) (by decide) rfl).drew
      refine consRun2 rfl rfl (some 15) rfl (.slice (some ⟨W.heap.size, 0, none⟩) 2 2) (W.drew.alloc (.cells #[.int .u8 105, .int .u8 109] 5)) (by first | (go_simp; done) | rfl) hH2 ?_ AllReadyH.nil
      simp only [Act.put, List.setIfInBounds_toArray, List.set_cons_zero, List.set_cons_succ]
      refine wpAnyH_ready (rs := [9]) (by kernel_rfl) (by simp) ?_
      refine consRun2 rfl rfl (some 16) rfl (.string ⟨#[105, 109]⟩) (W.drew.alloc (.cells #[.int .u8 105, .int .u8 109] 5)) (by first | (go_simp; done) | rfl) hH2 ?_ AllReadyH.nil
      simp only [Act.put, List.setIfInBounds_toArray, List.set_cons_zero, List.set_cons_succ]
      refine wpAnyH_ready (rs := [10]) (by kernel_rfl) (by simp) ?_
      refine consCall2 rfl rfl (some 17) rfl 71 #[.string K, .string ⟨#[105, 109]⟩] (by first | (go_simp; done) | rfl) (CC.out _ 105 109 hH2.mx) ?_ AllReadyH.nil
      rintro e w1 ⟨rfl, rfl⟩
      refine ⟨_, rfl, hH2, ?_⟩
      simp only [Act.put, List.setIfInBounds_toArray, List.set_cons_zero, List.set_cons_succ]
      clear hconv
      refine takeTo2 11 (v := ?_) rfl (some 6) rfl (by kernel_rfl) (by kernel_rfl) (by kernel_rfl) (fun _ _ _ h => h) (Or.inl ⟨by rfl, ?_⟩) hH2 ?_
      rotate_left
      · intro w' hS
        have c0 := hS.c0; have c1 := hS.c1; have c2 := hS.c2
        go_simp
        try (with_reducible rfl)
      simp only [Act.put, List.setIfInBounds_toArray, List.set_cons_zero, List.set_cons_succ]
      refine wpAnyH_done (by kernel_rfl) ?_ _
      go_wp2
      go_ret
      exact ⟨rfl, hH2.be⟩
    · go_enter Tryz.func53, Tryz.ntmps53
      go_upto_region 1 with fail
      refine absW (T := fun W => Box3 w W K 3 3) (G := fun W => Code.wp _ _ _ _ W) _ W3.out ?_
      clear W3
      intro W M
      refine wp_region_held_drew (S := fun W' => Box3 w W' K 3 3) (by kernel_rfl) M.drew (fun (hH : Box3 w W.drew K 3 3) => ?_)
      refine takeTo2 0 (v := ?_) rfl (some 7) rfl (by kernel_rfl) (by kernel_rfl) (by kernel_rfl) (fun _ _ _ h => h) (Or.inl ⟨by rfl, ?_⟩) hH ?_
      rotate_left
      · intro w' hS
        have c0 := hS.c0; have c1 := hS.c1; have c2 := hS.c2
        go_simp
        try (with_reducible rfl)
      simp only [Act.put, List.setIfInBounds_toArray, List.set_cons_zero, List.set_cons_succ]
      refine takeTo2 1 (v := ?_) rfl (some 8) rfl (by kernel_rfl) (by kernel_rfl) (by kernel_rfl) (fun _ _ _ h => h) (Or.inl ⟨by rfl, ?_⟩) hH ?_
      rotate_left
      · intro w' hS
        have c0 := hS.c0; have c1 := hS.c1; have c2 := hS.c2
        go_simp
        try (with_reducible rfl)
      simp only [Act.put, List.setIfInBounds_toArray, List.set_cons_zero, List.set_cons_succ]
      refine takeTo2 2 (v := ?_) rfl (some 9) rfl (by kernel_rfl) (by kernel_rfl) (by kernel_rfl) (fun _ _ _ h => h) (Or.inl ⟨by rfl, ?_⟩) hH ?_
      rotate_left
      · intro w' hS
        have c0 := hS.c0; have c1 := hS.c1; have c2 := hS.c2
        go_simp
        try (with_reducible rfl)
      simp only [Act.put, List.setIfInBounds_toArray, List.set_cons_zero, List.set_cons_succ]
      refine takeTo2 3 (v := ?_) rfl (some 10) rfl (by kernel_rfl) (by kernel_rfl) (by kernel_rfl) (fun _ _ _ h => h) (Or.inl ⟨by rfl, ?_⟩) hH ?_
      rotate_left
      · intro w' hS
        have c0 := hS.c0; have c1 := hS.c1; have c2 := hS.c2
        go_simp
        try (with_reducible rfl)
      simp only [Act.put, List.setIfInBounds_toArray, List.set_cons_zero, List.set_cons_succ]
      refine takeTo2 4 (v := .int .u8 105) rfl (some 11) rfl (by kernel_rfl) (by kernel_rfl) (by kernel_rfl) (fun _ _ _ h => h) (Or.inl ⟨by rfl, ?_⟩) hH ?_
      · intro w' hS
        go_simp
        try rfl
      simp only [Act.put, List.setIfInBounds_toArray, List.set_cons_zero, List.set_cons_succ]
      refine takeTo2 5 (v := ?_) rfl (some 12) rfl (by kernel_rfl) (by kernel_rfl) (by kernel_rfl) (fun _ _ _ h => h) (Or.inl ⟨by rfl, ?_⟩) hH ?_
      rotate_left
      · intro w' hS
        have c0 := hS.c0; have c1 := hS.c1; have c2 := hS.c2
        go_simp
        try (with_reducible rfl)
      simp only [Act.put, List.setIfInBounds_toArray, List.set_cons_zero, List.set_cons_succ]
      refine takeTo2 6 (v := ?_) rfl (some 13) rfl (by kernel_rfl) (by kernel_rfl) (by kernel_rfl) (fun _ _ _ h => h) (Or.inl ⟨by rfl, ?_⟩) hH ?_
      rotate_left
      · intro w' hS
        have c0 := hS.c0; have c1 := hS.c1; have c2 := hS.c2
        go_simp
        try (with_reducible rfl)
      simp only [Act.put, List.setIfInBounds_toArray, List.set_cons_zero, List.set_cons_succ]
      refine takeTo2 7 (v := .int .u8 105) rfl (some 14) rfl (by kernel_rfl) (by kernel_rfl) (by kernel_rfl) (fun _ _ _ h => h) (Or.inl ⟨by rfl, ?_⟩) hH ?_
      · intro w' hS
        go_simp
        try rfl
      simp only [Act.put, List.setIfInBounds_toArray, List.set_cons_zero, List.set_cons_succ]
      refine wpAnyH_ready (rs := [8]) (by kernel_rfl) (by simp) ?_
      have hH2 := hH.below (belA W.drew (.cells #[.int .u8 105, .int .u8 105] 5))
      have hconv : (convert 85 9 (.slice (some ⟨W.heap.size, 0, none⟩) 2 2)).run Tryz.prog (W.alloc (.cells #[.int .u8 105, .int .u8 105] 5)).drew = .ok (.string ⟨#[105, 105]⟩) (W.alloc (.cells #[.int .u8 105, .int .u8 105] 5)).drew := str_own (w := (W.alloc (.cells #[.int .u8 105, .int .u8 105] 5)).drew) (l := [105, 105]) (B := W.heap.size) (World.ownsRow_lit W #[.int .u8 105, .int .u8 105] 2 (Nat.le_refl _) (by decide) rfl).drew
      refine consRun2 rfl rfl (some 15) rfl (.slice (some ⟨W.heap.size, 0, none⟩) 2 2) (W.drew.alloc (.cells #[.int .u8 105, .int .u8 105] 5)) (by first | (go_simp; done) | rfl) hH2 ?_ AllReadyH.nil
      simp only [Act.put, List.setIfInBounds_toArray, List.set_cons_zero, List.set_cons_succ]
      refine wpAnyH_ready (rs := [9]) (by kernel_rfl) (by simp) ?_
      refine consRun2 rfl rfl (some 16) rfl (.string ⟨#[105, 105]⟩) (W.drew.alloc (.cells #[.int .u8 105, .int .u8 105] 5)) (by first | (go_simp; done) | rfl) hH2 ?_ AllReadyH.nil
      simp only [Act.put, List.setIfInBounds_toArray, List.set_cons_zero, List.set_cons_succ]
      refine wpAnyH_ready (rs := [10]) (by kernel_rfl) (by simp) ?_
      refine consCall2 rfl rfl (some 17) rfl 71 #[.string K, .string ⟨#[105, 105]⟩] (by first | (go_simp; done) | rfl) (CC.out _ 105 105 hH2.mx) ?_ AllReadyH.nil
      rintro e w1 ⟨rfl, rfl⟩
      refine ⟨_, rfl, hH2, ?_⟩
      simp only [Act.put, List.setIfInBounds_toArray, List.set_cons_zero, List.set_cons_succ]
      clear hconv
      refine takeTo2 11 (v := ?_) rfl (some 6) rfl (by kernel_rfl) (by kernel_rfl) (by kernel_rfl) (fun _ _ _ h => h) (Or.inl ⟨by rfl, ?_⟩) hH2 ?_
      rotate_left
      · intro w' hS
        have c0 := hS.c0; have c1 := hS.c1; have c2 := hS.c2
        go_simp
        try (with_reducible rfl)
      simp only [Act.put, List.setIfInBounds_toArray, List.set_cons_zero, List.set_cons_succ]
      refine wpAnyH_done (by kernel_rfl) ?_ _
      go_wp2
      go_ret
      exact ⟨rfl, hH2.be⟩
end Go.Proofs.YtjnjlgaemmdkhaaGreatDoor
