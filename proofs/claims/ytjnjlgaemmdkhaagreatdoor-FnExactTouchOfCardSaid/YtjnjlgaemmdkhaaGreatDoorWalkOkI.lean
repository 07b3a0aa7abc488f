/-
  What the parts of impl.InstrOK do: sizes, patterns, kinds, numbers, REX; conditions: those in each head.
-/
import Derived.Test.YtjnjlgaemmdkhaaGreatDoorMathOpd
import Derived.Test.YtjnjlgaemmdkhaaGreatDoorWalkOpd3
import Derived.Test.YtjnjlgaemmdkhaaGreatDoorWalkTab
import Derived.Test.YtjnjlgaemmdkhaaGreatDoorShelf
namespace Go.Proofs.YtjnjlgaemmdkhaaGreatDoor
open Go.RowKit Go.Sort
set_option linter.unusedVariables false
set_option linter.unusedSimpArgs false
/-! what an instruction's parts must be -/
def condP (op : Int) : Prop := op = 33 ∨ op = 35 ∨ op = 36
instance (op : Int) : Decidable (condP op) := by unfold condP; infer_instance
def condK (op cd : Int) : Bool := if condP op then decide (0 ≤ cd ∧ cd ≤ 15) else decide (cd = 0)
def shP (op : Int) : Prop := 20 ≤ op ∧ op ≤ 24
instance (op : Int) : Decidable (shP op) := by unfold shP; infer_instance
def extP (op : Int) : Prop := op = 26 ∨ op = 27
instance (op : Int) : Decidable (extP op) := by unfold extP; infer_instance
def fromP (op sz fr : Int) : Prop := fr < sz ∧ (fr = 1 ∨ fr = 2 ∨ (fr = 4 ∧ op = 27))
instance (op sz fr : Int) : Decidable (fromP op sz fr) := by unfold fromP; infer_instance
def fromK (op sz fr : Int) : Bool := if extP op then decide (fromP op sz fr) else decide (fr = 0)
def szD (x : Ins) : Int := if x.sz = 0 then 8 else x.sz
def szS (x : Ins) : Int := if x.sz = 0 then 8 else if x.fr ≠ 0 then x.fr else if shP x.op then 8 else x.sz
def upP (r : Int) : Prop := 8 ≤ r ∧ r ≤ 15
instance (r : Int) : Decidable (upP r) := by unfold upP; infer_instance
def lowP (x : Opd) (z : Int) : Prop := z = 1 ∧ x.k = 1 ∧ 4 ≤ x.r ∧ x.r ≤ 7
instance (x : Opd) (z : Int) : Decidable (lowP x z) := by unfold lowP; infer_instance
def askK (x : Opd) (z : Int) : Bool := decide (lowP x z ∨ upP x.r ∨ upP x.b ∨ upP x.i)
def fixP (op : Int) : Prop := op = 29 ∨ op = 30 ∨ op = 31 ∨ op = 32 ∨ op = 33 ∨ op = 34 ∨ op = 37 ∨ op = 38 ∨ op = 43 ∨ op = 44
instance (op : Int) : Decidable (fixP op) := by unfold fixP; infer_instance
def wideK (op sz : Int) : Bool := decide (sz = 8 ∧ ¬ fixP op)
def highK (x : Opd) : Bool := decide (x.k = 1 ∧ 15 < x.r)
theorem i8w (v : Int) : IntKind.i8.wrap v = if 128 ≤ v % 256 then v % 256 - 256 else v % 256 := by simp [IntKind.wrap, IntKind.signed, IntKind.bits]
theorem i16w (v : Int) : IntKind.i16.wrap v = if 32768 ≤ v % 65536 then v % 65536 - 65536 else v % 65536 := by simp [IntKind.wrap, IntKind.signed, IntKind.bits]
theorem belA (w : World) (o : Obj) : Below w.heap.size w (w.alloc o) := (Below.refl _ _).alloc (Nat.le_refl _) _
theorem belD {w W : World} (h : Below w.heap.size w W) (q : Nat) : Below w.heap.size w (W.drewN q) := ⟨h.os, h.tape, h.output, h.size, h.block⟩
theorem belRow {w W : World} {cs : Array Value} (h : Below w.heap.size w W) : Below w.heap.size w (W.setRow w.heap.size cs) := ⟨h.os, h.tape, h.output, by rw [setRow_size]; exact h.size, fun i hi => by rw [setRow_other _ _ _ _ (by omega)]; exact h.block i hi⟩
theorem hasCondC2 (op : Int) (w : World) : Calls Tryz.prog 46 #[.int .i64 op] w fun e w' => e = .returned (.bool (decide (condP op))) ∧ w = w' := by
  by_cases h : condP op
  · rw [decide_eq_true h]
    rcases h with rfl | rfl | rfl
    all_goals
      go_enter Tryz.func46, Tryz.ntmps46
      go_wp2
      go_ret
      exact ⟨rfl, rfl⟩
  · rw [decide_eq_false h]
    unfold condP at h
    have n1 : (op == 33) = false := beq_eq_false_iff_ne.mpr (by omega); have n2 : (op == 35) = false := beq_eq_false_iff_ne.mpr (by omega); have n3 : (op == 36) = false := beq_eq_false_iff_ne.mpr (by omega)
    clear h
    go_enter Tryz.func46, Tryz.ntmps46
    go_wp2
    go_ret
    exact ⟨rfl, rfl⟩
theorem cond_full (i : Nat) (hi : i < 16) : (nm condsL i == ⟨#[]⟩) = false := by
  rcases (show i = 0 ∨ i = 1 ∨ i = 2 ∨ i = 3 ∨ i = 4 ∨ i = 5 ∨ i = 6 ∨ i = 7 ∨ i = 8 ∨ i = 9 ∨ i = 10 ∨ i = 11 ∨ i = 12 ∨ i = 13 ∨ i = 14 ∨ i = 15 by omega) with rfl | rfl | rfl | rfl | rfl | rfl | rfl | rfl | rfl | rfl | rfl | rfl | rfl | rfl | rfl | rfl <;> rfl
theorem cond_full2 (i : Nat) (hi : i < 16) : ¬ (nm condsL i).toList = [] := by
  have h : ∀ i, i < 16 → (nm condsL i).toList.isEmpty = false := by decide +kernel
  intro e
  have := h i hi
  rw [e] at this
  cases this
set_option maxHeartbeats 1000000 in
theorem condOkC (x : Ins) (w : World) (hn : Nms w 0 condsL) : Calls Tryz.prog 30 #[.agg (insV x)] w fun e w' => e = .returned (.bool (condK x.op x.cd)) ∧ Below w.heap.size w w' := by
  obtain ⟨op, sz, cd, fr, d, s, ln⟩ := x
  unfold insV insA condK
  have CH := Lib.hid (hasCondC2 op)
  have HN := Lib.hid (fun (v : Array Value) => hn.below (belA w (.cells v 33)))
  clear hn
  simp only
  by_cases h : condP op
  · rw [if_pos h]
    rw [decide_eq_true h] at CH
    clear h
    by_cases hc : 0 ≤ cd ∧ cd ≤ 15
    · rw [decide_eq_true hc]
      obtain ⟨i, rfl⟩ : ∃ i : Nat, cd = (i : Int) := ⟨cd.toNat, by omega⟩
      have CN := Lib.hid (fun W h => condNameI i W (by omega) h)
      have hf := cond_full i (by omega)
      have hf2 := cond_full2 i (by omega)
      clear hc hf
      go_enter Tryz.func30, Tryz.ntmps30
      go_wp2_with fail
      refine (CH.out _).mono ?_
      rintro e w1 ⟨rfl, rfl⟩
      go_wp2_with fail
      refine (CN.out _ (HN.out _)).mono ?_
      rintro e w1 ⟨rfl, rfl⟩
      go_wp2
      go_ret
      exact ⟨ret_bo (by simp [hf2]), (Below.refl _ _).alloc (Nat.le_refl _) _⟩
    · rw [decide_eq_false hc]
      have CN := Lib.hid (fun W => condNameINo cd W (by omega))
      clear hc
      go_enter Tryz.func30, Tryz.ntmps30
      go_wp2_with fail
      refine (CH.out _).mono ?_
      rintro e w1 ⟨rfl, rfl⟩
      go_wp2_with fail
      refine (CN.out _).mono ?_
      rintro e w1 ⟨rfl, rfl⟩
      go_wp2
      go_ret
      exact ⟨rfl, (Below.refl _ _).alloc (Nat.le_refl _) _⟩
  · rw [if_neg h]
    rw [decide_eq_false h] at CH
    clear h
    go_enter Tryz.func30, Tryz.ntmps30
    go_wp2_with fail
    refine (CH.out _).mono ?_
    rintro e w1 ⟨rfl, rfl⟩
    go_wp2
    go_ret
    exact ⟨ret_bo rfl, (Below.refl _ _).alloc (Nat.le_refl _) _⟩
set_option maxHeartbeats 1000000 in
theorem fromOkC (x : Ins) (w : World) : Calls Tryz.prog 31 #[.agg (insV x)] w fun e w' => e = .returned (.bool (fromK x.op x.sz x.fr)) ∧ Below w.heap.size w w' := by
  obtain ⟨op, sz, cd, fr, d, s, ln⟩ := x
  unfold insV insA fromK
  simp only
  by_cases h : extP op
  · rw [if_pos h]
    by_cases hl : fr < sz
    · have dl := decide_eq_true hl
      by_cases h1 : fr = 1
      · rw [decide_eq_true (show fromP op sz fr from ⟨hl, .inl h1⟩)]
        subst h1
        clear hl
        rcases h with rfl | rfl
        all_goals
          go_enter Tryz.func31, Tryz.ntmps31
          go_wp2
          go_ret
          exact ⟨rfl, (Below.refl _ _).alloc (Nat.le_refl _) _⟩
      · by_cases h2 : fr = 2
        · rw [decide_eq_true (show fromP op sz fr from ⟨hl, .inr (.inl h2)⟩)]
          subst h2
          clear hl h1
          rcases h with rfl | rfl
          all_goals
            go_enter Tryz.func31, Tryz.ntmps31
            go_wp2
            go_ret
            exact ⟨rfl, (Below.refl _ _).alloc (Nat.le_refl _) _⟩
        · by_cases h4 : fr = 4
          · subst h4
            clear h1 h2
            rcases h with rfl | rfl
            · rw [decide_eq_false (show ¬ fromP 26 sz 4 from fun e => by rcases e.2 with e | e | e <;> omega)]
              clear hl
              go_enter Tryz.func31, Tryz.ntmps31
              go_wp2
              go_ret
              exact ⟨rfl, (Below.refl _ _).alloc (Nat.le_refl _) _⟩
            · rw [decide_eq_true (show fromP 27 sz 4 from ⟨hl, .inr (.inr ⟨rfl, rfl⟩)⟩)]
              clear hl
              go_enter Tryz.func31, Tryz.ntmps31
              go_wp2
              go_ret
              exact ⟨rfl, (Below.refl _ _).alloc (Nat.le_refl _) _⟩
          · rw [decide_eq_false (show ¬ fromP op sz fr from fun e => by rcases e.2 with e | e | e <;> omega)]
            have n1 : (fr == 1) = false := beq_eq_false_iff_ne.mpr h1; have n2 : (fr == 2) = false := beq_eq_false_iff_ne.mpr h2; have n4 : (fr == 4) = false := beq_eq_false_iff_ne.mpr h4
            clear hl h1 h2 h4
            rcases h with rfl | rfl
            all_goals
              go_enter Tryz.func31, Tryz.ntmps31
              go_wp2
              go_ret
              exact ⟨rfl, (Below.refl _ _).alloc (Nat.le_refl _) _⟩
    · rw [decide_eq_false (show ¬ fromP op sz fr from fun e => hl e.1)]
      have dl := decide_eq_false hl
      clear hl
      rcases h with rfl | rfl
      all_goals
        go_enter Tryz.func31, Tryz.ntmps31
        go_wp2
        go_ret
        exact ⟨rfl, (Below.refl _ _).alloc (Nat.le_refl _) _⟩
  · rw [if_neg h]
    unfold extP at h
    have n1 : (op == 26) = false := beq_eq_false_iff_ne.mpr (by omega); have n2 : (op == 27) = false := beq_eq_false_iff_ne.mpr (by omega)
    clear h
    go_enter Tryz.func31, Tryz.ntmps31
    go_wp2
    go_ret
    exact ⟨ret_bo rfl, (Below.refl _ _).alloc (Nat.le_refl _) _⟩
theorem isShiftC (op : Int) (w : World) : Calls Tryz.prog 50 #[.int .i64 op] w fun e w' => e = .returned (.bool (decide (shP op))) ∧ w = w' := by
  by_cases h1 : (20 : Int) ≤ op
  · by_cases h2 : op ≤ 24
    · rw [decide_eq_true (show shP op from ⟨h1, h2⟩)]
      go_enter Tryz.func50, Tryz.ntmps50
      go_wp2
      go_ret
      exact ⟨rfl, rfl⟩
    · rw [decide_eq_false (show ¬ shP op from fun e => h2 e.2)]
      go_enter Tryz.func50, Tryz.ntmps50
      go_wp2
      go_ret
      exact ⟨rfl, rfl⟩
  · rw [decide_eq_false (show ¬ shP op from fun e => h1 e.1)]
    go_enter Tryz.func50, Tryz.ntmps50
    go_wp2
    go_ret
    exact ⟨rfl, rfl⟩
theorem isUpperC (r : Int) (w : World) : Calls Tryz.prog 77 #[.int .i64 r] w fun e w' => e = .returned (.bool (decide (upP r))) ∧ w = w' := by
  by_cases h1 : (8 : Int) ≤ r
  · by_cases h2 : r ≤ 15
    · rw [decide_eq_true (show upP r from ⟨h1, h2⟩)]
      go_enter Tryz.func77, Tryz.ntmps77
      go_wp2
      go_ret
      exact ⟨rfl, rfl⟩
    · rw [decide_eq_false (show ¬ upP r from fun e => h2 e.2)]
      go_enter Tryz.func77, Tryz.ntmps77
      go_wp2
      go_ret
      exact ⟨rfl, rfl⟩
  · rw [decide_eq_false (show ¬ upP r from fun e => h1 e.1)]
    go_enter Tryz.func77, Tryz.ntmps77
    go_wp2
    go_ret
    exact ⟨rfl, rfl⟩
theorem highC (x : Opd) (w : World) : Calls Tryz.prog 35 #[V7 x] w fun e w' => e = .returned (.bool (highK x)) ∧ Below w.heap.size w w' := by
  obtain ⟨k, r, b, i, s, d, m⟩ := x
  unfold V7 highK
  by_cases h1 : k = 1
  · subst h1
    by_cases h2 : 15 < r
    · rw [decide_eq_true (show (⟨1, r, b, i, s, d, m⟩ : Opd).k = 1 ∧ 15 < r from ⟨rfl, h2⟩)]
      go_enter Tryz.func35, Tryz.ntmps35
      go_wp2
      go_ret
      exact ⟨rfl, (Below.refl _ _).alloc (Nat.le_refl _) _⟩
    · rw [decide_eq_false (show ¬ ((⟨1, r, b, i, s, d, m⟩ : Opd).k = 1 ∧ 15 < r) from fun e => h2 e.2)]
      go_enter Tryz.func35, Tryz.ntmps35
      go_wp2
      go_ret
      exact ⟨rfl, (Below.refl _ _).alloc (Nat.le_refl _) _⟩
  · rw [decide_eq_false (show ¬ ((⟨k, r, b, i, s, d, m⟩ : Opd).k = 1 ∧ 15 < r) from fun e => h1 e.1)]
    have n1 : (k == 1) = false := beq_eq_false_iff_ne.mpr h1
    clear h1
    go_enter Tryz.func35, Tryz.ntmps35
    go_wp2
    go_ret
    exact ⟨rfl, (Below.refl _ _).alloc (Nat.le_refl _) _⟩
set_option maxHeartbeats 1000000 in
theorem sizesC (x : Ins) (w : World) : Calls Tryz.prog 48 #[.agg (insV x)] w fun e w' => e = .returned (.tuple #[.int .i64 (szD x), .int .i64 (szS x)]) ∧ Below w.heap.size w w' := by
  obtain ⟨op, sz, cd, fr, d, s, ln⟩ := x
  unfold insV insA szD szS
  simp only
  have CS := Lib.hid (isShiftC op)
  by_cases h : sz = 0
  · subst h
    rw [if_pos rfl, if_pos rfl]
    clear CS
    go_enter Tryz.func48, Tryz.ntmps48
    go_wp2
    go_ret2
    exact ⟨rfl, (Below.refl _ _).alloc (Nat.le_refl _) _⟩
  · rw [if_neg h, if_neg h]
    have n1 : (sz == 0) = false := beq_eq_false_iff_ne.mpr h
    clear h
    by_cases h2 : fr ≠ 0
    · rw [if_pos h2]
      have n2 : (fr != 0) = true := bne_iff_ne.mpr h2
      clear h2 CS
      go_enter Tryz.func48, Tryz.ntmps48
      go_wp2_with (go_quiet (fail))
      go_ret2
      exact ⟨rfl, belD (belA _ _) _⟩
    · rw [if_neg h2]
      obtain rfl : fr = 0 := Classical.byContradiction h2
      clear h2
      by_cases h3 : shP op
      · rw [if_pos h3]
        rw [decide_eq_true h3] at CS
        clear h3
        go_enter Tryz.func48, Tryz.ntmps48
        go_wp2_with fail
        refine (CS.out _).mono ?_
        rintro e w1 ⟨rfl, rfl⟩
        go_wp2
        go_ret2
        exact ⟨rfl, (Below.refl _ _).alloc (Nat.le_refl _) _⟩
      · rw [if_neg h3]
        rw [decide_eq_false h3] at CS
        clear h3
        go_enter Tryz.func48, Tryz.ntmps48
        go_wp2_with fail
        refine (CS.out _).mono ?_
        rintro e w1 ⟨rfl, rfl⟩
        go_wp2_with (go_quiet (fail))
        go_ret2
        exact ⟨rfl, belD (belA _ _) _⟩
/-- three calls of isUpper, the first that holds ends it -/
theorem askC1 (x : Opd) (z : Int) (w : World) (h : lowP x z) : Calls Tryz.prog 59 #[V7 x, .int .i64 z] w fun e w' => e = .returned (.bool true) ∧ Below w.heap.size w w' := by
  obtain ⟨k, r, b, i, s, d, m⟩ := x
  obtain ⟨rfl, h2, h3, h4⟩ := h
  simp only at h2 h3 h4
  subst h2
  unfold V7
  go_enter Tryz.func59, Tryz.ntmps59
  go_wp2
  go_ret
  exact ⟨rfl, belA _ _⟩
set_option maxHeartbeats 1000000 in
theorem askC2 (x : Opd) (z : Int) (w : World) (h : ¬ lowP x z) : Calls Tryz.prog 59 #[V7 x, .int .i64 z] w fun e w' => e = .returned (.bool (decide (upP x.r ∨ upP x.b ∨ upP x.i))) ∧ Below w.heap.size w w' := by
  obtain ⟨k, r, b, i, s, d, m⟩ := x
  have C1 := Lib.hid (isUpperC r); have C2 := Lib.hid (isUpperC b); have C3 := Lib.hid (isUpperC i)
  unfold V7
  have q : ((z == 1) = false) ∨ (z = 1 ∧ (k == 1) = false) ∨ (z = 1 ∧ k = 1 ∧ decide (4 ≤ r) = false) ∨ (z = 1 ∧ k = 1 ∧ decide (4 ≤ r) = true ∧ decide (r ≤ 7) = false) := by
    unfold lowP at h
    simp only at h
    simp only [beq_eq_false_iff_ne, decide_eq_false_iff_not, decide_eq_true_iff]
    omega
  clear h
  have e1 : decide (upP r ∨ upP b ∨ upP i) = (decide (upP r) || (decide (upP b) || decide (upP i))) := by simp [Bool.decide_or]
  simp only [e1]
  obtain ⟨b1, h1⟩ : ∃ v, v = decide (upP r) := ⟨_, rfl⟩
  obtain ⟨b2, h2⟩ : ∃ v, v = decide (upP b) := ⟨_, rfl⟩
  obtain ⟨b3, h3⟩ : ∃ v, v = decide (upP i) := ⟨_, rfl⟩
  rw [← h1] at C1 ⊢; rw [← h2] at C2 ⊢; rw [← h3] at C3 ⊢
  clear h1 h2 h3 e1
  rcases q with q | ⟨rfl, q⟩ | ⟨rfl, rfl, q⟩ | ⟨rfl, rfl, q, q2⟩
  all_goals
    cases b1
    case true =>
      go_enter Tryz.func59, Tryz.ntmps59
      go_wp2_with fail
      refine (C1.out _).mono ?_
      rintro e w1 ⟨rfl, rfl⟩
      go_wp2
      go_ret
      exact ⟨rfl, belA _ _⟩
    case false =>
      cases b2
      case true =>
        go_enter Tryz.func59, Tryz.ntmps59
        go_wp2_with fail
        refine (C1.out _).mono ?_
        rintro e w1 ⟨rfl, rfl⟩
        go_wp2_with fail
        refine (C2.out _).mono ?_
        rintro e w1 ⟨rfl, rfl⟩
        go_wp2
        go_ret
        exact ⟨rfl, belA _ _⟩
      case false =>
        go_enter Tryz.func59, Tryz.ntmps59
        go_wp2_with fail
        refine (C1.out _).mono ?_
        rintro e w1 ⟨rfl, rfl⟩
        go_wp2_with fail
        refine (C2.out _).mono ?_
        rintro e w1 ⟨rfl, rfl⟩
        go_wp2_with fail
        refine (C3.out _).mono ?_
        rintro e w1 ⟨rfl, rfl⟩
        go_wp2
        go_ret
        exact ⟨by simp, belA _ _⟩
theorem askC (x : Opd) (z : Int) (w : World) : Calls Tryz.prog 59 #[V7 x, .int .i64 z] w fun e w' => e = .returned (.bool (askK x z)) ∧ Below w.heap.size w w' := by
  unfold askK
  by_cases h : lowP x z
  · rw [decide_eq_true (show lowP x z ∨ upP x.r ∨ upP x.b ∨ upP x.i from .inl h)]; exact askC1 x z w h
  · rw [show decide (lowP x z ∨ upP x.r ∨ upP x.b ∨ upP x.i) = decide (upP x.r ∨ upP x.b ∨ upP x.i) from decide_eq_decide.mpr ⟨fun e => e.resolve_left h, .inr⟩]; exact askC2 x z w h
theorem fixC2 (op : Int) (w : World) : Calls Tryz.prog 76 #[.int .i64 op, .bool false] w fun e w' => ∃ n, e = .returned (.tuple #[.int .i64 n, .bool (decide (fixP op))]) ∧ w = w' := by
  by_cases h : fixP op
  · rw [decide_eq_true h]
    rcases h with rfl | rfl | rfl | rfl | rfl | rfl | rfl | rfl | rfl | rfl
    all_goals
      go_enter Tryz.func76, Tryz.ntmps76
      go_wp2
      go_ret2
      exact ⟨_, rfl, rfl⟩
  · rw [decide_eq_false h]
    unfold fixP at h
    have n1 : (op == 29) = false := beq_eq_false_iff_ne.mpr (by omega); have n2 : (op == 30) = false := beq_eq_false_iff_ne.mpr (by omega); have n3 : (op == 31) = false := beq_eq_false_iff_ne.mpr (by omega); have n4 : (op == 32) = false := beq_eq_false_iff_ne.mpr (by omega); have n5 : (op == 33) = false := beq_eq_false_iff_ne.mpr (by omega)
    have n6 : (op == 34) = false := beq_eq_false_iff_ne.mpr (by omega); have n7 : (op == 37) = false := beq_eq_false_iff_ne.mpr (by omega); have n8 : (op == 38) = false := beq_eq_false_iff_ne.mpr (by omega); have n9 : (op == 43) = false := beq_eq_false_iff_ne.mpr (by omega); have n10 : (op == 44) = false := beq_eq_false_iff_ne.mpr (by omega)
    clear h
    go_enter Tryz.func76, Tryz.ntmps76
    go_wp2
    go_ret2
    exact ⟨_, rfl, rfl⟩
theorem wideC (x : Ins) (w : World) : Calls Tryz.prog 58 #[.agg (insV x)] w fun e w' => e = .returned (.bool (wideK x.op x.sz)) ∧ Below w.heap.size w w' := by
  obtain ⟨op, sz, cd, fr, d, s, ln⟩ := x
  unfold insV insA wideK
  simp only
  have CF := Lib.hid (fixC2 op)
  obtain ⟨b, hb⟩ : ∃ v, v = decide (fixP op) := ⟨_, rfl⟩
  have e1 : decide (sz = 8 ∧ ¬ fixP op) = (decide (sz = 8) && !b) := by rw [hb]; simp [Bool.decide_and]
  rw [e1]
  rw [← hb] at CF
  clear e1 hb
  by_cases h8 : sz = 8
  · subst h8
    cases b
    all_goals
      go_enter Tryz.func58, Tryz.ntmps58
      go_wp2_with fail
      refine (CF.out _).mono ?_
      rintro e w1 ⟨n, rfl, rfl⟩
      go_wp2
      go_ret
      exact ⟨rfl, belA _ _⟩
  · have n8 : (sz == 8) = false := beq_eq_false_iff_ne.mpr h8
    have n8' : decide (sz = 8) = false := decide_eq_false h8
    rw [n8']
    clear h8 n8'
    go_enter Tryz.func58, Tryz.ntmps58
    go_wp2_with fail
    refine (CF.out _).mono ?_
    rintro e w1 ⟨n, rfl, rfl⟩
    go_wp2
    go_ret
    exact ⟨rfl, belA _ _⟩
theorem cut_uint8 (v : Int) (w : World) : Calls Tryz.prog 72 #[.int .i64 v] w fun e w' => e = .returned (.int .i64 (v % 256)) ∧ w = w' := by
  go_enter Tryz.func72, Tryz.ntmps72
  go_wp2
  go_ret
  exact ⟨rfl, rfl⟩
theorem cut_uint8_iff (v : Int) : v = v % 256 ↔ (0 ≤ v ∧ v ≤ 255) := by
  omega
theorem fit_uint8 (v : Int) (w : World) : Calls Tryz.prog 54 #[.int .i64 v] w fun e w' => e = .returned (.bool (decide (0 ≤ v ∧ v ≤ 255))) ∧ w = w' := by
  have C := Lib.hid (cut_uint8 v)
  have e1 : (v == v % 256) = decide (0 ≤ v ∧ v ≤ 255) := by
    show decide (v = v % 256) = _
    exact decide_eq_decide.mpr (cut_uint8_iff v)
  have HE := Lib.hid e1
  clear e1
  go_enter Tryz.func54, Tryz.ntmps54
  go_wp2_with fail
  refine (C.out _).mono ?_
  rintro e w' ⟨rfl, rfl⟩
  go_wp2
  go_ret
  exact ⟨ret_bo HE.out, rfl⟩
theorem cut_int8 (v : Int) (w : World) : Calls Tryz.prog 73 #[.int .i64 v] w fun e w' => e = .returned (.int .i64 (wrap64 (IntKind.i8.wrap v))) ∧ w = w' := by
  go_enter Tryz.func73, Tryz.ntmps73
  go_wp2
  go_ret
  exact ⟨rfl, rfl⟩
theorem cut_int8_iff (v : Int) : v = wrap64 (IntKind.i8.wrap v) ↔ (-128 ≤ v ∧ v ≤ 127) := by
  rw [i8w]
  unfold wrap64
  split <;> omega
theorem fit_int8 (v : Int) (w : World) : Calls Tryz.prog 55 #[.int .i64 v] w fun e w' => e = .returned (.bool (decide (-128 ≤ v ∧ v ≤ 127))) ∧ w = w' := by
  have C := Lib.hid (cut_int8 v)
  have e1 : (v == wrap64 (IntKind.i8.wrap v)) = decide (-128 ≤ v ∧ v ≤ 127) := by
    show decide (v = wrap64 (IntKind.i8.wrap v)) = _
    exact decide_eq_decide.mpr (cut_int8_iff v)
  have HE := Lib.hid e1
  clear e1
  go_enter Tryz.func55, Tryz.ntmps55
  go_wp2_with fail
  refine (C.out _).mono ?_
  rintro e w' ⟨rfl, rfl⟩
  go_wp2
  go_ret
  exact ⟨ret_bo HE.out, rfl⟩
theorem cut_int16 (v : Int) (w : World) : Calls Tryz.prog 74 #[.int .i64 v] w fun e w' => e = .returned (.int .i64 (wrap64 (IntKind.i16.wrap v))) ∧ w = w' := by
  go_enter Tryz.func74, Tryz.ntmps74
  go_wp2
  go_ret
  exact ⟨rfl, rfl⟩
theorem cut_int16_iff (v : Int) : v = wrap64 (IntKind.i16.wrap v) ↔ (-32768 ≤ v ∧ v ≤ 32767) := by
  rw [i16w]
  unfold wrap64
  split <;> omega
theorem fit_int16 (v : Int) (w : World) : Calls Tryz.prog 56 #[.int .i64 v] w fun e w' => e = .returned (.bool (decide (-32768 ≤ v ∧ v ≤ 32767))) ∧ w = w' := by
  have C := Lib.hid (cut_int16 v)
  have e1 : (v == wrap64 (IntKind.i16.wrap v)) = decide (-32768 ≤ v ∧ v ≤ 32767) := by
    show decide (v = wrap64 (IntKind.i16.wrap v)) = _
    exact decide_eq_decide.mpr (cut_int16_iff v)
  have HE := Lib.hid e1
  clear e1
  go_enter Tryz.func56, Tryz.ntmps56
  go_wp2_with fail
  refine (C.out _).mono ?_
  rintro e w' ⟨rfl, rfl⟩
  go_wp2
  go_ret
  exact ⟨ret_bo HE.out, rfl⟩
theorem fit_int32 (v : Int) (w : World) : Calls Tryz.prog 57 #[.int .i64 v] w fun e w' => e = .returned (.bool (decide (-2147483648 ≤ v ∧ v ≤ 2147483647))) ∧ w = w' :=
  (fits32 v w).mono fun e w' q => ⟨by rw [q.1]; exact ret_bo (decide_eq_decide.mpr (cut32_iff v)), q.2.symm⟩
/-- what a number of an instruction must fit into -/
def numK (x : Ins) : Bool :=
  if shP x.op ∨ x.op = 44 then decide (0 ≤ x.s.m ∧ x.s.m ≤ 255)
  else if x.op = 9 ∧ x.sz = 8 ∧ x.d.k = 1 then true
  else if x.sz = 1 then decide (-128 ≤ x.s.m ∧ x.s.m ≤ 127)
  else if x.sz = 2 then decide (-32768 ≤ x.s.m ∧ x.s.m ≤ 32767)
  else decide (-2147483648 ≤ x.s.m ∧ x.s.m ≤ 2147483647)
set_option maxHeartbeats 2000000 in
theorem numC2 (x : Ins) (w : World) : Calls Tryz.prog 33 #[.agg (insV x)] w fun e w' => e = .returned (.bool (numK x)) ∧ Below w.heap.size w w' := by
  obtain ⟨op, sz, cd, fr, d, s, ln⟩ := x
  unfold insV insA numK
  simp only
  have CS := Lib.hid (isShiftC op)
  by_cases h1 : shP op
  · rw [if_pos (.inl h1)]
    rw [decide_eq_true h1] at CS
    clear h1
    have CV := Lib.hid (fit_uint8 s.m)
    generalize decide (0 ≤ s.m ∧ s.m ≤ 255) = v at CV ⊢
    go_enter Tryz.func33, Tryz.ntmps33
    go_wp2_with fail
    refine (CS.out _).mono ?_
    rintro e w1 ⟨rfl, rfl⟩
    go_wp2_with fail
    refine (CV.out _).mono ?_
    rintro e w1 ⟨rfl, rfl⟩
    go_wp2
    go_ret
    exact ⟨rfl, belA _ _⟩
  · rw [decide_eq_false h1] at CS
    by_cases h2 : op = 44
    · rw [if_pos (.inr h2)]
      subst h2
      clear h1
      have CV := Lib.hid (fit_uint8 s.m)
      generalize decide (0 ≤ s.m ∧ s.m ≤ 255) = v at CV ⊢
      go_enter Tryz.func33, Tryz.ntmps33
      go_wp2_with fail
      refine (CS.out _).mono ?_
      rintro e w1 ⟨rfl, rfl⟩
      go_wp2_with fail
      refine (CV.out _).mono ?_
      rintro e w1 ⟨rfl, rfl⟩
      go_wp2
      go_ret
      exact ⟨rfl, belA _ _⟩
    · rw [if_neg (fun e => e.elim h1 h2)]
      have n2 : (op == 44) = false := beq_eq_false_iff_ne.mpr h2
      clear h1 h2
      have q : (op = 9 ∧ sz = 8 ∧ d.k = 1) ∨ (¬ (op = 9 ∧ sz = 8 ∧ d.k = 1) ∧ ((op == 9) = false ∨ (op = 9 ∧ (sz == 8) = false) ∨ (op = 9 ∧ sz = 8 ∧ (d.k == 1) = false))) := by
        simp only [beq_eq_false_iff_ne]
        omega
      rcases q with ⟨rfl, rfl, hd⟩ | ⟨hq, q⟩
      · rw [if_pos ⟨rfl, rfl, hd⟩]
        rw [hd]
        clear hd
        go_enter Tryz.func33, Tryz.ntmps33
        go_wp2_with fail
        refine (CS.out _).mono ?_
        rintro e w1 ⟨rfl, rfl⟩
        go_wp2
        go_ret
        exact ⟨rfl, belA _ _⟩
      · rw [if_neg hq]
        clear hq
        by_cases h3 : sz = 1
        · subst h3
          rw [if_pos rfl]
          rcases q with q | ⟨rfl, q⟩ | ⟨rfl, q, _⟩
          case inr.inr => cases q
          all_goals
            have CV := Lib.hid (fit_int8 s.m)
            generalize decide (-128 ≤ s.m ∧ s.m ≤ 127) = v at CV ⊢
            go_enter Tryz.func33, Tryz.ntmps33
            go_wp2_with fail
            refine (CS.out _).mono ?_
            rintro e w1 ⟨rfl, rfl⟩
            go_wp2_with fail
            refine (CV.out _).mono ?_
            rintro e w1 ⟨rfl, rfl⟩
            go_wp2
            go_ret
            exact ⟨rfl, belA _ _⟩
        · rw [if_neg h3]
          by_cases h4 : sz = 2
          · subst h4
            rw [if_pos rfl]
            clear h3
            rcases q with q | ⟨rfl, q⟩ | ⟨rfl, q, _⟩
            case inr.inr => cases q
            all_goals
              have CV := Lib.hid (fit_int16 s.m)
              generalize decide (-32768 ≤ s.m ∧ s.m ≤ 32767) = v at CV ⊢
              go_enter Tryz.func33, Tryz.ntmps33
              go_wp2_with fail
              refine (CS.out _).mono ?_
              rintro e w1 ⟨rfl, rfl⟩
              go_wp2_with fail
              refine (CV.out _).mono ?_
              rintro e w1 ⟨rfl, rfl⟩
              go_wp2
              go_ret
              exact ⟨rfl, belA _ _⟩
          · rw [if_neg h4]
            have n3 : (sz == 1) = false := beq_eq_false_iff_ne.mpr h3
            have n4 : (sz == 2) = false := beq_eq_false_iff_ne.mpr h4
            clear h3 h4
            rcases q with q | ⟨rfl, q⟩ | ⟨rfl, rfl, q⟩
            all_goals
              have CV := Lib.hid (fit_int32 s.m)
              generalize decide (-2147483648 ≤ s.m ∧ s.m ≤ 2147483647) = v at CV ⊢
              go_enter Tryz.func33, Tryz.ntmps33
              go_wp2_with fail
              refine (CS.out _).mono ?_
              rintro e w1 ⟨rfl, rfl⟩
              go_wp2_with fail
              refine (CV.out _).mono ?_
              rintro e w1 ⟨rfl, rfl⟩
              go_wp2
              go_ret
              exact ⟨rfl, belA _ _⟩
/-- a pattern: sizes and kinds -/
structure Pat where
  m : Int
  k : ByteArray
def patL : List Pat := [⟨15, ⟨#[114, 114, 32, 109, 114, 32, 114, 109, 32, 114, 105, 32, 109, 105]⟩⟩, ⟨15, ⟨#[114, 114, 32, 109, 114, 32, 114, 109, 32, 114, 105, 32, 109, 105]⟩⟩, ⟨15, ⟨#[114, 114, 32, 109, 114, 32, 114, 109, 32, 114, 105, 32, 109, 105]⟩⟩, ⟨15, ⟨#[114, 114, 32, 109, 114, 32, 114, 109, 32, 114, 105, 32, 109, 105]⟩⟩, ⟨15, ⟨#[114, 114, 32, 109, 114, 32, 114, 109, 32, 114, 105, 32, 109, 105]⟩⟩, ⟨15, ⟨#[114, 114, 32, 109, 114, 32, 114, 109, 32, 114, 105, 32, 109, 105]⟩⟩, ⟨15, ⟨#[114, 114, 32, 109, 114, 32, 114, 109, 32, 114, 105, 32, 109, 105]⟩⟩, ⟨15, ⟨#[114, 114, 32, 109, 114, 32, 114, 109, 32, 114, 105, 32, 109, 105]⟩⟩, ⟨15, ⟨#[114, 114, 32, 109, 114, 32, 114, 109, 32, 114, 105, 32, 109, 105]⟩⟩, ⟨15, ⟨#[114, 114, 32, 109, 114, 32, 114, 105, 32, 109, 105]⟩⟩, ⟨15, ⟨#[114, 45, 32, 109, 45]⟩⟩, ⟨15, ⟨#[114, 45, 32, 109, 45]⟩⟩, ⟨15, ⟨#[45, 114, 32, 45, 109]⟩⟩, ⟨15, ⟨#[45, 114, 32, 45, 109]⟩⟩, ⟨15, ⟨#[45, 114, 32, 45, 109]⟩⟩, ⟨15, ⟨#[45, 114, 32, 45, 109]⟩⟩, ⟨14, ⟨#[114, 114, 32, 114, 109]⟩⟩, ⟨15, ⟨#[114, 45, 32, 109, 45]⟩⟩, ⟨15, ⟨#[114, 45, 32, 109, 45]⟩⟩, ⟨15, ⟨#[114, 114, 32, 109, 114, 32, 114, 105, 32, 109, 105]⟩⟩, ⟨15, ⟨#[114, 114, 32, 109, 114, 32, 114, 105, 32, 109, 105]⟩⟩, ⟨15, ⟨#[114, 114, 32, 109, 114, 32, 114, 105, 32, 109, 105]⟩⟩, ⟨15, ⟨#[114, 114, 32, 109, 114, 32, 114, 105, 32, 109, 105]⟩⟩, ⟨15, ⟨#[114, 114, 32, 109, 114, 32, 114, 105, 32, 109, 105]⟩⟩, ⟨14, ⟨#[114, 109]⟩⟩, ⟨14, ⟨#[114, 114, 32, 114, 109]⟩⟩, ⟨14, ⟨#[114, 114, 32, 114, 109]⟩⟩, ⟨15, ⟨#[114, 114, 32, 109, 114]⟩⟩, ⟨8, ⟨#[45, 114, 32, 45, 109, 32, 45, 105]⟩⟩, ⟨8, ⟨#[114, 45, 32, 109, 45]⟩⟩, ⟨8, ⟨#[45, 114, 32, 45, 109, 32, 45, 105]⟩⟩, ⟨8, ⟨#[45, 114, 32, 45, 109, 32, 45, 105]⟩⟩, ⟨0, ⟨#[45, 105]⟩⟩, ⟨0, ⟨#[45, 45]⟩⟩, ⟨1, ⟨#[114, 45, 32, 109, 45]⟩⟩, ⟨14, ⟨#[114, 114, 32, 114, 109]⟩⟩, ⟨0, ⟨#[45, 45]⟩⟩, ⟨0, ⟨#[45, 45]⟩⟩, ⟨14, ⟨#[45, 45]⟩⟩, ⟨14, ⟨#[45, 45]⟩⟩, ⟨1, ⟨#[45, 45]⟩⟩, ⟨1, ⟨#[45, 45]⟩⟩, ⟨0, ⟨#[45, 45]⟩⟩, ⟨0, ⟨#[45, 105]⟩⟩]
def patOf (op : Int) : Pat := if 1 ≤ op ∧ op ≤ 44 then patL.getD (op - 1).toNat ⟨0, ⟨#[]⟩⟩ else ⟨0, ⟨#[]⟩⟩
set_option maxHeartbeats 4000000 in
set_option maxRecDepth 100000 in
theorem patC (op : Int) (w : World) : Calls Tryz.prog 51 #[.int .i64 op] w fun e w' => e = .returned (.agg #[.int .i64 (patOf op).m, .string (patOf op).k]) ∧ Below w.heap.size w w' := by
  by_cases h : 1 ≤ op ∧ op ≤ 44
  · rcases (show op = 1 ∨ op = 2 ∨ op = 3 ∨ op = 4 ∨ op = 5 ∨ op = 6 ∨ op = 7 ∨ op = 8 ∨ op = 9 ∨ op = 10 ∨ op = 11 ∨ op = 12 ∨ op = 13 ∨ op = 14 ∨ op = 15 ∨ op = 16 ∨ op = 17 ∨ op = 18 ∨ op = 19 ∨ op = 20 ∨ op = 21 ∨ op = 22 ∨ op = 23 ∨ op = 24 ∨ op = 25 ∨ op = 26 ∨ op = 27 ∨ op = 28 ∨ op = 29 ∨ op = 30 ∨ op = 31 ∨ op = 32 ∨ op = 33 ∨ op = 34 ∨ op = 35 ∨ op = 36 ∨ op = 37 ∨ op = 38 ∨ op = 39 ∨ op = 40 ∨ op = 41 ∨ op = 42 ∨ op = 43 ∨ op = 44 by omega) with rfl | rfl | rfl | rfl | rfl | rfl | rfl | rfl | rfl | rfl | rfl | rfl | rfl | rfl | rfl | rfl | rfl | rfl | rfl | rfl | rfl | rfl | rfl | rfl | rfl | rfl | rfl | rfl | rfl | rfl | rfl | rfl | rfl | rfl | rfl | rfl | rfl | rfl | rfl | rfl | rfl | rfl | rfl | rfl
    all_goals
      go_enter Tryz.func51, Tryz.ntmps51
      go_wp2
      refine bodyPost_ret (v := .agg _) (by exact results_cell_row Tryz.results51 _ _ w.heap.size 70 _ (0, 0) _ rfl (heap_alloc_new w _) Tryz.underlying70 rfl (by kernel_rfl)) (by rfl) ⟨rfl, belA _ _⟩
  · have e : patOf op = ⟨0, ⟨#[]⟩⟩ := by unfold patOf; rw [if_neg h]
    rw [e]
    obtain ⟨n1, n2, n3, n4, n5, n6, n7, n8, n9, n10, n11, n12, n13, n14, n15, n16, n17, n18, n19, n20, n21, n22, n23, n24, n25, n26, n27, n28, n29, n30, n31, n32, n33, n34, n35, n36, n37, n38, n39, n40, n41, n42, n43, n44⟩ : (op == 1) = false ∧ (op == 2) = false ∧ (op == 3) = false ∧ (op == 4) = false ∧ (op == 5) = false ∧ (op == 6) = false ∧ (op == 7) = false ∧ (op == 8) = false ∧ (op == 9) = false ∧ (op == 10) = false ∧ (op == 11) = false ∧ (op == 12) = false ∧ (op == 13) = false ∧ (op == 14) = false ∧ (op == 15) = false ∧ (op == 16) = false ∧ (op == 17) = false ∧ (op == 18) = false ∧ (op == 19) = false ∧ (op == 20) = false ∧ (op == 21) = false ∧ (op == 22) = false ∧ (op == 23) = false ∧ (op == 24) = false ∧ (op == 25) = false ∧ (op == 26) = false ∧ (op == 27) = false ∧ (op == 28) = false ∧ (op == 29) = false ∧ (op == 30) = false ∧ (op == 31) = false ∧ (op == 32) = false ∧ (op == 33) = false ∧ (op == 34) = false ∧ (op == 35) = false ∧ (op == 36) = false ∧ (op == 37) = false ∧ (op == 38) = false ∧ (op == 39) = false ∧ (op == 40) = false ∧ (op == 41) = false ∧ (op == 42) = false ∧ (op == 43) = false ∧ (op == 44) = false := by
      simp only [beq_eq_false_iff_ne]
      omega
    clear h e
    go_enter Tryz.func51, Tryz.ntmps51
    go_wp2
    refine bodyPost_ret (v := .agg _) (by exact results_cell_row Tryz.results51 _ _ w.heap.size 70 _ (0, 0) _ rfl (heap_alloc_new w _) Tryz.underlying70 rfl (by kernel_rfl)) (by rfl) ⟨rfl, belA _ _⟩
end Go.Proofs.YtjnjlgaemmdkhaaGreatDoor
