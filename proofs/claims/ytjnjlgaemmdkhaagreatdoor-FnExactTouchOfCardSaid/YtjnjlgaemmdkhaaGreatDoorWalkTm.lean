/-
  What impl.touches is (a map from places to what is done there) and what its methods do: add, has; conditions: those in each head.
-/
import Derived.Test.YtjnjlgaemmdkhaaGreatDoorProg
import Derived.WalkKit
import Derived.Maps.OwnSet
import Derived.Maps.RangeWalk
import Derived.Lib.Hide
namespace Go.Proofs.YtjnjlgaemmdkhaaGreatDoor
open Go.RowKit Go.Maps
set_option linter.unusedVariables false
set_option linter.unusedSimpArgs false
theorem tmLaw : Keyed Tryz.prog 3 := int_keyed Tryz.underlying3
theorem tmZero (w : World) : (zeroValue 3).run Tryz.prog w = .ok (.int .i64 0) w := by kernel_rfl
/-- what is done at a place, as a number: read 1, written 2 -/
def tnum (q : Bool × Bool) : Int := (if q.1 then 1 else 0) + (if q.2 then 2 else 0)
def tget (g : Int → Option (Bool × Bool)) (k : Int) : Bool × Bool := (g k).getD (false, false)
def tor (a q : Bool × Bool) : Bool × Bool := (a.1 || q.1, a.2 || q.2)
def tadd (q : Bool × Bool) (p : Int) (g : Int → Option (Bool × Bool)) : Int → Option (Bool × Bool) := fun k => if k = p then some (tor (tget g p) q) else g k
def tdel (p : Int) (g : Int → Option (Bool × Bool)) : Int → Option (Bool × Bool) := fun k => if k = p then none else g k
theorem tnum_inj {a q : Bool × Bool} (h : tnum a = tnum q) : a = q := by
  obtain ⟨a1, a2⟩ := a; obtain ⟨q1, q2⟩ := q
  revert h; unfold tnum; revert a1 a2 q1 q2; decide
theorem tnum_wf (q : Bool × Bool) : (Lit.int .i64 (tnum q)).wf = true := by obtain ⟨a, b⟩ := q; revert a b; decide
theorem tor_run (a q : Bool × Bool) : bits .or .i64 (tnum a) (tnum q) = tnum (tor a q) := by
  obtain ⟨a1, a2⟩ := a; obtain ⟨q1, q2⟩ := q
  cases a1 <;> cases a2 <;> cases q1 <;> cases q2 <;> kernel_rfl
def TMD (D : DataW Unit) (g : Int → Option (Bool × Bool)) : Prop := ∀ k : Int, (Lit.int .i64 k).wf = true → Maps.has D (.int .i64 k) = (g k).isSome ∧ D.atKey (.int .i64 k) (.lit (.int .i64 0)) = .lit (.int .i64 (tnum (tget g k)))
/-- block b is a map that holds just what g tells -/
def TM (w : World) (b n : Nat) (g : Int → Option (Bool × Bool)) : Prop :=
  ∃ D : DataW Unit, w.ownsMap Tryz.prog 3 (plainElem Tryz.prog 3) b n D ∧ TMD D g
theorem TM.lt {w : World} {b n : Nat} {g : Int → Option (Bool × Bool)} (h : TM w b n g) : b < w.heap.size := by obtain ⟨D, h, _⟩ := h; exact h.lt
theorem TM.mono {w : World} {b n n' : Nat} {g : Int → Option (Bool × Bool)} (h : TM w b n g) (hn : n ≤ n') : TM w b n' g := by obtain ⟨D, h, hD⟩ := h; exact ⟨D, h.mono hn, hD⟩
theorem TM.kept {w w' : World} {b n : Nat} {g : Int → Option (Bool × Bool)} (h : TM w b n g) (hg : w.grownBy w' none) : TM w' b n g := by obtain ⟨D, h, hD⟩ := h; exact ⟨D, h.kept hg (by simp), hD⟩
theorem TM.below {w w' : World} {b n B : Nat} {g : Int → Option (Bool × Bool)} (h : TM w b n g) (hb : Below B w w') (hB : b < B) (hs : w.heap.size ≤ B) : TM w' b n g := h.kept ⟨hb.os, hb.tape, hb.output, hb.size, fun k hk _ => hb.block k (by omega)⟩
theorem TM.alloc {w : World} {b n : Nat} {g : Int → Option (Bool × Bool)} (h : TM w b n g) (o : Obj) : TM (w.alloc o) b n g := h.kept (World.grownBy_alloc w o none)
theorem TM.drew {w : World} {b n : Nat} {g : Int → Option (Bool × Bool)} (h : TM w b n g) : TM w.drew b n g := h
theorem TM.made (w : World) : TM (w.alloc (.map #[] 0)) w.heap.size 0 (fun _ => none) := ⟨.map [], World.ownsMap_made _ _ _ _, fun k _ => ⟨rfl, rfl⟩⟩
theorem tm_at {D : DataW Unit} {g : Int → Option (Bool × Bool)} (h : TMD D g) {k c : Int} (hk : (Lit.int .i64 k).wf = true) (hat : D.atKey (.int .i64 k) (.lit (.int .i64 0)) = .lit (.int .i64 c)) : c = tnum (tget g k) := by
  have := hat.symm.trans (h k hk).2
  injection this with this; injection this
theorem tm_put {D : DataW Unit} {g : Int → Option (Bool × Bool)} (h : TMD D g) (hm : IsMap D) {p : Int} (q : Bool × Bool) :
    TMD (D.put (.int .i64 p) (.lit (.int .i64 (tnum (tor (tget g p) q))))) (tadd q p g) := by
  intro k hk
  by_cases e : k = p
  · subst e
    unfold tget tadd
    rw [if_pos rfl]
    exact ⟨Maps.has_put_same hm (show WideAt.IsKeyLit (.int .i64 k) from trivial) _, Maps.atKey_put_same hm (show WideAt.IsKeyLit (.int .i64 k) from trivial) _ _⟩
  · have hne : (Lit.int .i64 k) ≠ .int .i64 p := fun h => e (by injection h)
    have := h k hk
    unfold tget tadd
    rw [if_neg e]
    exact ⟨(Maps.has_put_other hne _).trans this.1, (Maps.atKey_put_other hne _ _).trans this.2⟩
theorem tm_del {D : DataW Unit} {g : Int → Option (Bool × Bool)} (h : TMD D g) {p : Int} : TMD (D.del (.int .i64 p)) (tdel p g) := by
  intro k hk
  by_cases e : k = p
  · subst e
    unfold tget tdel
    rw [if_pos rfl]
    exact ⟨Maps.has_del_same, Maps.atKey_del_same _⟩
  · have hne : (Lit.int .i64 k) ≠ .int .i64 p := fun h => e (by injection h)
    have := h k hk
    unfold tget tdel
    rw [if_neg e]
    exact ⟨(Maps.has_del_other hne).trans this.1, (Maps.atKey_del_other hne _).trans this.2⟩
theorem grown_self {w w' w'' : World} {b : Nat} (h : w.grownBy w' (some b)) (h' : w'.grownBy w'' (some b)) : w.grownBy w'' (some b) := h.andThen h' (fun j hj => Or.inr hj)
set_option maxRecDepth 100000 in
set_option maxHeartbeats 1000000 in
theorem tAdd1 (q : Bool × Bool) (p : Int) (hp : (Lit.int .i64 p).wf = true) (b n s : Nat) (g : Int → Option (Bool × Bool)) (w : World) (hT : TM w b n g) (hn : n < 1000) (hc : w.cell? ⟨s, 0, none⟩ = some (.int .i64 p)) :
    Calls Tryz.prog 60 #[.map (some b), .int .i64 (tnum q), .slice (some ⟨s, 0, none⟩) 1 1] w fun e w' => e = .returned (.tuple #[]) ∧ TM w' b (n + 1) (tadd q p g) ∧ w.grownBy w' (some b) := by
  obtain ⟨D, hown, hD⟩ := hT
  have hor := tor_run (tget g p) q
  have hkey : keyOf Tryz.prog 3 (.int .i64 p) = some (.int .i64 p) := keyOf_int_mk Tryz.underlying3 hp
  generalize hN : tnum q = N at *
  generalize hM : tnum (tor (tget g p) q) = M at *
  have hMw : (Lit.int .i64 M).wf = true := hM ▸ tnum_wf _
  generalize hG : tnum (tget g p) = G at *
  go_enter Tryz.func60, Tryz.ntmps60
  go_wp2
  refine wp_loop_rounds 2 ?_
  rw [rounds_succ]
  go_wp2_with (first
    | (at_lookup; refine wpList_lookup_own_int _ rfl _ _ 42 rfl 3 3 .i64 tmLaw Tryz.underlying42 Tryz.underlying3 (tmZero _) b n D rfl hown _ _ rfl hkey ?_; intro c hat hwc; have hcG : c = G := (tm_at hD hp hat).trans hG; rw [hcG])
    | (at_mapUpdate; refine wpList_mapUpdate_own _ rfl _ _ _ 42 rfl 3 3 tmLaw Tryz.underlying42 _ b n D rfl hown (by unfold maxLen; omega) _ _ _ rfl rfl hkey _ [] (plainElem_int Tryz.underlying3 hMw) ?_; intro w1 hown1 hgrow1))
  rw [rounds_succ]
  go_wp2
  go_end0
  exact ⟨rfl, ⟨_, hown1, by have := tm_put hD hown.isMap (p := p) q; rw [hM] at this; exact this⟩, hgrow1⟩
set_option maxRecDepth 100000 in
set_option maxHeartbeats 1000000 in
theorem tAdd2 (q : Bool × Bool) (p r : Int) (hp : (Lit.int .i64 p).wf = true) (hr : (Lit.int .i64 r).wf = true) (b n s : Nat) (hs : s ≠ b) (g : Int → Option (Bool × Bool)) (w : World) (hT : TM w b n g) (hn : n < 1000) (hc : w.cell? ⟨s, 0, none⟩ = some (.int .i64 p)) (hd : w.cell? ⟨s, 1, none⟩ = some (.int .i64 r)) :
    Calls Tryz.prog 60 #[.map (some b), .int .i64 (tnum q), .slice (some ⟨s, 0, none⟩) 2 2] w fun e w' => e = .returned (.tuple #[]) ∧ TM w' b (n + 2) (tadd q r (tadd q p g)) ∧ w.grownBy w' (some b) := by
  obtain ⟨D, hown, hD⟩ := hT
  have hor := tor_run (tget g p) q
  have hor2 := tor_run (tget (tadd q p g) r) q
  have hkey : keyOf Tryz.prog 3 (.int .i64 p) = some (.int .i64 p) := keyOf_int_mk Tryz.underlying3 hp
  have hkey2 : keyOf Tryz.prog 3 (.int .i64 r) = some (.int .i64 r) := keyOf_int_mk Tryz.underlying3 hr
  have hne : some s ≠ some b := fun e => hs (Option.some.inj e)
  generalize hN : tnum q = N at *
  generalize hM : tnum (tor (tget g p) q) = M at *
  have hMw : (Lit.int .i64 M).wf = true := hM ▸ tnum_wf _
  generalize hG : tnum (tget g p) = G at *
  generalize hM2 : tnum (tor (tget (tadd q p g) r) q) = M2 at *
  have hMw2 : (Lit.int .i64 M2).wf = true := hM2 ▸ tnum_wf _
  generalize hG2 : tnum (tget (tadd q p g) r) = G2 at *
  have hD1 : TMD (D.put (.int .i64 p) (.lit (.int .i64 M))) (tadd q p g) := by have := tm_put hD hown.isMap (p := p) q; rw [hM] at this; exact this
  go_enter Tryz.func60, Tryz.ntmps60
  go_wp2
  refine wp_loop_rounds 3 ?_
  rw [rounds_succ]
  go_wp2_with (first
    | (at_lookup; refine wpList_lookup_own_int _ rfl _ _ 42 rfl 3 3 .i64 tmLaw Tryz.underlying42 Tryz.underlying3 (tmZero _) b n D rfl hown _ _ rfl hkey ?_; intro c hat hwc; have hcG : c = G := (tm_at hD hp hat).trans hG; rw [hcG])
    | (at_mapUpdate; refine wpList_mapUpdate_own _ rfl _ _ _ 42 rfl 3 3 tmLaw Tryz.underlying42 _ b n D rfl hown (by unfold maxLen; omega) _ _ _ rfl rfl hkey _ [] (plainElem_int Tryz.underlying3 hMw) ?_; intro w1 hown1 hgrow1))
  have hd1 := hgrow1.cell hd hne
  rw [rounds_succ]
  go_wp2_with (first
    | (at_lookup; refine wpList_lookup_own_int _ rfl _ _ 42 rfl 3 3 .i64 tmLaw Tryz.underlying42 Tryz.underlying3 (tmZero _) b (n + 1) _ rfl hown1 _ _ rfl hkey2 ?_; intro c2 hat2 hwc2; have hcG2 : c2 = G2 := (tm_at hD1 hr hat2).trans hG2; rw [hcG2])
    | (at_mapUpdate; refine wpList_mapUpdate_own _ rfl _ _ _ 42 rfl 3 3 tmLaw Tryz.underlying42 _ b (n + 1) _ rfl hown1 (by unfold maxLen; omega) _ _ _ rfl rfl hkey2 _ [] (plainElem_int Tryz.underlying3 hMw2) ?_; intro w2 hown2 hgrow2))
  rw [rounds_succ]
  go_wp2
  go_end0
  exact ⟨rfl, ⟨_, hown2, by have := tm_put hD1 hown1.isMap (p := r) q; rw [hM2] at this; exact this⟩, grown_self hgrow1 hgrow2⟩
def tand (a q : Bool × Bool) : Bool × Bool := (a.1 && q.1, a.2 && q.2)
theorem tand_run (a q : Bool × Bool) : bits .and .i64 (tnum a) (tnum q) = tnum (tand a q) := by
  obtain ⟨a1, a2⟩ := a; obtain ⟨q1, q2⟩ := q
  cases a1 <;> cases a2 <;> cases q1 <;> cases q2 <;> kernel_rfl
def tany (a : Bool × Bool) : Bool := a.1 || a.2
theorem tany_ne (a : Bool × Bool) : (tnum a != 0) = tany a := by obtain ⟨a1, a2⟩ := a; revert a1 a2; decide
set_option maxHeartbeats 1000000 in
theorem hasC (q : Bool × Bool) (p : Int) (hp : (Lit.int .i64 p).wf = true) (b n : Nat) (g : Int → Option (Bool × Bool)) (w : World) (hT : TM w b n g) :
    Calls Tryz.prog 15 #[.map (some b), .int .i64 (tnum q), .int .i64 p] w fun e w' => e = .returned (.bool (tany (tand (tget g p) q))) ∧ w' = w := by
  obtain ⟨D, hown, hD⟩ := hT
  have hor := tand_run (tget g p) q
  have hny := tany_ne (tand (tget g p) q)
  have hkey : keyOf Tryz.prog 3 (.int .i64 p) = some (.int .i64 p) := keyOf_int_mk Tryz.underlying3 hp
  generalize hN : tnum q = N at *
  generalize hM : tnum (tand (tget g p) q) = M at *
  generalize hG : tnum (tget g p) = G at *
  go_enter Tryz.func15, Tryz.ntmps15
  go_wp2_with (first
    | (at_lookup; refine wpList_lookup_own_int _ rfl _ _ 42 rfl 3 3 .i64 tmLaw Tryz.underlying42 Tryz.underlying3 (tmZero _) b n D rfl hown _ _ rfl hkey ?_; intro c hat hwc; have hcG : c = G := (tm_at hD hp hat).trans hG; rw [hcG]))
  go_ret
  exact ⟨rfl, rfl⟩
def dstQ (op : Int) : Bool × Bool := if op = 8 ∨ op = 10 then (true, false) else if op = 9 ∨ op = 25 ∨ op = 26 ∨ op = 27 ∨ op = 30 ∨ op = 35 ∨ op = 36 then (false, true) else (true, true)
set_option maxHeartbeats 2000000 in
theorem dstKindsC (op : Int) (w : World) : Calls Tryz.prog 38 #[.int .i64 op] w fun e w' => e = .returned (.int .i64 (tnum (dstQ op))) ∧ w' = w := by
  by_cases h : op = 8 ∨ op = 10 ∨ op = 9 ∨ op = 25 ∨ op = 26 ∨ op = 27 ∨ op = 30 ∨ op = 35 ∨ op = 36
  · rcases h with rfl | rfl | rfl | rfl | rfl | rfl | rfl | rfl | rfl
    all_goals
      unfold dstQ tnum
      simp only [reduceIte, Int.reduceEq, or_self, or_false, or_true, false_or, true_or]
      go_enter Tryz.func38, Tryz.ntmps38
      go_wp2
      go_ret
      exact ⟨rfl, rfl⟩
  · have E : dstQ op = (true, true) := by unfold dstQ; simp only [not_or] at h; obtain ⟨h8, h10, h9, h25, h26, h27, h30, h35, h36⟩ := h; simp only [*, reduceIte, or_self]
    rw [E]
    simp only [not_or] at h
    obtain ⟨h8, h10, h9, h25, h26, h27, h30, h35, h36⟩ := h
    have h8 := beq_eq_false_iff_ne.mpr h8
    have h10 := beq_eq_false_iff_ne.mpr h10
    have h9 := beq_eq_false_iff_ne.mpr h9
    have h25 := beq_eq_false_iff_ne.mpr h25
    have h26 := beq_eq_false_iff_ne.mpr h26
    have h27 := beq_eq_false_iff_ne.mpr h27
    have h30 := beq_eq_false_iff_ne.mpr h30
    have h35 := beq_eq_false_iff_ne.mpr h35
    have h36 := beq_eq_false_iff_ne.mpr h36
    clear E
    unfold tnum
    go_enter Tryz.func38, Tryz.ntmps38
    go_wp2
    go_ret
    exact ⟨rfl, rfl⟩
def srcQ (op : Int) : Bool × Bool := if op = 25 then (false, false) else if op = 28 then (true, true) else (true, false)
set_option maxHeartbeats 2000000 in
theorem srcKindsC (op : Int) (w : World) : Calls Tryz.prog 39 #[.int .i64 op] w fun e w' => e = .returned (.int .i64 (tnum (srcQ op))) ∧ w' = w := by
  by_cases h : op = 25 ∨ op = 28
  · rcases h with rfl | rfl
    all_goals
      unfold srcQ tnum
      simp only [reduceIte, Int.reduceEq, or_self, or_false, or_true, false_or, true_or]
      go_enter Tryz.func39, Tryz.ntmps39
      go_wp2
      go_ret
      exact ⟨rfl, rfl⟩
  · have E : srcQ op = (true, false) := by unfold srcQ; simp only [not_or] at h; obtain ⟨h25, h28⟩ := h; simp only [*, reduceIte, or_self]
    rw [E]
    simp only [not_or] at h
    obtain ⟨h25, h28⟩ := h
    have h25 := beq_eq_false_iff_ne.mpr h25
    have h28 := beq_eq_false_iff_ne.mpr h28
    clear E
    unfold tnum
    go_enter Tryz.func39, Tryz.ntmps39
    go_wp2
    go_ret
    exact ⟨rfl, rfl⟩
end Go.Proofs.YtjnjlgaemmdkhaaGreatDoor
