/-
  What l05Shape of spec does; conditions: those in each head.
-/
import Derived.Test.YtjnjlgaemmdkhaaGreatDoorWalkOkT5
import Derived.Test.YtjnjlgaemmdkhaaGreatDoorWalkOkT6
import Derived.Test.YtjnjlgaemmdkhaaGreatDoorWalkOkT7
import Derived.Test.YtjnjlgaemmdkhaaGreatDoorWalkOkT8
import Derived.Test.YtjnjlgaemmdkhaaGreatDoorWalkOkT9
import Derived.Test.YtjnjlgaemmdkhaaGreatDoorWalkOkT10
import Derived.Test.YtjnjlgaemmdkhaaGreatDoorWalkOkT11
import Derived.Test.YtjnjlgaemmdkhaaGreatDoorWalkOkT12
import Derived.Test.YtjnjlgaemmdkhaaGreatDoorMathOkT
namespace Go.Proofs.YtjnjlgaemmdkhaaGreatDoor
open Go.RowKit Go.Sort
set_option linter.unusedVariables false
set_option linter.unusedSimpArgs false
set_option maxRecDepth 100000
theorem shp10B (x : Ins) (w : World) (ho : x.op = 10) : Calls Tryz.prog 23 #[.agg (insV x)] w fun e w' => e = .returned (.bool (shapeB x)) ∧ Below w.heap.size w w' := by
  have em : (patOf x.op).m = 15 := by rw [ho]; rfl
  have el : listS x.op = [(114, 114), (109, 114), (114, 105), (109, 105)] := by rw [ho]; rfl
  have er : restS x = decide (fitP x.s.m x.sz) := by unfold restS; rw [if_pos (by omega)]
  have E : shapeB x = (decide (okSize x.sz) && kin2 [(114, 114), (109, 114), (114, 105), (109, 105)] x.d.k x.s.k && decide (fitP x.s.m x.sz)) := by
    unfold shapeB; rw [em, el, er, sz15]; simp only [Bool.and_assoc, Bool.and_true]
  rw [E]; exact shp10 x w ho
theorem shp28B (x : Ins) (w : World) (ho : x.op = 28) : Calls Tryz.prog 23 #[.agg (insV x)] w fun e w' => e = .returned (.bool (shapeB x)) ∧ Below w.heap.size w w' := by
  have em : (patOf x.op).m = 15 := by rw [ho]; rfl
  have el : listS x.op = [(114, 114), (109, 114)] := by rw [ho]; rfl
  have er : restS x = true := by unfold restS; rw [if_neg (by omega), if_neg (by omega), if_neg (by unfold shP; omega), if_neg (by unfold extP; omega), if_neg (by omega), if_neg (by omega)]
  have E : shapeB x = (decide (okSize x.sz) && kin2 [(114, 114), (109, 114)] x.d.k x.s.k) := by
    unfold shapeB; rw [em, el, er, sz15]; simp only [Bool.and_assoc, Bool.and_true]
  rw [E]; exact shp28 x w ho
theorem shp11B (x : Ins) (w : World) (ho : x.op = 11 ∨ x.op = 12 ∨ x.op = 18 ∨ x.op = 19) : Calls Tryz.prog 23 #[.agg (insV x)] w fun e w' => e = .returned (.bool (shapeB x)) ∧ Below w.heap.size w w' := by
  have em : (patOf x.op).m = 15 := by rcases ho with e | e | e | e <;> (rw [e]; rfl)
  have el : listS x.op = [(114, 48), (109, 48)] := by rcases ho with e | e | e | e <;> (rw [e]; rfl)
  have er : restS x = true := by unfold restS; rw [if_neg (by omega), if_neg (by omega), if_neg (by unfold shP; omega), if_neg (by unfold extP; omega), if_neg (by omega), if_neg (by omega)]
  have E : shapeB x = (decide (okSize x.sz) && kin2 [(114, 48), (109, 48)] x.d.k x.s.k) := by
    unfold shapeB; rw [em, el, er, sz15]; simp only [Bool.and_assoc, Bool.and_true]
  rw [E]; exact shp11 x w ho
theorem shp13B (x : Ins) (w : World) (ho : x.op = 13 ∨ x.op = 14 ∨ x.op = 15 ∨ x.op = 16) : Calls Tryz.prog 23 #[.agg (insV x)] w fun e w' => e = .returned (.bool (shapeB x)) ∧ Below w.heap.size w w' := by
  have em : (patOf x.op).m = 15 := by rcases ho with e | e | e | e <;> (rw [e]; rfl)
  have el : listS x.op = [(48, 114), (48, 109)] := by rcases ho with e | e | e | e <;> (rw [e]; rfl)
  have er : restS x = true := by unfold restS; rw [if_neg (by omega), if_neg (by omega), if_neg (by unfold shP; omega), if_neg (by unfold extP; omega), if_neg (by omega), if_neg (by omega)]
  have E : shapeB x = (decide (okSize x.sz) && kin2 [(48, 114), (48, 109)] x.d.k x.s.k) := by
    unfold shapeB; rw [em, el, er, sz15]; simp only [Bool.and_assoc, Bool.and_true]
  rw [E]; exact shp13 x w ho
theorem shp17B (x : Ins) (w : World) (ho : x.op = 17 ∨ x.op = 36) : Calls Tryz.prog 23 #[.agg (insV x)] w fun e w' => e = .returned (.bool (shapeB x)) ∧ Below w.heap.size w w' := by
  have em : (patOf x.op).m = 14 := by rcases ho with e | e <;> (rw [e]; rfl)
  have el : listS x.op = [(114, 114), (114, 109)] := by rcases ho with e | e <;> (rw [e]; rfl)
  have er : restS x = true := by unfold restS; rw [if_neg (by omega), if_neg (by omega), if_neg (by unfold shP; omega), if_neg (by unfold extP; omega), if_neg (by omega), if_neg (by omega)]
  have E : shapeB x = ((decide (okSize x.sz) && decide (1 < x.sz)) && kin2 [(114, 114), (114, 109)] x.d.k x.s.k) := by
    unfold shapeB; rw [em, el, er, sz14]; simp only [Bool.and_assoc, Bool.and_true]
  rw [E]; exact shp17 x w ho
theorem shp25B (x : Ins) (w : World) (ho : x.op = 25) : Calls Tryz.prog 23 #[.agg (insV x)] w fun e w' => e = .returned (.bool (shapeB x)) ∧ Below w.heap.size w w' := by
  have em : (patOf x.op).m = 14 := by rw [ho]; rfl
  have el : listS x.op = [(114, 109)] := by rw [ho]; rfl
  have er : restS x = true := by unfold restS; rw [if_neg (by omega), if_neg (by omega), if_neg (by unfold shP; omega), if_neg (by unfold extP; omega), if_neg (by omega), if_neg (by omega)]
  have E : shapeB x = ((decide (okSize x.sz) && decide (1 < x.sz)) && kin2 [(114, 109)] x.d.k x.s.k) := by
    unfold shapeB; rw [em, el, er, sz14]; simp only [Bool.and_assoc, Bool.and_true]
  rw [E]; exact shp25 x w ho
theorem shp29B (x : Ins) (w : World) (ho : x.op = 29 ∨ x.op = 31 ∨ x.op = 32) : Calls Tryz.prog 23 #[.agg (insV x)] w fun e w' => e = .returned (.bool (shapeB x)) ∧ Below w.heap.size w w' := by
  have em : (patOf x.op).m = 8 := by rcases ho with e | e | e <;> (rw [e]; rfl)
  have el : listS x.op = [(48, 114), (48, 109), (48, 105)] := by rcases ho with e | e | e <;> (rw [e]; rfl)
  have er : restS x = decide (fitP x.s.m 4) := by unfold restS; rw [if_neg (by omega), if_neg (by omega), if_neg (by unfold shP; omega), if_neg (by unfold extP; omega), if_pos (by omega)]
  have E : shapeB x = (decide (x.sz = 8) && kin2 [(48, 114), (48, 109), (48, 105)] x.d.k x.s.k && decide (fitP x.s.m 4)) := by
    unfold shapeB; rw [em, el, er, sz8]; simp only [Bool.and_assoc, Bool.and_true]
  rw [E]; exact shp29 x w ho
theorem shp30B (x : Ins) (w : World) (ho : x.op = 30) : Calls Tryz.prog 23 #[.agg (insV x)] w fun e w' => e = .returned (.bool (shapeB x)) ∧ Below w.heap.size w w' := by
  have em : (patOf x.op).m = 8 := by rw [ho]; rfl
  have el : listS x.op = [(114, 48), (109, 48)] := by rw [ho]; rfl
  have er : restS x = true := by unfold restS; rw [if_neg (by omega), if_neg (by omega), if_neg (by unfold shP; omega), if_neg (by unfold extP; omega), if_neg (by omega), if_neg (by omega)]
  have E : shapeB x = (decide (x.sz = 8) && kin2 [(114, 48), (109, 48)] x.d.k x.s.k) := by
    unfold shapeB; rw [em, el, er, sz8]; simp only [Bool.and_assoc, Bool.and_true]
  rw [E]; exact shp30 x w ho
theorem shp33B (x : Ins) (w : World) (ho : x.op = 33) : Calls Tryz.prog 23 #[.agg (insV x)] w fun e w' => e = .returned (.bool (shapeB x)) ∧ Below w.heap.size w w' := by
  have em : (patOf x.op).m = 0 := by rw [ho]; rfl
  have el : listS x.op = [(48, 105)] := by rw [ho]; rfl
  have er : restS x = decide (fitP x.s.m 4) := by unfold restS; rw [if_neg (by omega), if_neg (by omega), if_neg (by unfold shP; omega), if_neg (by unfold extP; omega), if_pos (by omega)]
  have E : shapeB x = (decide (x.sz = 0) && kin2 [(48, 105)] x.d.k x.s.k && decide (fitP x.s.m 4)) := by
    unfold shapeB; rw [em, el, er, sz0]; simp only [Bool.and_assoc, Bool.and_true]
  rw [E]; exact shp33 x w ho
theorem shp35B (x : Ins) (w : World) (ho : x.op = 35) : Calls Tryz.prog 23 #[.agg (insV x)] w fun e w' => e = .returned (.bool (shapeB x)) ∧ Below w.heap.size w w' := by
  have em : (patOf x.op).m = 1 := by rw [ho]; rfl
  have el : listS x.op = [(114, 48), (109, 48)] := by rw [ho]; rfl
  have er : restS x = true := by unfold restS; rw [if_neg (by omega), if_neg (by omega), if_neg (by unfold shP; omega), if_neg (by unfold extP; omega), if_neg (by omega), if_neg (by omega)]
  have E : shapeB x = (decide (x.sz = 1) && kin2 [(114, 48), (109, 48)] x.d.k x.s.k) := by
    unfold shapeB; rw [em, el, er, sz1]; simp only [Bool.and_assoc, Bool.and_true]
  rw [E]; exact shp35 x w ho
theorem shp39B (x : Ins) (w : World) (ho : x.op = 39 ∨ x.op = 40) : Calls Tryz.prog 23 #[.agg (insV x)] w fun e w' => e = .returned (.bool (shapeB x)) ∧ Below w.heap.size w w' := by
  have em : (patOf x.op).m = 14 := by rcases ho with e | e <;> (rw [e]; rfl)
  have el : listS x.op = [(48, 48)] := by rcases ho with e | e <;> (rw [e]; rfl)
  have er : restS x = true := by unfold restS; rw [if_neg (by omega), if_neg (by omega), if_neg (by unfold shP; omega), if_neg (by unfold extP; omega), if_neg (by omega), if_neg (by omega)]
  have E : shapeB x = ((decide (okSize x.sz) && decide (1 < x.sz)) && kin2 [(48, 48)] x.d.k x.s.k) := by
    unfold shapeB; rw [em, el, er, sz14]; simp only [Bool.and_assoc, Bool.and_true]
  rw [E]; exact shp39 x w ho
theorem shp41B (x : Ins) (w : World) (ho : x.op = 41 ∨ x.op = 42) : Calls Tryz.prog 23 #[.agg (insV x)] w fun e w' => e = .returned (.bool (shapeB x)) ∧ Below w.heap.size w w' := by
  have em : (patOf x.op).m = 1 := by rcases ho with e | e <;> (rw [e]; rfl)
  have el : listS x.op = [(48, 48)] := by rcases ho with e | e <;> (rw [e]; rfl)
  have er : restS x = true := by unfold restS; rw [if_neg (by omega), if_neg (by omega), if_neg (by unfold shP; omega), if_neg (by unfold extP; omega), if_neg (by omega), if_neg (by omega)]
  have E : shapeB x = (decide (x.sz = 1) && kin2 [(48, 48)] x.d.k x.s.k) := by
    unfold shapeB; rw [em, el, er, sz1]; simp only [Bool.and_assoc, Bool.and_true]
  rw [E]; exact shp41 x w ho
theorem shp44B (x : Ins) (w : World) (ho : x.op = 44) : Calls Tryz.prog 23 #[.agg (insV x)] w fun e w' => e = .returned (.bool (shapeB x)) ∧ Below w.heap.size w w' := by
  have em : (patOf x.op).m = 0 := by rw [ho]; rfl
  have el : listS x.op = [(48, 105)] := by rw [ho]; rfl
  have er : restS x = decide (0 ≤ x.s.m ∧ x.s.m ≤ 255) := by unfold restS; rw [if_neg (by omega), if_neg (by omega), if_neg (by unfold shP; omega), if_neg (by unfold extP; omega), if_neg (by omega), if_pos (by omega)]
  have E : shapeB x = (decide (x.sz = 0) && kin2 [(48, 105)] x.d.k x.s.k && decide (0 ≤ x.s.m ∧ x.s.m ≤ 255)) := by
    unfold shapeB; rw [em, el, er, sz0]; simp only [Bool.and_assoc, Bool.and_true]
  rw [E]; exact shp44 x w ho
theorem shp34B (x : Ins) (w : World) (ho : x.op = 34 ∨ x.op = 37) : Calls Tryz.prog 23 #[.agg (insV x)] w fun e w' => e = .returned (.bool (shapeB x)) ∧ Below w.heap.size w w' := by
  have em : (patOf x.op).m = 0 := by rcases ho with e | e <;> (rw [e]; rfl)
  have el : listS x.op = [(48, 48)] := by rcases ho with e | e <;> (rw [e]; rfl)
  have er : restS x = true := by unfold restS; rw [if_neg (by omega), if_neg (by omega), if_neg (by unfold shP; omega), if_neg (by unfold extP; omega), if_neg (by omega), if_neg (by omega)]
  have E : shapeB x = (decide (x.sz = 0) && kin2 [(48, 48)] x.d.k x.s.k) := by
    unfold shapeB; rw [em, el, er, sz0]; simp only [Bool.and_assoc, Bool.and_true]
  rw [E]; exact shp34 x w ho
theorem shp38B (x : Ins) (w : World) (ho : x.op = 38 ∨ x.op = 43) : Calls Tryz.prog 23 #[.agg (insV x)] w fun e w' => e = .returned (.bool (shapeB x)) ∧ Below w.heap.size w w' := by
  have em : (patOf x.op).m = 0 := by rcases ho with e | e <;> (rw [e]; rfl)
  have el : listS x.op = [(48, 48)] := by rcases ho with e | e <;> (rw [e]; rfl)
  have er : restS x = true := by unfold restS; rw [if_neg (by omega), if_neg (by omega), if_neg (by unfold shP; omega), if_neg (by unfold extP; omega), if_neg (by omega), if_neg (by omega)]
  have E : shapeB x = (decide (x.sz = 0) && kin2 [(48, 48)] x.d.k x.s.k) := by
    unfold shapeB; rw [em, el, er, sz0]; simp only [Bool.and_assoc, Bool.and_true]
  rw [E]; exact shp38 x w ho
theorem shpAB (x : Ins) (w : World) (h1 : 1 ≤ x.op) (h8 : x.op ≤ 8) : Calls Tryz.prog 23 #[.agg (insV x)] w fun e w' => e = .returned (.bool (shapeB x)) ∧ Below w.heap.size w w' := by
  have ho : x.op = 1 ∨ x.op = 2 ∨ x.op = 3 ∨ x.op = 4 ∨ x.op = 5 ∨ x.op = 6 ∨ x.op = 7 ∨ x.op = 8 := by omega
  have em : (patOf x.op).m = 15 := by rcases ho with e | e | e | e | e | e | e | e <;> (rw [e]; rfl)
  have el : listS x.op = [(114, 114), (109, 114), (114, 109), (114, 105), (109, 105)] := by rcases ho with e | e | e | e | e | e | e | e <;> (rw [e]; rfl)
  have er : restS x = decide (fitP x.s.m x.sz) := by unfold restS; rw [if_pos (by omega)]
  have E : shapeB x = (decide (okSize x.sz) && (kin2 [(114, 114), (109, 114), (114, 109), (114, 105), (109, 105)] x.d.k x.s.k && decide (fitP x.s.m x.sz))) := by
    unfold shapeB; rw [em, el, er, sz15]
  rw [E]
  by_cases hz : okSize x.sz
  · rw [decide_eq_true hz, Bool.true_and]; exact shpA1 x w h8 hz (fun W => sizeYes x.sz W hz)
  · rw [decide_eq_false hz, Bool.false_and]; exact shpA0 x w h8 hz
theorem shp9B (x : Ins) (w : World) (ho : x.op = 9) : Calls Tryz.prog 23 #[.agg (insV x)] w fun e w' => e = .returned (.bool (shapeB x)) ∧ Below w.heap.size w w' := by
  have em : (patOf x.op).m = 15 := by rw [ho]; rfl
  have el : listS x.op = [(114, 114), (109, 114), (114, 109), (114, 105), (109, 105)] := by rw [ho]; rfl
  have er : restS x = (decide (x.sz = 8 ∧ x.d.k = 1) || decide (fitP x.s.m x.sz)) := by unfold restS; rw [if_neg (by omega), if_pos (by omega)]
  have E : shapeB x = (decide (okSize x.sz) && kin2 [(114, 114), (109, 114), (114, 109), (114, 105), (109, 105)] x.d.k x.s.k && (decide (x.sz = 8 ∧ x.d.k = 1) || decide (fitP x.s.m x.sz))) := by
    unfold shapeB; rw [em, el, er, sz15]; simp only [Bool.and_assoc]
  rw [E]; exact shp9 x w ho
theorem shp20B (x : Ins) (w : World) (ho : 20 ≤ x.op ∧ x.op ≤ 24) : Calls Tryz.prog 23 #[.agg (insV x)] w fun e w' => e = .returned (.bool (shapeB x)) ∧ Below w.heap.size w w' := by
  have hp : x.op = 20 ∨ x.op = 21 ∨ x.op = 22 ∨ x.op = 23 ∨ x.op = 24 := by omega
  have em : (patOf x.op).m = 15 := by rcases hp with e | e | e | e | e <;> (rw [e]; rfl)
  have el : listS x.op = [(114, 114), (109, 114), (114, 105), (109, 105)] := by rcases hp with e | e | e | e | e <;> (rw [e]; rfl)
  have er : restS x = (!(decide (x.s.k = 1 ∧ x.s.r ≠ 1)) && decide (0 ≤ x.s.m ∧ x.s.m ≤ 255)) := by unfold restS; rw [if_neg (by omega), if_neg (by omega), if_pos (by unfold shP; omega)]
  have E : shapeB x = (!(decide (x.s.k = 1 ∧ x.s.r ≠ 1)) && (decide (okSize x.sz) && kin2 [(114, 114), (109, 114), (114, 105), (109, 105)] x.d.k x.s.k && decide (0 ≤ x.s.m ∧ x.s.m ≤ 255))) := by
    unfold shapeB; rw [em, el, er, sz15]
    generalize decide (okSize x.sz) = a; generalize kin2 _ x.d.k x.s.k = b; generalize decide (x.s.k = 1 ∧ x.s.r ≠ 1) = c; generalize decide (0 ≤ x.s.m ∧ x.s.m ≤ 255) = d
    cases a <;> cases b <;> cases c <;> cases d <;> rfl
  rw [E]; exact shp20 x w ho
theorem shp26B (x : Ins) (w : World) (ho : x.op = 26 ∨ x.op = 27) : Calls Tryz.prog 23 #[.agg (insV x)] w fun e w' => e = .returned (.bool (shapeB x)) ∧ Below w.heap.size w w' := by
  have em : (patOf x.op).m = 14 := by rcases ho with e | e <;> (rw [e]; rfl)
  have el : listS x.op = [(114, 114), (114, 109)] := by rcases ho with e | e <;> (rw [e]; rfl)
  have er : restS x = (decide (x.fr = 1) || (decide (x.fr = 2) && decide (2 < x.sz)) || (decide (x.fr = 4) && decide (x.sz = 8) && decide (x.op = 27))) := by unfold restS extS; rw [if_neg (by omega), if_neg (by omega), if_neg (by unfold shP; omega), if_pos (by unfold extP; omega)]
  have E : shapeB x = ((decide (okSize x.sz) && decide (1 < x.sz)) && kin2 [(114, 114), (114, 109)] x.d.k x.s.k && (decide (x.fr = 1) || (decide (x.fr = 2) && decide (2 < x.sz)) || (decide (x.fr = 4) && decide (x.sz = 8) && decide (x.op = 27)))) := by
    unfold shapeB; rw [em, el, er, sz14]; simp only [Bool.and_assoc]
  rw [E]; exact shp26 x w ho
theorem shapeS5 (x : Ins) (w : World) (h1 : 1 ≤ x.op) (h2 : x.op ≤ 44) : Calls Tryz.prog 23 #[.agg (insV x)] w fun e w' => e = .returned (.bool (shapeB x)) ∧ Below w.heap.size w w' := by
  by_cases c0 : x.op ≤ 8
  · exact shpAB x w h1 c0
  by_cases c1 : x.op = 9
  · exact shp9B x w c1
  by_cases c2 : 20 ≤ x.op ∧ x.op ≤ 24
  · exact shp20B x w c2
  by_cases c3 : x.op = 26 ∨ x.op = 27
  · exact shp26B x w c3
  by_cases d0 : x.op = 10
  · exact shp10B x w d0
  by_cases d1 : x.op = 28
  · exact shp28B x w d1
  by_cases d2 : x.op = 11 ∨ x.op = 12 ∨ x.op = 18 ∨ x.op = 19
  · exact shp11B x w d2
  by_cases d3 : x.op = 13 ∨ x.op = 14 ∨ x.op = 15 ∨ x.op = 16
  · exact shp13B x w d3
  by_cases d4 : x.op = 17 ∨ x.op = 36
  · exact shp17B x w d4
  by_cases d5 : x.op = 25
  · exact shp25B x w d5
  by_cases d6 : x.op = 29 ∨ x.op = 31 ∨ x.op = 32
  · exact shp29B x w d6
  by_cases d7 : x.op = 30
  · exact shp30B x w d7
  by_cases d8 : x.op = 33
  · exact shp33B x w d8
  by_cases d9 : x.op = 35
  · exact shp35B x w d9
  by_cases d10 : x.op = 39 ∨ x.op = 40
  · exact shp39B x w d10
  by_cases d11 : x.op = 41 ∨ x.op = 42
  · exact shp41B x w d11
  by_cases d12 : x.op = 44
  · exact shp44B x w d12
  by_cases d13 : x.op = 34 ∨ x.op = 37
  · exact shp34B x w d13
  by_cases d14 : x.op = 38 ∨ x.op = 43
  · exact shp38B x w d14
  omega
end Go.Proofs.YtjnjlgaemmdkhaaGreatDoor
