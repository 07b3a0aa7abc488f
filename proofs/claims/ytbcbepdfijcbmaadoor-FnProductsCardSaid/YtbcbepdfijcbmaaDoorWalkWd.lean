/-
  The numbers of two halves (type wide): widened, times, halves, fits, as contracts; conditions: those in each head.
-/
import Derived.Test.YtbcbepdfijcbmaaDoorWalkSign
import Derived.Test.YtbcbepdfijcbmaaDoorWalkFlA
import Derived.BigQuiet
import Derived.Laws.StructEq
import Derived.Deep.RegionHeld3
import Derived.Shelf.SlSortCmp.QuietGrown
import Derived.Laws.ResultCell
namespace Go.Proofs.YtbcbepdfijcbmaaDoor
open Go.RowKit Go.Sort
set_option linter.unusedVariables false
theorem mixedW : Tryd.prog.follows .mixedOrders = true := by kernel_rfl
theorem quiet_load_row {P : Program} {ops : Array Oper} {C : World → Prop} {Q : Act → Prop} {a : Act} {rest : List Oper} {o : Oper} (hgd : o.guard = none) (ty : TypeId) (x : Operand) (ho : o.op = .load ty x)
    (g : Nat) (hx : a.eval x = .pointer (some ⟨g, 0, none⟩)) (t : TypeId) (cs : Array Value) (fr : Nat × Nat) (d : TypeDesc) (hg : ∀ w, C w → w.heap[g]? = some (.cells cs t fr))
    (hu : P.underlying ty = some d) (hd : (match d with | .struct _ | .array _ _ => true | _ => false) = true) (hi : (P.info? ty).map (·.size) = some cs.size)
    (h : wpQuiet P ops C Q rest (a.put o.dst (.agg cs))) : wpQuiet P ops C Q (o :: rest) a :=
  BigFrame.wpQuiet_want (by unfold Region.wanted; rw [hgd]) fun K hK => ⟨.agg cs, fun w hw => by
    unfold Oper.quietAt execOp
    simp only [ho, hx, Instr.loadAt, Instr.sureAddr, Sem.run_bind, Sem.run_pure, Result.andThen_ok, run_loadVar_row w g t ty cs fr d (hg w hw) hu hd hi]
    exact ⟨rfl, rfl⟩, hK _ h⟩
theorem runField (h l : Int) (w : World) : (Instr.field 82 (.agg #[.int .i64 h, .int .i64 l]) 1).run Tryd.prog w = .ok (.int .i64 l) w := by kernel_rfl
set_option maxHeartbeats 400000 in
theorem run_eql_wd (a b c d : Int) (w : World) : (binOp .eql 82 (.agg #[.int .i64 a, .int .i64 b]) (.agg #[.int .i64 c, .int .i64 d])).run Tryd.prog w = .ok (.bool (a == c && b == d)) w := by
  have u3 := Tryd.underlying3
  have a3 := Tryd.isAgg3
  have z3 := Tryd.sizeOf3
  have hS : Tryd.prog.underlying 82 = some (.struct (Tryd.prog.fieldsOf 82)) := by kernel_rfl
  have hp : Tryd.prog.stoodInHeld 82 = false := by kernel_rfl
  rw [run_eql_struct, show (10000 : Nat) = 9999 + 1 from rfl, run_equalIn_agg w 9999 82 _ _ hS hp]
  simp only [Program.fieldsOf, Tryd.underlying82]
  go_simp
  by_cases h0 : a = c <;> by_cases h1 : b = d <;> simp [h0, h1]
theorem grownB {w : World} (q : Nat) (os : Array Obj) : Below w.heap.size w (grow (w.drewN q) os) :=
  ⟨rfl, rfl, rfl, by first | (simp [grow]; done) | (simp [grow]; omega), fun i hi => by
    show ((w.drewN q).heap ++ os)[i]? = _
    rw [Array.getElem?_append_left (by show i < w.heap.size; omega)]
    rfl⟩
set_option maxHeartbeats 1000000 in
theorem widUx (v n x : Int) (h : ∀ w, Calls Tryd.prog 46 #[.int .i64 v, .int .i64 n] w fun e w' => e = .returned (.tuple #[.int .i64 x, .nilIface]) ∧ w = w') (w : World) :
    Calls Tryd.prog 55 #[.int .i64 v, .int .i64 n, .bool false] w fun e w' => e = .returned (.agg #[.int .i64 0, .int .i64 x]) ∧ ∃ q os, w' = grow (w.drewN q) os := by
  have C := Lib.hid h
  clear h
  go_enter Tryd.func55, Tryd.ntmps55
  go_wp2_with fail
  refine (C.out _).mono ?_
  rintro e w1 ⟨rfl, rfl⟩
  go_wp2
  refine bodyPost_ret (v := .agg #[.int .i64 0, .int .i64 x]) (by exact results_cell_row Tryd.results55 _ _ w.heap.size 82 #[.int .i64 0, .int .i64 x] (0, 0) _ rfl (heap_alloc_new w _) Tryd.underlying82 rfl (by kernel_rfl)) (by rfl) ⟨rfl, ?_⟩
  exact ⟨0, #[_], alloc_eq_grow _ _⟩
set_option maxHeartbeats 1000000 in
theorem widSx (v n x : Int) (h : ∀ w, Calls Tryd.prog 85 #[.int .i64 v, .int .i64 n] w fun e w' => e = .returned (.tuple #[.int .i64 x, .nilIface]) ∧ w = w') (w : World) :
    Calls Tryd.prog 55 #[.int .i64 v, .int .i64 n, .bool true] w fun e w' => e = .returned (.agg #[.int .i64 (x / 9223372036854775808), .int .i64 x]) ∧ ∃ q os, w' = grow (w.drewN q) os := by
  have C := Lib.hid h
  clear h
  go_enter Tryd.func55, Tryd.ntmps55
  go_wp2_with fail
  refine (C.out _).mono ?_
  rintro e w1 ⟨rfl, rfl⟩
  go_wp2
  refine bodyPost_ret (v := .agg #[.int .i64 (x / 9223372036854775808), .int .i64 x]) (by exact results_cell_row Tryd.results55 _ _ w.heap.size 82 #[.int .i64 (x / 9223372036854775808), .int .i64 x] (0, 0) _ rfl (heap_alloc_new w _) Tryd.underlying82 rfl (by kernel_rfl)) (by rfl) ⟨rfl, ?_⟩
  exact ⟨0, #[_], alloc_eq_grow _ _⟩
set_option maxHeartbeats 1000000 in
theorem timesX (xh xl yh yl H L : Int) (h : ∀ w, Calls Tryd.prog 86 #[.int .i64 xl, .int .i64 yl] w fun e w' => e = .returned (.tuple #[.int .i64 H, .int .i64 L]) ∧ w = w') (w : World) :
    Calls Tryd.prog 59 #[.agg #[.int .i64 xh, .int .i64 xl], .agg #[.int .i64 yh, .int .i64 yl]] w fun e w' => e = .returned (.agg #[.int .i64 (wrap64 (wrap64 (H + wrap64 (xh * yl)) + wrap64 (xl * yh))), .int .i64 L]) ∧ Below w.heap.size w w' := by
  have C := Lib.hid h
  clear h
  go_enter Tryd.func59, Tryd.ntmps59
  go_wp2_with fail
  refine (C.out _).mono ?_
  rintro e w1 ⟨rfl, rfl⟩
  go_wp2
  have hz : ((w.alloc (.cells #[.int .i64 xh, .int .i64 xl] 82)).alloc (.cells #[.int .i64 yh, .int .i64 yl] 82)).heap.size = w.heap.size + 1 + 1 := by simp
  have hy := heap_alloc_new ((w.alloc (.cells #[.int .i64 xh, .int .i64 xl] 82)).alloc (.cells #[.int .i64 yh, .int .i64 yl] 82)) (.cells #[.int .i64 (wrap64 (wrap64 (H + wrap64 (xh * yl)) + wrap64 (xl * yh))), .int .i64 L] 82)
  rw [hz] at hy
  refine bodyPost_ret (v := .agg #[.int .i64 (wrap64 (wrap64 (H + wrap64 (xh * yl)) + wrap64 (xl * yh))), .int .i64 L]) (by exact results_cell_row Tryd.results59 _ _ (w.heap.size + 1 + 1) 82 #[.int .i64 (wrap64 (wrap64 (H + wrap64 (xh * yl)) + wrap64 (xl * yh))), .int .i64 L] (0, 0) _ rfl (hy) Tryd.underlying82 rfl (by kernel_rfl)) (by rfl) ⟨rfl, ?_⟩
  have b1 := (Below.refl w.heap.size w).alloc (Nat.le_refl _) (.cells #[.int .i64 xh, .int .i64 xl] 82)
  have b2 := b1.alloc (by simp) (.cells #[.int .i64 yh, .int .i64 yl] 82)
  exact b2.alloc (by simp; omega) _
set_option maxHeartbeats 1000000 in
theorem fitsX (xh xl n p q : Int) (s : Bool) (h : ∀ w, Calls Tryd.prog 55 #[.int .i64 xl, .int .i64 n, .bool s] w fun e w' => e = .returned (.agg #[.int .i64 p, .int .i64 q]) ∧ ∃ q os, w' = grow (w.drewN q) os) (w : World) :
    Calls Tryd.prog 56 #[.agg #[.int .i64 xh, .int .i64 xl], .int .i64 n, .bool s] w fun e w' => e = .returned (.bool (xh == p && xl == q)) ∧ Below w.heap.size w w' := by
  have C := Lib.hid h
  clear h
  go_enter Tryd.func56, Tryd.ntmps56
  have hm := mixedW
  have hE := run_eql_wd
  go_wp2_with fail
  have g1 := cell_grown (w := w.alloc (.cells #[.int .i64 xh, .int .i64 xl] 82)) (a := ⟨w.heap.size, 1, none⟩) (v := .int .i64 xl) (by simp) (by unfold World.cell?; rw [heap_alloc_new]; rfl)
  have hg : ∀ w', (∃ p : GrownBy, w' = grow ((w.alloc (.cells #[.int .i64 xh, .int .i64 xl] 82)).drewN p.n) p.os) → w'.heap[w.heap.size]? = some (.cells #[.int .i64 xh, .int .i64 xl] 82 (0, 0)) := by
    rintro w' ⟨p, rfl⟩
    show ((w.alloc (.cells #[.int .i64 xh, .int .i64 xl] 82)).heap ++ p.os)[w.heap.size]? = _
    rw [Array.getElem?_append_left (by simp)]
    exact heap_alloc_new w _
  refine wp_region_quiet_grown (by assumption) (by kernel_rfl) ?_
  refine quiet_load_row rfl 82 (.tmp 3) rfl w.heap.size rfl 82 #[.int .i64 xh, .int .i64 xl] (0, 0) _ hg Tryd.underlying82 rfl (by kernel_rfl) ?_
  clear hg
  repeat (quiet_step (first | (go_at_call 55; refine Calls.grown_of (C.out _))))
  refine wpQuiet_nil ?_
  rintro _ ⟨⟨nq, osq⟩, rfl⟩
  go_wp2
  go_ret
  exact ⟨rfl, ((Below.refl w.heap.size w).alloc (Nat.le_refl _) _).trans ((grownB _ _).mono (by simp))⟩
set_option maxRecDepth 100000 in
set_option maxHeartbeats 1000000 in
theorem halvesX1 (xh xl lo hi a b : Int) (hl : ∀ w, Calls Tryd.prog 55 #[.int .i64 xl, .int .i64 1, .bool false] w fun e w' => e = .returned (.agg #[.int .i64 a, .int .i64 lo]) ∧ ∃ q os, w' = grow (w.drewN q) os)
    (hh : ∀ w, Calls Tryd.prog 55 #[.int .i64 (xl / 256), .int .i64 1, .bool false] w fun e w' => e = .returned (.agg #[.int .i64 b, .int .i64 hi]) ∧ ∃ q os, w' = grow (w.drewN q) os) (w : World) :
    Calls Tryd.prog 60 #[.agg #[.int .i64 xh, .int .i64 xl], .int .i64 1] w fun e w' => e = .returned (.tuple #[.int .i64 lo, .int .i64 hi]) ∧ Below w.heap.size w w' := by
  have CL := Lib.hid hl
  have CU := Lib.hid hh
  clear hl hh
  have hfd := runField
  go_enter Tryd.func60, Tryd.ntmps60
  go_wp2_with fail
  refine (CL.out _).mono ?_
  rintro e w1 ⟨rfl, q1, os1, hw1⟩
  have b1 : Below w.heap.size w w1 := ((Below.refl w.heap.size w).alloc (Nat.le_refl _) _).trans (by rw [hw1]; exact (grownB _ _).mono (by simp))
  have B1 := Lib.hid b1
  clear hw1 b1
  go_wp2_with fail
  refine (CU.out _).mono ?_
  rintro e w2 ⟨rfl, q2, os2, hw2⟩
  have b2 : Below w.heap.size w w2 := B1.out.trans (by rw [hw2]; exact (grownB _ _).mono B1.out.size)
  have B2 := Lib.hid b2
  clear hw2 b2
  go_wp2
  go_ret2
  exact ⟨rfl, B2.out⟩
set_option maxRecDepth 100000 in
set_option maxHeartbeats 1000000 in
theorem halvesX2 (xh xl lo hi a b : Int) (hl : ∀ w, Calls Tryd.prog 55 #[.int .i64 xl, .int .i64 2, .bool false] w fun e w' => e = .returned (.agg #[.int .i64 a, .int .i64 lo]) ∧ ∃ q os, w' = grow (w.drewN q) os)
    (hh : ∀ w, Calls Tryd.prog 55 #[.int .i64 (xl / 65536), .int .i64 2, .bool false] w fun e w' => e = .returned (.agg #[.int .i64 b, .int .i64 hi]) ∧ ∃ q os, w' = grow (w.drewN q) os) (w : World) :
    Calls Tryd.prog 60 #[.agg #[.int .i64 xh, .int .i64 xl], .int .i64 2] w fun e w' => e = .returned (.tuple #[.int .i64 lo, .int .i64 hi]) ∧ Below w.heap.size w w' := by
  have CL := Lib.hid hl
  have CU := Lib.hid hh
  clear hl hh
  have hfd := runField
  go_enter Tryd.func60, Tryd.ntmps60
  go_wp2_with fail
  refine (CL.out _).mono ?_
  rintro e w1 ⟨rfl, q1, os1, hw1⟩
  have b1 : Below w.heap.size w w1 := ((Below.refl w.heap.size w).alloc (Nat.le_refl _) _).trans (by rw [hw1]; exact (grownB _ _).mono (by simp))
  have B1 := Lib.hid b1
  clear hw1 b1
  go_wp2_with fail
  refine (CU.out _).mono ?_
  rintro e w2 ⟨rfl, q2, os2, hw2⟩
  have b2 : Below w.heap.size w w2 := B1.out.trans (by rw [hw2]; exact (grownB _ _).mono B1.out.size)
  have B2 := Lib.hid b2
  clear hw2 b2
  go_wp2
  go_ret2
  exact ⟨rfl, B2.out⟩
set_option maxRecDepth 100000 in
set_option maxHeartbeats 1000000 in
theorem halvesX4 (xh xl lo hi a b : Int) (hl : ∀ w, Calls Tryd.prog 55 #[.int .i64 xl, .int .i64 4, .bool false] w fun e w' => e = .returned (.agg #[.int .i64 a, .int .i64 lo]) ∧ ∃ q os, w' = grow (w.drewN q) os)
    (hh : ∀ w, Calls Tryd.prog 55 #[.int .i64 (xl / 4294967296), .int .i64 4, .bool false] w fun e w' => e = .returned (.agg #[.int .i64 b, .int .i64 hi]) ∧ ∃ q os, w' = grow (w.drewN q) os) (w : World) :
    Calls Tryd.prog 60 #[.agg #[.int .i64 xh, .int .i64 xl], .int .i64 4] w fun e w' => e = .returned (.tuple #[.int .i64 lo, .int .i64 hi]) ∧ Below w.heap.size w w' := by
  have CL := Lib.hid hl
  have CU := Lib.hid hh
  clear hl hh
  have hfd := runField
  go_enter Tryd.func60, Tryd.ntmps60
  go_wp2_with fail
  refine (CL.out _).mono ?_
  rintro e w1 ⟨rfl, q1, os1, hw1⟩
  have b1 : Below w.heap.size w w1 := ((Below.refl w.heap.size w).alloc (Nat.le_refl _) _).trans (by rw [hw1]; exact (grownB _ _).mono (by simp))
  have B1 := Lib.hid b1
  clear hw1 b1
  go_wp2_with fail
  refine (CU.out _).mono ?_
  rintro e w2 ⟨rfl, q2, os2, hw2⟩
  have b2 : Below w.heap.size w w2 := B1.out.trans (by rw [hw2]; exact (grownB _ _).mono B1.out.size)
  have B2 := Lib.hid b2
  clear hw2 b2
  go_wp2
  go_ret2
  exact ⟨rfl, B2.out⟩
set_option maxRecDepth 100000 in
set_option maxHeartbeats 1000000 in
theorem halvesX8 (xh xl lo hi a b : Int) (hl : ∀ w, Calls Tryd.prog 55 #[.int .i64 xl, .int .i64 8, .bool false] w fun e w' => e = .returned (.agg #[.int .i64 a, .int .i64 lo]) ∧ ∃ q os, w' = grow (w.drewN q) os)
    (hh : ∀ w, Calls Tryd.prog 55 #[.int .i64 (xh), .int .i64 8, .bool false] w fun e w' => e = .returned (.agg #[.int .i64 b, .int .i64 hi]) ∧ ∃ q os, w' = grow (w.drewN q) os) (w : World) :
    Calls Tryd.prog 60 #[.agg #[.int .i64 xh, .int .i64 xl], .int .i64 8] w fun e w' => e = .returned (.tuple #[.int .i64 lo, .int .i64 hi]) ∧ Below w.heap.size w w' := by
  have CL := Lib.hid hl
  have CU := Lib.hid hh
  clear hl hh
  have hfd := runField
  go_enter Tryd.func60, Tryd.ntmps60
  go_wp2_with fail
  refine (CL.out _).mono ?_
  rintro e w1 ⟨rfl, q1, os1, hw1⟩
  have b1 : Below w.heap.size w w1 := ((Below.refl w.heap.size w).alloc (Nat.le_refl _) _).trans (by rw [hw1]; exact (grownB _ _).mono (by simp))
  have B1 := Lib.hid b1
  clear hw1 b1
  go_wp2_with fail
  refine (CU.out _).mono ?_
  rintro e w2 ⟨rfl, q2, os2, hw2⟩
  have b2 : Below w.heap.size w w2 := B1.out.trans (by rw [hw2]; exact (grownB _ _).mono B1.out.size)
  have B2 := Lib.hid b2
  clear hw2 b2
  go_wp2
  go_ret2
  exact ⟨rfl, B2.out⟩
end Go.Proofs.YtbcbepdfijcbmaaDoor
