/-
  What impl.Divide does of numbers that it takes, told by the contracts of its helpers; conditions: those in each head.
-/
import Derived.Test.YtbcbepdfijcbmaaDoorWalkDw4
import Derived.Deep.RegionHeld3
namespace Go.Proofs.YtbcbepdfijcbmaaDoor
open Go.RowKit Go.Sort
set_option linter.unusedVariables false
attribute [-go_sem] Instr.storeAt in
set_option maxRecDepth 100000 in
set_option maxHeartbeats 2000000 in
theorem divI16K (n h l d jh jl eh el ph pl r qh ql rh rl : Int) (hn : okSize n) (hJ : ∀ w, Calls Tryd.prog 54 #[.int .i64 h, .int .i64 l, .int .i64 n, .bool true] w fun e w' => e = .returned (.agg #[.int .i64 jh, .int .i64 jl]) ∧ Below w.heap.size w w') (hD : ∀ w, Calls Tryd.prog 55 #[.int .i64 d, .int .i64 n, .bool true] w fun e w' => e = .returned (.agg #[.int .i64 eh, .int .i64 el]) ∧ ∃ q os, w' = grow (w.drewN q) os) (hP : ∀ w, Calls Tryd.prog 52 #[.agg #[.int .i64 jh, .int .i64 jl], .agg #[.int .i64 eh, .int .i64 el]] w fun e w' => e = .returned (.tuple #[.agg #[.int .i64 ph, .int .i64 pl], .int .i64 r, .int .i64 16]) ∧ Below w.heap.size w w') (w : World) :
    Calls Tryd.prog 24 #[.int .i64 16, .int .i64 n, .int .i64 h, .int .i64 l, .int .i64 d] w fun e w' => e = .returned (.tuple #[.int .i64 0, .int .i64 0, .int .i64 16]) ∧ Below w.heap.size w w' := by
  have CZ := Lib.hid (fun w => checkYesF n w hn)
  have CO := Lib.hid (fun w => isOpYesD 16 w (by decide) (by decide))
  have CJ := Lib.hid hJ; have CD := Lib.hid hD; have CP := Lib.hid hP
  have HG := Lib.hid (heap_alloc_new w (.cells #[.nilFunc, .nilFunc, .nilFunc, .nilFunc, .nilFunc, .nilFunc, .nilFunc, .nilFunc, .nilFunc, .nilFunc, .nilFunc, .nilFunc, .nilFunc, .nilFunc, .nilFunc, .nilFunc, .nilFunc, .nilFunc, .nilFunc, .nilFunc, .nilFunc, .nilFunc, .nilFunc, .nilFunc, .nilFunc, .nilFunc, .nilFunc, .nilFunc, .nilFunc, .nilFunc, .nilFunc, .nilFunc, .nilFunc, .nilFunc, .nilFunc, .nilFunc, .nilFunc, .nilFunc, .nilFunc, .nilFunc, .nilFunc, .nilFunc, .nilFunc, .nilFunc, .nilFunc] 80))
  have hfd := runField; have hfh := fieldH
  clear hn hJ hD hP
  go_enter Tryd.func24, Tryd.ntmps24
  go_wp2_with fail
  refine (CZ.out _).mono ?_
  rintro e w1 ⟨rfl, rfl⟩
  have HW := Lib.hid (divRow_w w); have B9 := Lib.hid (divRow_b w)
  go_wp2_with (refine wpList_store_row rfl 80 (.tmp 13) (.tmp 21) rfl w.heap.size #[.nilFunc, .nilFunc, .nilFunc, .nilFunc, .nilFunc, .nilFunc, .nilFunc, .nilFunc, .nilFunc, .nilFunc, .nilFunc, .nilFunc, .nilFunc, .nilFunc, .nilFunc, .func (.func 51) #[] #[], .func (.func 52) #[] #[], .nilFunc, .nilFunc, .nilFunc, .nilFunc, .nilFunc, .nilFunc, .nilFunc, .nilFunc, .nilFunc, .nilFunc, .nilFunc, .nilFunc, .nilFunc, .nilFunc, .nilFunc, .nilFunc, .nilFunc, .nilFunc, .nilFunc, .nilFunc, .nilFunc, .nilFunc, .nilFunc, .nilFunc, .nilFunc, .nilFunc, .nilFunc, .nilFunc] rfl rfl 80 _ HG.out (by kernel_rfl) rfl (by simp [Value.oneCell']) ?_; generalize hW9 : (w.alloc (.cells #[.nilFunc, .nilFunc, .nilFunc, .nilFunc, .nilFunc, .nilFunc, .nilFunc, .nilFunc, .nilFunc, .nilFunc, .nilFunc, .nilFunc, .nilFunc, .nilFunc, .nilFunc, .nilFunc, .nilFunc, .nilFunc, .nilFunc, .nilFunc, .nilFunc, .nilFunc, .nilFunc, .nilFunc, .nilFunc, .nilFunc, .nilFunc, .nilFunc, .nilFunc, .nilFunc, .nilFunc, .nilFunc, .nilFunc, .nilFunc, .nilFunc, .nilFunc, .nilFunc, .nilFunc, .nilFunc, .nilFunc, .nilFunc, .nilFunc, .nilFunc, .nilFunc, .nilFunc] 80)).setRow w.heap.size #[.nilFunc, .nilFunc, .nilFunc, .nilFunc, .nilFunc, .nilFunc, .nilFunc, .nilFunc, .nilFunc, .nilFunc, .nilFunc, .nilFunc, .nilFunc, .nilFunc, .nilFunc, .func (.func 51) #[] #[], .func (.func 52) #[] #[], .nilFunc, .nilFunc, .nilFunc, .nilFunc, .nilFunc, .nilFunc, .nilFunc, .nilFunc, .nilFunc, .nilFunc, .nilFunc, .nilFunc, .nilFunc, .nilFunc, .nilFunc, .nilFunc, .nilFunc, .nilFunc, .nilFunc, .nilFunc, .nilFunc, .nilFunc, .nilFunc, .nilFunc, .nilFunc, .nilFunc, .nilFunc, .nilFunc] = W9 at *; clear hW9)
  clear HG
  have hc := (cell_of_row _ _ 16 _ _ _ HW.out).trans (show divRow[16]? = some (.func (.func 52) #[] #[]) from rfl)
  have KE := fun W => eqNoD (.func 52) #[] #[] W
  refine (CO.out _).mono ?_
  rintro e w2 ⟨rfl, rfl⟩
  have S9 : SD w 16 (.func (.func 52) #[] #[]) W9 := ⟨hc, B9.out⟩
  have HSt : ∀ (u : World) (b : Nat) (p q : Int), Two u b → (Instr.storeAt 82 (.pointer (some ⟨b, 0, none⟩)) (.agg #[.int .i64 p, .int .i64 q])).run Tryd.prog u = .ok () (u.setRow b #[.int .i64 p, .int .i64 q]) := fun u b p q h => h.store p q
  have HN := Two.new
  have HND : ∀ W : World, Two (W.drew.alloc (.cells #[.int .i64 0, .int .i64 0] 82)) W.heap.size := fun W => Two.new W.drew
  have CD' : Hid (∀ w, Calls Tryd.prog 55 #[.int .i64 d, .int .i64 n, .bool true] w fun e w' => e = .returned (.agg #[.int .i64 eh, .int .i64 el]) ∧ Below w.heap.size w w') := Lib.hid (fun w => (CD.out w).mono fun e w' ⟨h, q, os, hw⟩ => ⟨h, by rw [hw]; exact grownB _ _⟩)
  go_wp2
  go_region_held3 (fun W' => W'.cell? ⟨w.heap.size, 16, none⟩ = some (.func (.func 52) #[] #[]) ∧ Below w.heap.size w W') (first | assumption | (exact SD.drew (by assumption)) | (exact SD.alloc (by assumption) _) | (exact SD.alloc (SD.drew (by assumption)) _) | (exact SD.row (by assumption) (SD.lt (by assumption)) _) | (exact SD.row (SD.alloc (by assumption) _) (SD.lt (by assumption)) _)) (first | (go_at_call 54; (with_reducible refine Calls.mono (CJ.out _) ?_); rintro e w1 ⟨rfl, h1⟩; have j1 := SD.call (by assumption) h1; have n1 := Two.call h1; clear h1; (first | (have t1 := n1 _ (HND _)) | (have t1 := n1 _ (Two.new _)) | (have t1 := n1 _ (by assumption)) | (have t1 := n1 _ (Two.drew (by assumption))) | skip); clear n1) | (go_at_call 55; (with_reducible refine Calls.mono (CD'.out _) ?_); rintro e w1 ⟨rfl, h1⟩; have j1 := SD.call (by assumption) h1; have n1 := Two.call h1; clear h1; (first | (have t1 := n1 _ (HND _)) | (have t1 := n1 _ (Two.new _)) | (have t1 := n1 _ (by assumption)) | (have t1 := n1 _ (Two.drew (by assumption))) | skip); clear n1) | (go_at_call 52; (with_reducible refine Calls.mono (CP.out _) ?_); rintro e w1 ⟨rfl, h1⟩; have j1 := SD.call (by assumption) h1; have n1 := Two.call h1; clear h1; (first | (have t1 := n1 _ (HND _)) | (have t1 := n1 _ (Two.new _)) | (have t1 := n1 _ (by assumption)) | (have t1 := n1 _ (Two.drew (by assumption))) | skip); clear n1))
  all_goals
    have BV := Lib.hid (And.right (by assumption : _ ∧ Below w.heap.size w (World.setRow _ _ _)))
    have R := Lib.hid (rowOf BV.out (by first | assumption | exact HN _ | exact HND _))
    obtain ⟨c0, c1, c2, c3⟩ := row_cells2 R.out
    clear CJ CD CD' CP HSt HN HND HW B9 hc S9 j1 KE CO CZ
    go_wp2
    go_ret3
    exact ⟨rfl, BV.out⟩
attribute [-go_sem] Instr.storeAt in
set_option maxRecDepth 100000 in
set_option maxHeartbeats 2000000 in
theorem divI16N (n h l d jh jl eh el ph pl r qh ql rh rl : Int) (hn : okSize n) (hJ : ∀ w, Calls Tryd.prog 54 #[.int .i64 h, .int .i64 l, .int .i64 n, .bool true] w fun e w' => e = .returned (.agg #[.int .i64 jh, .int .i64 jl]) ∧ Below w.heap.size w w') (hD : ∀ w, Calls Tryd.prog 55 #[.int .i64 d, .int .i64 n, .bool true] w fun e w' => e = .returned (.agg #[.int .i64 eh, .int .i64 el]) ∧ ∃ q os, w' = grow (w.drewN q) os) (hP : ∀ w, Calls Tryd.prog 52 #[.agg #[.int .i64 jh, .int .i64 jl], .agg #[.int .i64 eh, .int .i64 el]] w fun e w' => e = .returned (.tuple #[.agg #[.int .i64 ph, .int .i64 pl], .int .i64 r, .int .i64 0]) ∧ Below w.heap.size w w') (hF : ∀ w, Calls Tryd.prog 56 #[.agg #[.int .i64 ph, .int .i64 pl], .int .i64 n, .bool true] w fun e w' => e = .returned (.bool false) ∧ Below w.heap.size w w') (w : World) :
    Calls Tryd.prog 24 #[.int .i64 16, .int .i64 n, .int .i64 h, .int .i64 l, .int .i64 d] w fun e w' => e = .returned (.tuple #[.int .i64 0, .int .i64 0, .int .i64 16]) ∧ Below w.heap.size w w' := by
  have CZ := Lib.hid (fun w => checkYesF n w hn)
  have CO := Lib.hid (fun w => isOpYesD 16 w (by decide) (by decide))
  have CJ := Lib.hid hJ; have CD := Lib.hid hD; have CP := Lib.hid hP; have CF := Lib.hid hF
  have HG := Lib.hid (heap_alloc_new w (.cells #[.nilFunc, .nilFunc, .nilFunc, .nilFunc, .nilFunc, .nilFunc, .nilFunc, .nilFunc, .nilFunc, .nilFunc, .nilFunc, .nilFunc, .nilFunc, .nilFunc, .nilFunc, .nilFunc, .nilFunc, .nilFunc, .nilFunc, .nilFunc, .nilFunc, .nilFunc, .nilFunc, .nilFunc, .nilFunc, .nilFunc, .nilFunc, .nilFunc, .nilFunc, .nilFunc, .nilFunc, .nilFunc, .nilFunc, .nilFunc, .nilFunc, .nilFunc, .nilFunc, .nilFunc, .nilFunc, .nilFunc, .nilFunc, .nilFunc, .nilFunc, .nilFunc, .nilFunc] 80))
  have hfd := runField; have hfh := fieldH
  clear hn hJ hD hP hF
  go_enter Tryd.func24, Tryd.ntmps24
  go_wp2_with fail
  refine (CZ.out _).mono ?_
  rintro e w1 ⟨rfl, rfl⟩
  have HW := Lib.hid (divRow_w w); have B9 := Lib.hid (divRow_b w)
  go_wp2_with (refine wpList_store_row rfl 80 (.tmp 13) (.tmp 21) rfl w.heap.size #[.nilFunc, .nilFunc, .nilFunc, .nilFunc, .nilFunc, .nilFunc, .nilFunc, .nilFunc, .nilFunc, .nilFunc, .nilFunc, .nilFunc, .nilFunc, .nilFunc, .nilFunc, .func (.func 51) #[] #[], .func (.func 52) #[] #[], .nilFunc, .nilFunc, .nilFunc, .nilFunc, .nilFunc, .nilFunc, .nilFunc, .nilFunc, .nilFunc, .nilFunc, .nilFunc, .nilFunc, .nilFunc, .nilFunc, .nilFunc, .nilFunc, .nilFunc, .nilFunc, .nilFunc, .nilFunc, .nilFunc, .nilFunc, .nilFunc, .nilFunc, .nilFunc, .nilFunc, .nilFunc, .nilFunc] rfl rfl 80 _ HG.out (by kernel_rfl) rfl (by simp [Value.oneCell']) ?_; generalize hW9 : (w.alloc (.cells #[.nilFunc, .nilFunc, .nilFunc, .nilFunc, .nilFunc, .nilFunc, .nilFunc, .nilFunc, .nilFunc, .nilFunc, .nilFunc, .nilFunc, .nilFunc, .nilFunc, .nilFunc, .nilFunc, .nilFunc, .nilFunc, .nilFunc, .nilFunc, .nilFunc, .nilFunc, .nilFunc, .nilFunc, .nilFunc, .nilFunc, .nilFunc, .nilFunc, .nilFunc, .nilFunc, .nilFunc, .nilFunc, .nilFunc, .nilFunc, .nilFunc, .nilFunc, .nilFunc, .nilFunc, .nilFunc, .nilFunc, .nilFunc, .nilFunc, .nilFunc, .nilFunc, .nilFunc] 80)).setRow w.heap.size #[.nilFunc, .nilFunc, .nilFunc, .nilFunc, .nilFunc, .nilFunc, .nilFunc, .nilFunc, .nilFunc, .nilFunc, .nilFunc, .nilFunc, .nilFunc, .nilFunc, .nilFunc, .func (.func 51) #[] #[], .func (.func 52) #[] #[], .nilFunc, .nilFunc, .nilFunc, .nilFunc, .nilFunc, .nilFunc, .nilFunc, .nilFunc, .nilFunc, .nilFunc, .nilFunc, .nilFunc, .nilFunc, .nilFunc, .nilFunc, .nilFunc, .nilFunc, .nilFunc, .nilFunc, .nilFunc, .nilFunc, .nilFunc, .nilFunc, .nilFunc, .nilFunc, .nilFunc, .nilFunc, .nilFunc] = W9 at *; clear hW9)
  clear HG
  have hc := (cell_of_row _ _ 16 _ _ _ HW.out).trans (show divRow[16]? = some (.func (.func 52) #[] #[]) from rfl)
  have KE := fun W => eqNoD (.func 52) #[] #[] W
  refine (CO.out _).mono ?_
  rintro e w2 ⟨rfl, rfl⟩
  have S9 : SD w 16 (.func (.func 52) #[] #[]) W9 := ⟨hc, B9.out⟩
  have HSt : ∀ (u : World) (b : Nat) (p q : Int), Two u b → (Instr.storeAt 82 (.pointer (some ⟨b, 0, none⟩)) (.agg #[.int .i64 p, .int .i64 q])).run Tryd.prog u = .ok () (u.setRow b #[.int .i64 p, .int .i64 q]) := fun u b p q h => h.store p q
  have HN := Two.new
  have HND : ∀ W : World, Two (W.drew.alloc (.cells #[.int .i64 0, .int .i64 0] 82)) W.heap.size := fun W => Two.new W.drew
  have CD' : Hid (∀ w, Calls Tryd.prog 55 #[.int .i64 d, .int .i64 n, .bool true] w fun e w' => e = .returned (.agg #[.int .i64 eh, .int .i64 el]) ∧ Below w.heap.size w w') := Lib.hid (fun w => (CD.out w).mono fun e w' ⟨h, q, os, hw⟩ => ⟨h, by rw [hw]; exact grownB _ _⟩)
  go_wp2
  go_region_held3 (fun W' => W'.cell? ⟨w.heap.size, 16, none⟩ = some (.func (.func 52) #[] #[]) ∧ Below w.heap.size w W') (first | assumption | (exact SD.drew (by assumption)) | (exact SD.alloc (by assumption) _) | (exact SD.alloc (SD.drew (by assumption)) _) | (exact SD.row (by assumption) (SD.lt (by assumption)) _) | (exact SD.row (SD.alloc (by assumption) _) (SD.lt (by assumption)) _)) (first | (go_at_call 54; (with_reducible refine Calls.mono (CJ.out _) ?_); rintro e w1 ⟨rfl, h1⟩; have j1 := SD.call (by assumption) h1; have n1 := Two.call h1; clear h1; (first | (have t1 := n1 _ (HND _)) | (have t1 := n1 _ (Two.new _)) | (have t1 := n1 _ (by assumption)) | (have t1 := n1 _ (Two.drew (by assumption))) | skip); clear n1) | (go_at_call 55; (with_reducible refine Calls.mono (CD'.out _) ?_); rintro e w1 ⟨rfl, h1⟩; have j1 := SD.call (by assumption) h1; have n1 := Two.call h1; clear h1; (first | (have t1 := n1 _ (HND _)) | (have t1 := n1 _ (Two.new _)) | (have t1 := n1 _ (by assumption)) | (have t1 := n1 _ (Two.drew (by assumption))) | skip); clear n1) | (go_at_call 52; (with_reducible refine Calls.mono (CP.out _) ?_); rintro e w1 ⟨rfl, h1⟩; have j1 := SD.call (by assumption) h1; have n1 := Two.call h1; clear h1; (first | (have t1 := n1 _ (HND _)) | (have t1 := n1 _ (Two.new _)) | (have t1 := n1 _ (by assumption)) | (have t1 := n1 _ (Two.drew (by assumption))) | skip); clear n1))
  all_goals
    have BV := Lib.hid (And.right (by assumption : _ ∧ Below w.heap.size w (World.setRow _ _ _)))
    have R := Lib.hid (rowOf BV.out (by first | assumption | exact HN _ | exact HND _))
    obtain ⟨c0, c1, c2, c3⟩ := row_cells2 R.out
    clear CJ CD CD' CP HSt HN HND HW B9 hc S9 j1 KE CO CZ
    go_wp2_with fail
    refine (CF.out _).mono ?_
    rintro e V1 ⟨rfl, hb1⟩
    clear c0 c1 c2 c3
    have B1 := Lib.hid (BV.out.trans (hb1.mono BV.out.size))
    have R1 := Lib.hid (rowOn R.out hb1)
    clear hb1
    obtain ⟨c0, c1, c2, c3⟩ := row_cells2 R1.out
    go_wp2
    go_ret3
    exact ⟨rfl, B1.out⟩
attribute [-go_sem] Instr.storeAt in
set_option maxRecDepth 100000 in
set_option maxHeartbeats 2000000 in
theorem divI16Y (n h l d jh jl eh el ph pl r qh ql rh rl : Int) (hn : okSize n) (hJ : ∀ w, Calls Tryd.prog 54 #[.int .i64 h, .int .i64 l, .int .i64 n, .bool true] w fun e w' => e = .returned (.agg #[.int .i64 jh, .int .i64 jl]) ∧ Below w.heap.size w w') (hD : ∀ w, Calls Tryd.prog 55 #[.int .i64 d, .int .i64 n, .bool true] w fun e w' => e = .returned (.agg #[.int .i64 eh, .int .i64 el]) ∧ ∃ q os, w' = grow (w.drewN q) os) (hP : ∀ w, Calls Tryd.prog 52 #[.agg #[.int .i64 jh, .int .i64 jl], .agg #[.int .i64 eh, .int .i64 el]] w fun e w' => e = .returned (.tuple #[.agg #[.int .i64 ph, .int .i64 pl], .int .i64 r, .int .i64 0]) ∧ Below w.heap.size w w') (hF : ∀ w, Calls Tryd.prog 56 #[.agg #[.int .i64 ph, .int .i64 pl], .int .i64 n, .bool true] w fun e w' => e = .returned (.bool true) ∧ Below w.heap.size w w') (hQ : ∀ w, Calls Tryd.prog 55 #[.int .i64 pl, .int .i64 n, .bool false] w fun e w' => e = .returned (.agg #[.int .i64 qh, .int .i64 ql]) ∧ ∃ q os, w' = grow (w.drewN q) os) (hR : ∀ w, Calls Tryd.prog 55 #[.int .i64 r, .int .i64 n, .bool false] w fun e w' => e = .returned (.agg #[.int .i64 rh, .int .i64 rl]) ∧ ∃ q os, w' = grow (w.drewN q) os) (w : World) :
    Calls Tryd.prog 24 #[.int .i64 16, .int .i64 n, .int .i64 h, .int .i64 l, .int .i64 d] w fun e w' => e = .returned (.tuple #[.int .i64 ql, .int .i64 rl, .int .i64 0]) ∧ Below w.heap.size w w' := by
  have CZ := Lib.hid (fun w => checkYesF n w hn)
  have CO := Lib.hid (fun w => isOpYesD 16 w (by decide) (by decide))
  have CJ := Lib.hid hJ; have CD := Lib.hid hD; have CP := Lib.hid hP; have CF := Lib.hid hF; have CQ := Lib.hid hQ; have CR := Lib.hid hR
  have HG := Lib.hid (heap_alloc_new w (.cells #[.nilFunc, .nilFunc, .nilFunc, .nilFunc, .nilFunc, .nilFunc, .nilFunc, .nilFunc, .nilFunc, .nilFunc, .nilFunc, .nilFunc, .nilFunc, .nilFunc, .nilFunc, .nilFunc, .nilFunc, .nilFunc, .nilFunc, .nilFunc, .nilFunc, .nilFunc, .nilFunc, .nilFunc, .nilFunc, .nilFunc, .nilFunc, .nilFunc, .nilFunc, .nilFunc, .nilFunc, .nilFunc, .nilFunc, .nilFunc, .nilFunc, .nilFunc, .nilFunc, .nilFunc, .nilFunc, .nilFunc, .nilFunc, .nilFunc, .nilFunc, .nilFunc, .nilFunc] 80))
  have hfd := runField; have hfh := fieldH
  clear hn hJ hD hP hF hQ hR
  go_enter Tryd.func24, Tryd.ntmps24
  go_wp2_with fail
  refine (CZ.out _).mono ?_
  rintro e w1 ⟨rfl, rfl⟩
  have HW := Lib.hid (divRow_w w); have B9 := Lib.hid (divRow_b w)
  go_wp2_with (refine wpList_store_row rfl 80 (.tmp 13) (.tmp 21) rfl w.heap.size #[.nilFunc, .nilFunc, .nilFunc, .nilFunc, .nilFunc, .nilFunc, .nilFunc, .nilFunc, .nilFunc, .nilFunc, .nilFunc, .nilFunc, .nilFunc, .nilFunc, .nilFunc, .func (.func 51) #[] #[], .func (.func 52) #[] #[], .nilFunc, .nilFunc, .nilFunc, .nilFunc, .nilFunc, .nilFunc, .nilFunc, .nilFunc, .nilFunc, .nilFunc, .nilFunc, .nilFunc, .nilFunc, .nilFunc, .nilFunc, .nilFunc, .nilFunc, .nilFunc, .nilFunc, .nilFunc, .nilFunc, .nilFunc, .nilFunc, .nilFunc, .nilFunc, .nilFunc, .nilFunc, .nilFunc] rfl rfl 80 _ HG.out (by kernel_rfl) rfl (by simp [Value.oneCell']) ?_; generalize hW9 : (w.alloc (.cells #[.nilFunc, .nilFunc, .nilFunc, .nilFunc, .nilFunc, .nilFunc, .nilFunc, .nilFunc, .nilFunc, .nilFunc, .nilFunc, .nilFunc, .nilFunc, .nilFunc, .nilFunc, .nilFunc, .nilFunc, .nilFunc, .nilFunc, .nilFunc, .nilFunc, .nilFunc, .nilFunc, .nilFunc, .nilFunc, .nilFunc, .nilFunc, .nilFunc, .nilFunc, .nilFunc, .nilFunc, .nilFunc, .nilFunc, .nilFunc, .nilFunc, .nilFunc, .nilFunc, .nilFunc, .nilFunc, .nilFunc, .nilFunc, .nilFunc, .nilFunc, .nilFunc, .nilFunc] 80)).setRow w.heap.size #[.nilFunc, .nilFunc, .nilFunc, .nilFunc, .nilFunc, .nilFunc, .nilFunc, .nilFunc, .nilFunc, .nilFunc, .nilFunc, .nilFunc, .nilFunc, .nilFunc, .nilFunc, .func (.func 51) #[] #[], .func (.func 52) #[] #[], .nilFunc, .nilFunc, .nilFunc, .nilFunc, .nilFunc, .nilFunc, .nilFunc, .nilFunc, .nilFunc, .nilFunc, .nilFunc, .nilFunc, .nilFunc, .nilFunc, .nilFunc, .nilFunc, .nilFunc, .nilFunc, .nilFunc, .nilFunc, .nilFunc, .nilFunc, .nilFunc, .nilFunc, .nilFunc, .nilFunc, .nilFunc, .nilFunc] = W9 at *; clear hW9)
  clear HG
  have hc := (cell_of_row _ _ 16 _ _ _ HW.out).trans (show divRow[16]? = some (.func (.func 52) #[] #[]) from rfl)
  have KE := fun W => eqNoD (.func 52) #[] #[] W
  refine (CO.out _).mono ?_
  rintro e w2 ⟨rfl, rfl⟩
  have S9 : SD w 16 (.func (.func 52) #[] #[]) W9 := ⟨hc, B9.out⟩
  have HSt : ∀ (u : World) (b : Nat) (p q : Int), Two u b → (Instr.storeAt 82 (.pointer (some ⟨b, 0, none⟩)) (.agg #[.int .i64 p, .int .i64 q])).run Tryd.prog u = .ok () (u.setRow b #[.int .i64 p, .int .i64 q]) := fun u b p q h => h.store p q
  have HN := Two.new
  have HND : ∀ W : World, Two (W.drew.alloc (.cells #[.int .i64 0, .int .i64 0] 82)) W.heap.size := fun W => Two.new W.drew
  have CD' : Hid (∀ w, Calls Tryd.prog 55 #[.int .i64 d, .int .i64 n, .bool true] w fun e w' => e = .returned (.agg #[.int .i64 eh, .int .i64 el]) ∧ Below w.heap.size w w') := Lib.hid (fun w => (CD.out w).mono fun e w' ⟨h, q, os, hw⟩ => ⟨h, by rw [hw]; exact grownB _ _⟩)
  go_wp2
  go_region_held3 (fun W' => W'.cell? ⟨w.heap.size, 16, none⟩ = some (.func (.func 52) #[] #[]) ∧ Below w.heap.size w W') (first | assumption | (exact SD.drew (by assumption)) | (exact SD.alloc (by assumption) _) | (exact SD.alloc (SD.drew (by assumption)) _) | (exact SD.row (by assumption) (SD.lt (by assumption)) _) | (exact SD.row (SD.alloc (by assumption) _) (SD.lt (by assumption)) _)) (first | (go_at_call 54; (with_reducible refine Calls.mono (CJ.out _) ?_); rintro e w1 ⟨rfl, h1⟩; have j1 := SD.call (by assumption) h1; have n1 := Two.call h1; clear h1; (first | (have t1 := n1 _ (HND _)) | (have t1 := n1 _ (Two.new _)) | (have t1 := n1 _ (by assumption)) | (have t1 := n1 _ (Two.drew (by assumption))) | skip); clear n1) | (go_at_call 55; (with_reducible refine Calls.mono (CD'.out _) ?_); rintro e w1 ⟨rfl, h1⟩; have j1 := SD.call (by assumption) h1; have n1 := Two.call h1; clear h1; (first | (have t1 := n1 _ (HND _)) | (have t1 := n1 _ (Two.new _)) | (have t1 := n1 _ (by assumption)) | (have t1 := n1 _ (Two.drew (by assumption))) | skip); clear n1) | (go_at_call 52; (with_reducible refine Calls.mono (CP.out _) ?_); rintro e w1 ⟨rfl, h1⟩; have j1 := SD.call (by assumption) h1; have n1 := Two.call h1; clear h1; (first | (have t1 := n1 _ (HND _)) | (have t1 := n1 _ (Two.new _)) | (have t1 := n1 _ (by assumption)) | (have t1 := n1 _ (Two.drew (by assumption))) | skip); clear n1))
  all_goals
    have BV := Lib.hid (And.right (by assumption : _ ∧ Below w.heap.size w (World.setRow _ _ _)))
    have R := Lib.hid (rowOf BV.out (by first | assumption | exact HN _ | exact HND _))
    obtain ⟨c0, c1, c2, c3⟩ := row_cells2 R.out
    clear CJ CD CD' CP HSt HN HND HW B9 hc S9 j1 KE CO CZ
    go_wp2_with fail
    refine (CF.out _).mono ?_
    rintro e V1 ⟨rfl, hb1⟩
    clear c0 c1 c2 c3
    have B1 := Lib.hid (BV.out.trans (hb1.mono BV.out.size))
    have R1 := Lib.hid (rowOn R.out hb1)
    clear hb1
    obtain ⟨c0, c1, c2, c3⟩ := row_cells2 R1.out
    go_wp2_with fail
    refine (CQ.out _).mono ?_
    rintro e V2 ⟨rfl, q1, os1, hw1⟩
    have b2 : Below w.heap.size w V2 := B1.out.trans (by rw [hw1]; exact (grownB _ _).mono B1.out.size)
    have B2 := Lib.hid b2
    clear hw1 b2 c0 c1 c2 c3
    go_wp2_with fail
    refine (CR.out _).mono ?_
    rintro e V3 ⟨rfl, q2, os2, hw2⟩
    have b3 : Below w.heap.size w V3 := B2.out.trans (by rw [hw2]; exact (grownB _ _).mono B2.out.size)
    have B3 := Lib.hid b3
    clear hw2 b3
    go_wp2
    go_ret3
    exact ⟨rfl, B3.out⟩
end Go.Proofs.YtbcbepdfijcbmaaDoor
