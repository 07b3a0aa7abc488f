/-
  What impl.Multiply does of numbers that it takes, told by the contracts of its helpers; conditions: those in each head.
-/
import Derived.Test.YtbcbepdfijcbmaaDoorWalkWd
import Derived.Test.YtbcbepdfijcbmaaDoorWalkFlW
namespace Go.Proofs.YtbcbepdfijcbmaaDoor
open Go.RowKit Go.Sort
set_option linter.unusedVariables false
theorem results_tmp4 {fn : Func} {t u v x : Tmp} (h : fn.results = #[.tmp t, .tmp u, .tmp v, .tmp x]) (tmps : Array Value) (P : Program) (w : World) :
    (results fn tmps).run P w = .ok (.tuple #[tmps.getD t undef, tmps.getD u undef, tmps.getD v undef, tmps.getD x undef]) w := by
  simp [results, h]
set_option maxRecDepth 100000 in
set_option maxHeartbeats 2000000 in
theorem mulI13 (n a b f ah al bh bl ph pl lo hi : Int) (ft : Bool) (hn : okSize n) (hF : ∀ w, Calls Tryd.prog 58 #[.int .i64 f] w fun e w' => e = .returned (.bool true) ∧ w' = w)
    (hA : ∀ w, Calls Tryd.prog 55 #[.int .i64 a, .int .i64 n, .bool false] w fun e w' => e = .returned (.agg #[.int .i64 ah, .int .i64 al]) ∧ ∃ q os, w' = grow (w.drewN q) os)
    (hB : ∀ w, Calls Tryd.prog 55 #[.int .i64 b, .int .i64 n, .bool false] w fun e w' => e = .returned (.agg #[.int .i64 bh, .int .i64 bl]) ∧ ∃ q os, w' = grow (w.drewN q) os)
    (hT : ∀ w, Calls Tryd.prog 59 #[.agg #[.int .i64 ah, .int .i64 al], .agg #[.int .i64 bh, .int .i64 bl]] w fun e w' => e = .returned (.agg #[.int .i64 ph, .int .i64 pl]) ∧ Below w.heap.size w w')
    (hH : ∀ w, Calls Tryd.prog 60 #[.agg #[.int .i64 ph, .int .i64 pl], .int .i64 n] w fun e w' => e = .returned (.tuple #[.int .i64 lo, .int .i64 hi]) ∧ Below w.heap.size w w')
    (hI : ∀ w, Calls Tryd.prog 56 #[.agg #[.int .i64 ph, .int .i64 pl], .int .i64 n, .bool false] w fun e w' => e = .returned (.bool ft) ∧ Below w.heap.size w w') (w : World) :
    Calls Tryd.prog 26 #[.int .i64 13, .int .i64 n, .int .i64 a, .int .i64 b, .int .i64 f] w fun e w' => e = .returned (.tuple #[.int .i64 lo, .int .i64 hi, .int .i64 (wCar f (!ft) (!ft)), .int .i64 0]) ∧ Below w.heap.size w w' := by
  have CZ := Lib.hid (fun w => checkYesF n w hn)
  have CF := Lib.hid (fun w => (hF w).mono fun _ _ h => (⟨h.1, h.2.symm⟩ : _ ∧ w = _)); have CA := Lib.hid hA; have CB := Lib.hid hB; have CT := Lib.hid hT; have CH := Lib.hid hH; have CI := Lib.hid hI; have CC := Lib.hid (withCarryC f (!ft) (!ft))
  have B0 := Lib.hid (Below.refl w.heap.size w)
  clear hn hF hA hB hT hH hI
  go_enter Tryd.func26, Tryd.ntmps26
  go_wp2_with fail
  refine (CZ.out _).mono ?_
  rintro e w1 ⟨rfl, rfl⟩
  go_wp2_with fail
  refine (CF.out _).mono ?_
  rintro e w2 ⟨rfl, rfl⟩
  go_wp2_with fail
  refine (CA.out _).mono ?_
  rintro e w3 ⟨rfl, q1, os1, hw⟩
  have b1 : Below w.heap.size w w3 := B0.out.trans (by rw [hw]; exact (grownB _ _).mono (by first | (simp; done) | exact B0.out.size | omega))
  have B1 := Lib.hid b1
  clear hw b1
  go_wp2_with fail
  refine (CB.out _).mono ?_
  rintro e w4 ⟨rfl, q2, os2, hw⟩
  have b1 : Below w.heap.size w w4 := B1.out.trans (by rw [hw]; exact (grownB _ _).mono B1.out.size)
  have B2 := Lib.hid b1
  clear hw b1
  go_wp2_with fail
  refine (CT.out _).mono ?_
  rintro e w5 ⟨rfl, hw⟩
  have B3 := Lib.hid (B2.out.trans (hw.mono B2.out.size))
  clear hw
  go_wp2_with fail
  refine (CH.out _).mono ?_
  rintro e w6 ⟨rfl, hw⟩
  have r6 : w6.heap[w5.heap.size]? = some (.cells #[.int .i64 ph, .int .i64 pl] 82 (0, 0)) := (hw.block _ (by simp)).trans (heap_alloc_new w5 _)
  have b4 : Below w.heap.size w w6 := (B3.out.alloc B3.out.size _).trans (hw.mono (by have := B3.out.size; simp; omega))
  have R6 := Lib.hid r6
  have B4 := Lib.hid b4
  clear hw r6 b4
  go_wp2_with (refine wpList_load_row rfl 82 (.tmp 15) rfl w5.heap.size rfl 82 #[.int .i64 ph, .int .i64 pl] (0, 0) _ R6.out Tryd.underlying82 rfl (by kernel_rfl) ?_)
  refine (CI.out _).mono ?_
  rintro e w7 ⟨rfl, hw⟩
  have B5 := Lib.hid (B4.out.trans (hw.mono B4.out.size))
  clear hw
  go_wp2_with fail
  refine (CC.out _).mono ?_
  rintro e w8 ⟨rfl, rfl⟩
  go_wp2
  refine bodyPost_ret (results_tmp4 rfl _ _ _) rfl ?_
  exact ⟨rfl, B5.out⟩
set_option maxRecDepth 100000 in
set_option maxHeartbeats 2000000 in
theorem mulI14 (n a b f ah al bh bl ph pl lo hi : Int) (ft : Bool) (hn : okSize n) (hF : ∀ w, Calls Tryd.prog 58 #[.int .i64 f] w fun e w' => e = .returned (.bool true) ∧ w' = w)
    (hA : ∀ w, Calls Tryd.prog 55 #[.int .i64 a, .int .i64 n, .bool true] w fun e w' => e = .returned (.agg #[.int .i64 ah, .int .i64 al]) ∧ ∃ q os, w' = grow (w.drewN q) os)
    (hB : ∀ w, Calls Tryd.prog 55 #[.int .i64 b, .int .i64 n, .bool true] w fun e w' => e = .returned (.agg #[.int .i64 bh, .int .i64 bl]) ∧ ∃ q os, w' = grow (w.drewN q) os)
    (hT : ∀ w, Calls Tryd.prog 59 #[.agg #[.int .i64 ah, .int .i64 al], .agg #[.int .i64 bh, .int .i64 bl]] w fun e w' => e = .returned (.agg #[.int .i64 ph, .int .i64 pl]) ∧ Below w.heap.size w w')
    (hH : ∀ w, Calls Tryd.prog 60 #[.agg #[.int .i64 ph, .int .i64 pl], .int .i64 n] w fun e w' => e = .returned (.tuple #[.int .i64 lo, .int .i64 hi]) ∧ Below w.heap.size w w')
    (hI : ∀ w, Calls Tryd.prog 56 #[.agg #[.int .i64 ph, .int .i64 pl], .int .i64 n, .bool true] w fun e w' => e = .returned (.bool ft) ∧ Below w.heap.size w w') (w : World) :
    Calls Tryd.prog 26 #[.int .i64 14, .int .i64 n, .int .i64 a, .int .i64 b, .int .i64 f] w fun e w' => e = .returned (.tuple #[.int .i64 lo, .int .i64 hi, .int .i64 (wCar f (!ft) (!ft)), .int .i64 0]) ∧ Below w.heap.size w w' := by
  have CZ := Lib.hid (fun w => checkYesF n w hn)
  have CF := Lib.hid (fun w => (hF w).mono fun _ _ h => (⟨h.1, h.2.symm⟩ : _ ∧ w = _)); have CA := Lib.hid hA; have CB := Lib.hid hB; have CT := Lib.hid hT; have CH := Lib.hid hH; have CI := Lib.hid hI; have CC := Lib.hid (withCarryC f (!ft) (!ft))
  have B0 := Lib.hid (Below.refl w.heap.size w)
  clear hn hF hA hB hT hH hI
  go_enter Tryd.func26, Tryd.ntmps26
  go_wp2_with fail
  refine (CZ.out _).mono ?_
  rintro e w1 ⟨rfl, rfl⟩
  go_wp2_with fail
  refine (CF.out _).mono ?_
  rintro e w2 ⟨rfl, rfl⟩
  go_wp2_with fail
  refine (CA.out _).mono ?_
  rintro e w3 ⟨rfl, q1, os1, hw⟩
  have b1 : Below w.heap.size w w3 := B0.out.trans (by rw [hw]; exact (grownB _ _).mono (by first | (simp; done) | exact B0.out.size | omega))
  have B1 := Lib.hid b1
  clear hw b1
  go_wp2_with fail
  refine (CB.out _).mono ?_
  rintro e w4 ⟨rfl, q2, os2, hw⟩
  have b1 : Below w.heap.size w w4 := B1.out.trans (by rw [hw]; exact (grownB _ _).mono B1.out.size)
  have B2 := Lib.hid b1
  clear hw b1
  go_wp2_with fail
  refine (CT.out _).mono ?_
  rintro e w5 ⟨rfl, hw⟩
  have B3 := Lib.hid (B2.out.trans (hw.mono B2.out.size))
  clear hw
  go_wp2_with fail
  refine (CH.out _).mono ?_
  rintro e w6 ⟨rfl, hw⟩
  have r6 : w6.heap[w5.heap.size]? = some (.cells #[.int .i64 ph, .int .i64 pl] 82 (0, 0)) := (hw.block _ (by simp)).trans (heap_alloc_new w5 _)
  have b4 : Below w.heap.size w w6 := (B3.out.alloc B3.out.size _).trans (hw.mono (by have := B3.out.size; simp; omega))
  have R6 := Lib.hid r6
  have B4 := Lib.hid b4
  clear hw r6 b4
  go_wp2_with (refine wpList_load_row rfl 82 (.tmp 15) rfl w5.heap.size rfl 82 #[.int .i64 ph, .int .i64 pl] (0, 0) _ R6.out Tryd.underlying82 rfl (by kernel_rfl) ?_)
  refine (CI.out _).mono ?_
  rintro e w7 ⟨rfl, hw⟩
  have B5 := Lib.hid (B4.out.trans (hw.mono B4.out.size))
  clear hw
  go_wp2_with fail
  refine (CC.out _).mono ?_
  rintro e w8 ⟨rfl, rfl⟩
  go_wp2
  refine bodyPost_ret (results_tmp4 rfl _ _ _) rfl ?_
  exact ⟨rfl, B5.out⟩
set_option maxRecDepth 100000 in
set_option maxHeartbeats 2000000 in
theorem mulI17 (n a b f ah al bh bl ph pl lo hi : Int) (ft : Bool) (hn : okSize n) (hF : ∀ w, Calls Tryd.prog 58 #[.int .i64 f] w fun e w' => e = .returned (.bool true) ∧ w' = w)
    (hA : ∀ w, Calls Tryd.prog 55 #[.int .i64 a, .int .i64 n, .bool true] w fun e w' => e = .returned (.agg #[.int .i64 ah, .int .i64 al]) ∧ ∃ q os, w' = grow (w.drewN q) os)
    (hB : ∀ w, Calls Tryd.prog 55 #[.int .i64 b, .int .i64 n, .bool true] w fun e w' => e = .returned (.agg #[.int .i64 bh, .int .i64 bl]) ∧ ∃ q os, w' = grow (w.drewN q) os)
    (hT : ∀ w, Calls Tryd.prog 59 #[.agg #[.int .i64 ah, .int .i64 al], .agg #[.int .i64 bh, .int .i64 bl]] w fun e w' => e = .returned (.agg #[.int .i64 ph, .int .i64 pl]) ∧ Below w.heap.size w w')
    (hH : ∀ w, Calls Tryd.prog 60 #[.agg #[.int .i64 ph, .int .i64 pl], .int .i64 n] w fun e w' => e = .returned (.tuple #[.int .i64 lo, .int .i64 hi]) ∧ Below w.heap.size w w')
    (hI : ∀ w, Calls Tryd.prog 56 #[.agg #[.int .i64 ph, .int .i64 pl], .int .i64 n, .bool true] w fun e w' => e = .returned (.bool ft) ∧ Below w.heap.size w w') (w : World) :
    Calls Tryd.prog 26 #[.int .i64 17, .int .i64 n, .int .i64 a, .int .i64 b, .int .i64 f] w fun e w' => e = .returned (.tuple #[.int .i64 lo, .int .i64 hi, .int .i64 (wCar f (!ft) (!ft)), .int .i64 0]) ∧ Below w.heap.size w w' := by
  have CZ := Lib.hid (fun w => checkYesF n w hn)
  have CF := Lib.hid (fun w => (hF w).mono fun _ _ h => (⟨h.1, h.2.symm⟩ : _ ∧ w = _)); have CA := Lib.hid hA; have CB := Lib.hid hB; have CT := Lib.hid hT; have CH := Lib.hid hH; have CI := Lib.hid hI; have CC := Lib.hid (withCarryC f (!ft) (!ft))
  have B0 := Lib.hid (Below.refl w.heap.size w)
  clear hn hF hA hB hT hH hI
  go_enter Tryd.func26, Tryd.ntmps26
  go_wp2_with fail
  refine (CZ.out _).mono ?_
  rintro e w1 ⟨rfl, rfl⟩
  go_wp2_with fail
  refine (CF.out _).mono ?_
  rintro e w2 ⟨rfl, rfl⟩
  go_wp2_with fail
  refine (CA.out _).mono ?_
  rintro e w3 ⟨rfl, q1, os1, hw⟩
  have b1 : Below w.heap.size w w3 := B0.out.trans (by rw [hw]; exact (grownB _ _).mono (by first | (simp; done) | exact B0.out.size | omega))
  have B1 := Lib.hid b1
  clear hw b1
  go_wp2_with fail
  refine (CB.out _).mono ?_
  rintro e w4 ⟨rfl, q2, os2, hw⟩
  have b1 : Below w.heap.size w w4 := B1.out.trans (by rw [hw]; exact (grownB _ _).mono B1.out.size)
  have B2 := Lib.hid b1
  clear hw b1
  go_wp2_with fail
  refine (CT.out _).mono ?_
  rintro e w5 ⟨rfl, hw⟩
  have B3 := Lib.hid (B2.out.trans (hw.mono B2.out.size))
  clear hw
  go_wp2_with fail
  refine (CH.out _).mono ?_
  rintro e w6 ⟨rfl, hw⟩
  have r6 : w6.heap[w5.heap.size]? = some (.cells #[.int .i64 ph, .int .i64 pl] 82 (0, 0)) := (hw.block _ (by simp)).trans (heap_alloc_new w5 _)
  have b4 : Below w.heap.size w w6 := (B3.out.alloc B3.out.size _).trans (hw.mono (by have := B3.out.size; simp; omega))
  have R6 := Lib.hid r6
  have B4 := Lib.hid b4
  clear hw r6 b4
  go_wp2_with (refine wpList_load_row rfl 82 (.tmp 15) rfl w5.heap.size rfl 82 #[.int .i64 ph, .int .i64 pl] (0, 0) _ R6.out Tryd.underlying82 rfl (by kernel_rfl) ?_)
  refine (CI.out _).mono ?_
  rintro e w7 ⟨rfl, hw⟩
  have B5 := Lib.hid (B4.out.trans (hw.mono B4.out.size))
  clear hw
  go_wp2_with fail
  refine (CC.out _).mono ?_
  rintro e w8 ⟨rfl, rfl⟩
  go_wp2
  refine bodyPost_ret (results_tmp4 rfl _ _ _) rfl ?_
  exact ⟨rfl, B5.out⟩
end Go.Proofs.YtbcbepdfijcbmaaDoor
