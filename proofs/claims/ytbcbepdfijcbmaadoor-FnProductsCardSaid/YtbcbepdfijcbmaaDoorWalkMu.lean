/-
  What Multiply of both refuses, and what the specification's answers of what it takes; conditions: those in each head.
-/
import Derived.Test.YtbcbepdfijcbmaaDoorWalkWd2
import Derived.Test.YtbcbepdfijcbmaaDoorWalkWs2
namespace Go.Proofs.YtbcbepdfijcbmaaDoor
open Go.RowKit
set_option linter.unusedVariables false
set_option maxRecDepth 100000 in
set_option maxHeartbeats 1000000 in
theorem MulSBad (op n a b f : Int) (w : World) (hw : (Lit.int .i64 f).wf = true) (h : ¬ okSize n ∨ ¬ FlOK f) :
    Calls Tryd.prog 27 #[.int .i64 op, .int .i64 n, .int .i64 a, .int .i64 b, .int .i64 f] w fun e w' => e = .returned (.tuple #[.int .i64 0, .int .i64 0, .int .i64 0, .int .i64 4]) ∧ w = w' := by
  by_cases hn : okSize n
  · have CZ := Lib.hid (fun w => sizeYes n w hn)
    have CF := Lib.hid (fun w => flagsNoS f w hw (h.resolve_left (fun e => e hn)))
    clear h hn hw
    go_enter Tryd.func27, Tryd.ntmps27
    go_wp2_with fail
    refine (CZ.out _).mono ?_
    rintro e w1 ⟨rfl, rfl⟩
    go_wp2_with fail
    refine (CF.out _).mono ?_
    rintro e w1 ⟨rfl, e1⟩
    obtain rfl := e1
    go_wp2
    (try simp only [Exit.inBlock, Exit.then]); refine bodyPost_ret (results_tmp4 rfl _ _ _) rfl ?_
    exact ⟨rfl, rfl⟩
  · have hz := sizeNo n w hn
    skip
    have CZ := Lib.hid hz
    clear h hn hw hz
    go_enter Tryd.func27, Tryd.ntmps27
    go_wp2_with fail
    refine (CZ.out).mono ?_
    rintro e w1 ⟨rfl, rfl⟩
    go_wp2
    (try simp only [Exit.inBlock, Exit.then]); refine bodyPost_ret (results_tmp4 rfl _ _ _) rfl ?_
    exact ⟨rfl, rfl⟩
set_option maxRecDepth 100000 in
set_option maxHeartbeats 1000000 in
theorem MulIBad (op n a b f : Int) (w : World) (aR : Addr) (hs : SentF w aR) (hw : (Lit.int .i64 f).wf = true) (h : ¬ okSize n ∨ ¬ FlOK f) :
    Calls Tryd.prog 26 #[.int .i64 op, .int .i64 n, .int .i64 a, .int .i64 b, .int .i64 f] w fun e w' => e = .returned (.tuple #[.int .i64 0, .int .i64 0, .int .i64 0, .int .i64 4]) ∧ w = w' := by
  by_cases hn : okSize n
  · have CZ := Lib.hid (fun w => checkYesF n w hn)
    have CF := Lib.hid (fun w => flagsNoI f w hw (h.resolve_left (fun e => e hn)))
    clear h hn hw hs
    go_enter Tryd.func26, Tryd.ntmps26
    go_wp2_with fail
    refine (CZ.out _).mono ?_
    rintro e w1 ⟨rfl, rfl⟩
    go_wp2_with fail
    refine (CF.out _).mono ?_
    rintro e w1 ⟨rfl, e1⟩
    obtain rfl := e1
    go_wp2
    (try simp only [Exit.inBlock, Exit.then]); refine bodyPost_ret (results_tmp4 rfl _ _ _) rfl ?_
    exact ⟨rfl, rfl⟩
  · have hz := checkNoF n w aR hs hn
    unfold bErr at hz
    have CZ := Lib.hid hz
    clear h hn hw hz hs
    go_enter Tryd.func26, Tryd.ntmps26
    go_wp2_with fail
    refine (CZ.out).mono ?_
    rintro e w1 ⟨rfl, rfl⟩
    go_wp2
    (try simp only [Exit.inBlock, Exit.then]); refine bodyPost_ret (results_tmp4 rfl _ _ _) rfl ?_
    exact ⟨rfl, rfl⟩
set_option maxRecDepth 100000 in
set_option maxHeartbeats 1000000 in
theorem MulSNo (op n a b : Int) (c p z s o : Bool) (w : World) (hop : ¬ (op = 13 ∨ op = 14 ∨ op = 17)) (hn : okSize n) :
    Calls Tryd.prog 27 #[.int .i64 op, .int .i64 n, .int .i64 a, .int .i64 b, .int .i64 (flV c p z s o)] w fun e w' => e = .returned (.tuple #[.int .i64 0, .int .i64 0, .int .i64 0, .int .i64 11]) ∧ w = w' := by
  have CZ := Lib.hid (fun w => sizeYes n w hn)
  have CF := Lib.hid (flagsYesS c p z s o)
  generalize flV c p z s o = f at *
  have n1 : (op != 13) = true := bne_iff_ne.mpr (by omega)
  have n2 : (op != 14) = true := bne_iff_ne.mpr (by omega)
  have n3 : (op != 17) = true := bne_iff_ne.mpr (by omega)
  clear hn hop
  go_enter Tryd.func27, Tryd.ntmps27
  go_wp2_with fail
  refine (CZ.out _).mono ?_
  rintro e w1 ⟨rfl, rfl⟩
  go_wp2_with fail
  refine (CF.out _).mono ?_
  rintro e w1 ⟨rfl, e1⟩
  obtain rfl := e1
  go_wp2
  (try simp only [Exit.inBlock, Exit.then]); refine bodyPost_ret (results_tmp4 rfl _ _ _) rfl ?_
  exact ⟨rfl, rfl⟩
set_option maxRecDepth 100000 in
set_option maxHeartbeats 1000000 in
theorem MulINo (op n a b : Int) (c p z s o : Bool) (w : World) (hop : ¬ (op = 13 ∨ op = 14 ∨ op = 17)) (hn : okSize n) :
    Calls Tryd.prog 26 #[.int .i64 op, .int .i64 n, .int .i64 a, .int .i64 b, .int .i64 (flV c p z s o)] w fun e w' => e = .returned (.tuple #[.int .i64 0, .int .i64 0, .int .i64 0, .int .i64 11]) ∧ w = w' := by
  have CZ := Lib.hid (fun w => checkYesF n w hn)
  have CF := Lib.hid (flagsYesI c p z s o)
  generalize flV c p z s o = f at *
  have n1 : (op != 13) = true := bne_iff_ne.mpr (by omega)
  have n2 : (op != 14) = true := bne_iff_ne.mpr (by omega)
  have n3 : (op != 17) = true := bne_iff_ne.mpr (by omega)
  clear hn hop
  go_enter Tryd.func26, Tryd.ntmps26
  go_wp2_with fail
  refine (CZ.out _).mono ?_
  rintro e w1 ⟨rfl, rfl⟩
  go_wp2_with fail
  refine (CF.out _).mono ?_
  rintro e w1 ⟨rfl, e1⟩
  obtain rfl := e1
  go_wp2
  (try simp only [Exit.inBlock, Exit.then]); refine bodyPost_ret (results_tmp4 rfl _ _ _) rfl ?_
  exact ⟨rfl, rfl⟩
set_option maxRecDepth 100000 in
set_option maxHeartbeats 1000000 in
theorem MulSYes (op n a b lo hi g : Int) (c p z s o : Bool) (hop : op = 13 ∨ op = 14 ∨ op = 17) (hn : okSize n)
    (H : Hid (∀ w, Calls Tryd.prog 63 #[.int .i64 op, .int .i64 n, .int .i64 a, .int .i64 b, .int .i64 (flV c p z s o)] w fun e w' => e = .returned (.tuple #[.int .i64 lo, .int .i64 hi, .int .i64 g]) ∧ w = w')) (w : World) :
    Calls Tryd.prog 27 #[.int .i64 op, .int .i64 n, .int .i64 a, .int .i64 b, .int .i64 (flV c p z s o)] w fun e w' => e = .returned (.tuple #[.int .i64 lo, .int .i64 hi, .int .i64 g, .int .i64 0]) ∧ w = w' := by
  have CZ := Lib.hid (fun w => sizeYes n w hn)
  have CF := Lib.hid (flagsYesS c p z s o)
  generalize flV c p z s o = f at *
  clear hn
  rcases hop with rfl | rfl | rfl
  all_goals
    go_enter Tryd.func27, Tryd.ntmps27
    go_wp2_with fail
    refine (CZ.out _).mono ?_
    rintro e w1 ⟨rfl, rfl⟩
    go_wp2_with fail
    refine (CF.out _).mono ?_
    rintro e w1 ⟨rfl, e1⟩
    obtain rfl := e1
    go_wp2_with fail
    refine (H.out _).mono ?_
    rintro e w1 ⟨rfl, rfl⟩
    go_wp2
    (try simp only [Exit.inBlock, Exit.then]); refine bodyPost_ret (results_tmp4 rfl _ _ _) rfl ?_
    exact ⟨rfl, rfl⟩
theorem keep_both (c p z s o m : Bool) : bits .or .i64 (bits .and .i64 (flV c p z s o) 196) (bif m then 2049 else 0) = flV m p z s m := by
  revert c p z s o m; decide
end Go.Proofs.YtbcbepdfijcbmaaDoor
