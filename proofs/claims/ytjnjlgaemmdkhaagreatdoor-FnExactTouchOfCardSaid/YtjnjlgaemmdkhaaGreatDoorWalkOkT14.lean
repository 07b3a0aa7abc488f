/-
  What l05OK and InstrOK of spec do; conditions: those in each head.
-/
import Derived.Test.YtjnjlgaemmdkhaaGreatDoorWalkOkT13
namespace Go.Proofs.YtjnjlgaemmdkhaaGreatDoor
open Go.RowKit Go.Sort
set_option linter.unusedVariables false
set_option linter.unusedSimpArgs false
/-- what l05OK calls answers -/
structure OkC (op sz cd fr : Int) (d s : Opd) (ln zs : Int) (bl bsh bcr bd bs a p b q wd : Bool) : Prop where
  co : ∀ W, Calls Tryz.prog 21 #[.int .i64 op] W fun e w' => e = .returned (.bool true) ∧ W = w'
  cl : ∀ W, Calls Tryz.prog 22 #[.int .i64 ln, .int .i64 0, .int .i64 15] W fun e w' => e = .returned (.bool bl) ∧ w' = W
  cs : ∀ W, Calls Tryz.prog 23 #[.agg #[.int .i64 op, .int .i64 sz, .int .i64 cd, .int .i64 fr, .int .i64 d.k, .int .i64 d.r, .int .i64 d.b, .int .i64 d.i, .int .i64 d.s, .int .i64 d.d, .int .i64 d.m, .int .i64 s.k, .int .i64 s.r, .int .i64 s.b, .int .i64 s.i, .int .i64 s.s, .int .i64 s.d, .int .i64 s.m, .int .i64 ln]] W fun e w' => e = .returned (.bool bsh) ∧ Below W.heap.size W w'
  cc : ∀ W, Calls Tryz.prog 22 #[.int .i64 cd, .int .i64 0, .int .i64 15] W fun e w' => e = .returned (.bool bcr) ∧ w' = W
  cz : ∀ W, Calls Tryz.prog 24 #[.agg #[.int .i64 op, .int .i64 sz, .int .i64 cd, .int .i64 fr, .int .i64 d.k, .int .i64 d.r, .int .i64 d.b, .int .i64 d.i, .int .i64 d.s, .int .i64 d.d, .int .i64 d.m, .int .i64 s.k, .int .i64 s.r, .int .i64 s.b, .int .i64 s.i, .int .i64 s.s, .int .i64 s.d, .int .i64 s.m, .int .i64 ln]] W fun e w' => e = .returned (.tuple #[.int .i64 sz, .int .i64 zs]) ∧ Below W.heap.size W w'
  cd' : ∀ W, Calls Tryz.prog 25 #[.agg #[.int .i64 d.k, .int .i64 d.r, .int .i64 d.b, .int .i64 d.i, .int .i64 d.s, .int .i64 d.d, .int .i64 d.m], .int .i64 sz] W fun e w' => e = .returned (.bool bd) ∧ Below W.heap.size W w'
  ce : ∀ W, Calls Tryz.prog 25 #[.agg #[.int .i64 s.k, .int .i64 s.r, .int .i64 s.b, .int .i64 s.i, .int .i64 s.s, .int .i64 s.d, .int .i64 s.m], .int .i64 zs] W fun e w' => e = .returned (.bool bs) ∧ Below W.heap.size W w'
  cr : ∀ W, Calls Tryz.prog 26 #[.agg #[.int .i64 d.k, .int .i64 d.r, .int .i64 d.b, .int .i64 d.i, .int .i64 d.s, .int .i64 d.d, .int .i64 d.m], .int .i64 sz] W fun e w' => e = .returned (.tuple #[.bool a, .bool p]) ∧ Below W.heap.size W w'
  cq : ∀ W, Calls Tryz.prog 26 #[.agg #[.int .i64 s.k, .int .i64 s.r, .int .i64 s.b, .int .i64 s.i, .int .i64 s.s, .int .i64 s.d, .int .i64 s.m], .int .i64 zs] W fun e w' => e = .returned (.tuple #[.bool b, .bool q]) ∧ Below W.heap.size W w'
  cw : ∀ W, Calls Tryz.prog 27 #[.int .i64 op] W fun e w' => e = .returned (.bool wd) ∧ W = w'
theorem ret_bv {v b : Bool} (h : Hid (v = b)) {c : Bool} (e : b = c) : Ending.returned (.bool c) = Ending.returned (.bool v) := by rw [h.out, e]
set_option maxHeartbeats 1000000 in
theorem okOut (x : Ins) (w : World) (h : ¬ (1 ≤ x.op ∧ x.op ≤ 44)) : Calls Tryz.prog 10 #[.agg (insV x)] w fun e w' => e = .returned (.bool false) ∧ Below w.heap.size w w' := by
  obtain ⟨op, sz, cd, fr, d, s, ln⟩ := x
  have CO := Lib.hid (fun W => l03OpNo op W (by simp only at h; omega))
  clear h
  unfold insV insA
  simp only
  have R0 := Lib.hid (heap_alloc_new w (.cells #[.int .i64 op, .int .i64 sz, .int .i64 cd, .int .i64 fr, .int .i64 d.k, .int .i64 d.r, .int .i64 d.b, .int .i64 d.i, .int .i64 d.s, .int .i64 d.d, .int .i64 d.m, .int .i64 s.k, .int .i64 s.r, .int .i64 s.b, .int .i64 s.i, .int .i64 s.s, .int .i64 s.d, .int .i64 s.m, .int .i64 ln] 33))
  have B0 := Lib.hid (belA w (.cells #[.int .i64 op, .int .i64 sz, .int .i64 cd, .int .i64 fr, .int .i64 d.k, .int .i64 d.r, .int .i64 d.b, .int .i64 d.i, .int .i64 d.s, .int .i64 d.d, .int .i64 d.m, .int .i64 s.k, .int .i64 s.r, .int .i64 s.b, .int .i64 s.i, .int .i64 s.s, .int .i64 s.d, .int .i64 s.m, .int .i64 ln] 33))
  go_enter Tryz.func10, Tryz.ntmps10
  have c0 := cell_of_row _ _ 0 _ _ _ R0.out
  simp only [List.getElem?_toArray, List.getElem?_cons_zero, List.getElem?_cons_succ] at c0
  go_wp2_with fail
  refine (CO.out _).mono ?_
  rintro e w1 ⟨rfl, rfl⟩
  go_wp2
  go_ret
  exact ⟨rfl, B0.out⟩
set_option maxRecDepth 100000 in
set_option maxHeartbeats 16000000 in
theorem okW1 (op sz cd fr : Int) (d s : Opd) (ln zs : Int) (bl bsh bcr bd bs a p b q wd : Bool) (v t8 : Bool) (w : World) (H : OkC op sz cd fr d s ln zs bl bsh bcr bd bs a p b q wd) (h8 : (sz != 8) = t8) (n26 : (op != 26) = false) (n33 : (op != 33) = true) (n35 : (op != 35) = true) (n36 : (op != 36) = true) (nc : (cd != 0) = false) (HV : Hid (v = (bl && (bsh && (bcr && (bd && (bs && (!(p || q) || (!a && (!b && (t8 || wd))))))))))) :
    Calls Tryz.prog 10 #[.agg #[.int .i64 op, .int .i64 sz, .int .i64 cd, .int .i64 fr, .int .i64 d.k, .int .i64 d.r, .int .i64 d.b, .int .i64 d.i, .int .i64 d.s, .int .i64 d.d, .int .i64 d.m, .int .i64 s.k, .int .i64 s.r, .int .i64 s.b, .int .i64 s.i, .int .i64 s.s, .int .i64 s.d, .int .i64 s.m, .int .i64 ln]] w fun e w' => e = .returned (.bool v) ∧ Below w.heap.size w w' := by
  have Cco := Lib.hid H.co
  have Ccl := Lib.hid H.cl
  have Ccs := Lib.hid H.cs
  have Ccc := Lib.hid H.cc
  have Ccz := Lib.hid H.cz
  have Cdd := Lib.hid H.cd'
  have Cce := Lib.hid H.ce
  have Ccr := Lib.hid H.cr
  have Ccq := Lib.hid H.cq
  have Ccw := Lib.hid H.cw
  clear H
  have R0 := Lib.hid (heap_alloc_new w (.cells #[.int .i64 op, .int .i64 sz, .int .i64 cd, .int .i64 fr, .int .i64 d.k, .int .i64 d.r, .int .i64 d.b, .int .i64 d.i, .int .i64 d.s, .int .i64 d.d, .int .i64 d.m, .int .i64 s.k, .int .i64 s.r, .int .i64 s.b, .int .i64 s.i, .int .i64 s.s, .int .i64 s.d, .int .i64 s.m, .int .i64 ln] 33))
  have B0 := Lib.hid (belA w (.cells #[.int .i64 op, .int .i64 sz, .int .i64 cd, .int .i64 fr, .int .i64 d.k, .int .i64 d.r, .int .i64 d.b, .int .i64 d.i, .int .i64 d.s, .int .i64 d.d, .int .i64 d.m, .int .i64 s.k, .int .i64 s.r, .int .i64 s.b, .int .i64 s.i, .int .i64 s.s, .int .i64 s.d, .int .i64 s.m, .int .i64 ln] 33))
  go_enter Tryz.func10, Tryz.ntmps10
  have c0 := cell_of_row _ _ 0 _ _ _ R0.out
  simp only [List.getElem?_toArray, List.getElem?_cons_zero, List.getElem?_cons_succ] at c0
  go_wp2_with fail
  refine (Cco.out _).mono ?_
  rintro e w1 ⟨rfl, rfl⟩
  have c18 := cell_of_row _ _ 18 _ _ _ R0.out
  simp only [List.getElem?_toArray, List.getElem?_cons_zero, List.getElem?_cons_succ] at c18
  go_wp2_with fail
  refine (Ccl.out _).mono ?_
  rintro e w1 ⟨rfl, rfl⟩
  cases bl
  · go_wp2
    go_ret
    exact ⟨ret_bv HV rfl, B0.out⟩
  · go_wp2_with (first | refine wpList_load_row rfl 33 (.tmp 1) rfl w.heap.size rfl 33 #[.int .i64 op, .int .i64 sz, .int .i64 cd, .int .i64 fr, .int .i64 d.k, .int .i64 d.r, .int .i64 d.b, .int .i64 d.i, .int .i64 d.s, .int .i64 d.d, .int .i64 d.m, .int .i64 s.k, .int .i64 s.r, .int .i64 s.b, .int .i64 s.i, .int .i64 s.s, .int .i64 s.d, .int .i64 s.m, .int .i64 ln] (0, 0) _ R0.out Tryz.underlying33 rfl (by kernel_rfl) ?_ | refine load_rowT (by rfl) 33 (.tmp 1) rfl w.heap.size rfl 33 #[.int .i64 op, .int .i64 sz, .int .i64 cd, .int .i64 fr, .int .i64 d.k, .int .i64 d.r, .int .i64 d.b, .int .i64 d.i, .int .i64 d.s, .int .i64 d.d, .int .i64 d.m, .int .i64 s.k, .int .i64 s.r, .int .i64 s.b, .int .i64 s.i, .int .i64 s.s, .int .i64 s.d, .int .i64 s.m, .int .i64 ln] (0, 0) _ R0.out Tryz.underlying33 rfl (by kernel_rfl) ?_)
    refine (Ccs.out _).mono ?_
    rintro e w1 ⟨rfl, hb⟩
    have B1 := Lib.hid (B0.out.trans (hb.mono B0.out.size))
    have R1 := Lib.hid ((hb.block _ (lt_of_blk R0.out)).trans R0.out)
    clear hb c0 c18
    cases bsh
    · go_wp2
      go_ret
      exact ⟨ret_bv HV rfl, B1.out⟩
    · have c0 := cell_of_row _ _ 0 _ _ _ R1.out
      have c2 := cell_of_row _ _ 2 _ _ _ R1.out
      have c3 := cell_of_row _ _ 3 _ _ _ R1.out
      simp only [List.getElem?_toArray, List.getElem?_cons_zero, List.getElem?_cons_succ] at c0 c2 c3
      go_wp2_with fail
      refine (Ccc.out _).mono ?_
      rintro e w2 ⟨rfl, rfl⟩
      cases bcr
      · go_wp2
        go_ret
        exact ⟨ret_bv HV rfl, B1.out⟩
      · clear c0 c2 c3
        go_wp2_with (first | refine wpList_load_row rfl 33 (.tmp 1) rfl w.heap.size rfl 33 #[.int .i64 op, .int .i64 sz, .int .i64 cd, .int .i64 fr, .int .i64 d.k, .int .i64 d.r, .int .i64 d.b, .int .i64 d.i, .int .i64 d.s, .int .i64 d.d, .int .i64 d.m, .int .i64 s.k, .int .i64 s.r, .int .i64 s.b, .int .i64 s.i, .int .i64 s.s, .int .i64 s.d, .int .i64 s.m, .int .i64 ln] (0, 0) _ R1.out Tryz.underlying33 rfl (by kernel_rfl) ?_ | refine load_rowT (by rfl) 33 (.tmp 1) rfl w.heap.size rfl 33 #[.int .i64 op, .int .i64 sz, .int .i64 cd, .int .i64 fr, .int .i64 d.k, .int .i64 d.r, .int .i64 d.b, .int .i64 d.i, .int .i64 d.s, .int .i64 d.d, .int .i64 d.m, .int .i64 s.k, .int .i64 s.r, .int .i64 s.b, .int .i64 s.i, .int .i64 s.s, .int .i64 s.d, .int .i64 s.m, .int .i64 ln] (0, 0) _ R1.out Tryz.underlying33 rfl (by kernel_rfl) ?_)
        refine (Ccz.out _).mono ?_
        rintro e w2 ⟨rfl, hb⟩
        have B2 := Lib.hid (B1.out.trans (hb.mono B1.out.size))
        have R2 := Lib.hid ((hb.block _ (lt_of_blk R1.out)).trans R1.out)
        clear hb
        have c4 := cell_of_row _ _ 4 _ _ _ R2.out
        have c5 := cell_of_row _ _ 5 _ _ _ R2.out
        have c6 := cell_of_row _ _ 6 _ _ _ R2.out
        have c7 := cell_of_row _ _ 7 _ _ _ R2.out
        have c8 := cell_of_row _ _ 8 _ _ _ R2.out
        have c9 := cell_of_row _ _ 9 _ _ _ R2.out
        have c10 := cell_of_row _ _ 10 _ _ _ R2.out
        simp only [List.getElem?_toArray, List.getElem?_cons_zero, List.getElem?_cons_succ] at c4 c5 c6 c7 c8 c9 c10
        go_wp2_with fail
        refine (Cdd.out _).mono ?_
        rintro e w3 ⟨rfl, hb⟩
        have B3 := Lib.hid (B2.out.trans (hb.mono B2.out.size))
        have R3 := Lib.hid ((hb.block _ (lt_of_blk R2.out)).trans R2.out)
        clear hb
        clear c4 c5 c6 c7 c8 c9 c10
        cases bd
        · go_wp2
          go_ret
          exact ⟨ret_bv HV rfl, B3.out⟩
        · have c11 := cell_of_row _ _ 11 _ _ _ R3.out
          have c12 := cell_of_row _ _ 12 _ _ _ R3.out
          have c13 := cell_of_row _ _ 13 _ _ _ R3.out
          have c14 := cell_of_row _ _ 14 _ _ _ R3.out
          have c15 := cell_of_row _ _ 15 _ _ _ R3.out
          have c16 := cell_of_row _ _ 16 _ _ _ R3.out
          have c17 := cell_of_row _ _ 17 _ _ _ R3.out
          simp only [List.getElem?_toArray, List.getElem?_cons_zero, List.getElem?_cons_succ] at c11 c12 c13 c14 c15 c16 c17
          go_wp2_with fail
          refine (Cce.out _).mono ?_
          rintro e w4 ⟨rfl, hb⟩
          have B4 := Lib.hid (B3.out.trans (hb.mono B3.out.size))
          have R4 := Lib.hid ((hb.block _ (lt_of_blk R3.out)).trans R3.out)
          clear hb
          clear c11 c12 c13 c14 c15 c16 c17
          cases bs
          · go_wp2
            go_ret
            exact ⟨ret_bv HV rfl, B4.out⟩
          · have c4 := cell_of_row _ _ 4 _ _ _ R4.out
            have c5 := cell_of_row _ _ 5 _ _ _ R4.out
            have c6 := cell_of_row _ _ 6 _ _ _ R4.out
            have c7 := cell_of_row _ _ 7 _ _ _ R4.out
            have c8 := cell_of_row _ _ 8 _ _ _ R4.out
            have c9 := cell_of_row _ _ 9 _ _ _ R4.out
            have c10 := cell_of_row _ _ 10 _ _ _ R4.out
            simp only [List.getElem?_toArray, List.getElem?_cons_zero, List.getElem?_cons_succ] at c4 c5 c6 c7 c8 c9 c10
            go_wp2_with fail
            refine (Ccr.out _).mono ?_
            rintro e w5 ⟨rfl, hb⟩
            have B5 := Lib.hid (B4.out.trans (hb.mono B4.out.size))
            have R5 := Lib.hid ((hb.block _ (lt_of_blk R4.out)).trans R4.out)
            clear hb
            clear c4 c5 c6 c7 c8 c9 c10
            have c11 := cell_of_row _ _ 11 _ _ _ R5.out
            have c12 := cell_of_row _ _ 12 _ _ _ R5.out
            have c13 := cell_of_row _ _ 13 _ _ _ R5.out
            have c14 := cell_of_row _ _ 14 _ _ _ R5.out
            have c15 := cell_of_row _ _ 15 _ _ _ R5.out
            have c16 := cell_of_row _ _ 16 _ _ _ R5.out
            have c17 := cell_of_row _ _ 17 _ _ _ R5.out
            simp only [List.getElem?_toArray, List.getElem?_cons_zero, List.getElem?_cons_succ] at c11 c12 c13 c14 c15 c16 c17
            go_wp2_with fail
            refine (Ccq.out _).mono ?_
            rintro e w6 ⟨rfl, hb⟩
            have B6 := Lib.hid (B5.out.trans (hb.mono B5.out.size))
            have R6 := Lib.hid ((hb.block _ (lt_of_blk R5.out)).trans R5.out)
            clear hb
            clear c11 c12 c13 c14 c15 c16 c17
            have c0 := cell_of_row _ _ 0 _ _ _ R6.out
            have c1 := cell_of_row _ _ 1 _ _ _ R6.out
            simp only [List.getElem?_toArray, List.getElem?_cons_zero, List.getElem?_cons_succ] at c0 c1
            cases p
            · cases q
              · go_wp2
                go_ret
                exact ⟨ret_bv HV rfl, B6.out⟩
              · cases a
                · cases b
                  · cases t8
                    · go_wp2_with fail
                      refine (Ccw.out _).mono ?_
                      rintro e w7 ⟨rfl, rfl⟩
                      go_wp2
                      go_ret
                      exact ⟨ret_bv HV rfl, B6.out⟩
                    · go_wp2
                      go_ret
                      exact ⟨ret_bv HV rfl, B6.out⟩
                  · go_wp2
                    go_ret
                    exact ⟨ret_bv HV rfl, B6.out⟩
                · go_wp2
                  go_ret
                  exact ⟨ret_bv HV rfl, B6.out⟩
            · cases a
              · cases b
                · cases t8
                  · go_wp2_with fail
                    refine (Ccw.out _).mono ?_
                    rintro e w7 ⟨rfl, rfl⟩
                    go_wp2
                    go_ret
                    exact ⟨ret_bv HV rfl, B6.out⟩
                  · go_wp2
                    go_ret
                    exact ⟨ret_bv HV rfl, B6.out⟩
                · go_wp2
                  go_ret
                  exact ⟨ret_bv HV rfl, B6.out⟩
              · go_wp2
                go_ret
                exact ⟨ret_bv HV rfl, B6.out⟩
set_option maxRecDepth 100000 in
set_option maxHeartbeats 16000000 in
theorem okW2 (op sz cd fr : Int) (d s : Opd) (ln zs : Int) (bl bsh bcr bd bs a p b q wd : Bool) (v t8 : Bool) (w : World) (H : OkC op sz cd fr d s ln zs bl bsh bcr bd bs a p b q wd) (h8 : (sz != 8) = t8) (n26 : (op != 26) = true) (n27 : (op != 27) = false) (n33 : (op != 33) = true) (n35 : (op != 35) = true) (n36 : (op != 36) = true) (nc : (cd != 0) = false) (HV : Hid (v = (bl && (bsh && (bcr && (bd && (bs && (!(p || q) || (!a && (!b && (t8 || wd))))))))))) :
    Calls Tryz.prog 10 #[.agg #[.int .i64 op, .int .i64 sz, .int .i64 cd, .int .i64 fr, .int .i64 d.k, .int .i64 d.r, .int .i64 d.b, .int .i64 d.i, .int .i64 d.s, .int .i64 d.d, .int .i64 d.m, .int .i64 s.k, .int .i64 s.r, .int .i64 s.b, .int .i64 s.i, .int .i64 s.s, .int .i64 s.d, .int .i64 s.m, .int .i64 ln]] w fun e w' => e = .returned (.bool v) ∧ Below w.heap.size w w' := by
  have Cco := Lib.hid H.co
  have Ccl := Lib.hid H.cl
  have Ccs := Lib.hid H.cs
  have Ccc := Lib.hid H.cc
  have Ccz := Lib.hid H.cz
  have Cdd := Lib.hid H.cd'
  have Cce := Lib.hid H.ce
  have Ccr := Lib.hid H.cr
  have Ccq := Lib.hid H.cq
  have Ccw := Lib.hid H.cw
  clear H
  have R0 := Lib.hid (heap_alloc_new w (.cells #[.int .i64 op, .int .i64 sz, .int .i64 cd, .int .i64 fr, .int .i64 d.k, .int .i64 d.r, .int .i64 d.b, .int .i64 d.i, .int .i64 d.s, .int .i64 d.d, .int .i64 d.m, .int .i64 s.k, .int .i64 s.r, .int .i64 s.b, .int .i64 s.i, .int .i64 s.s, .int .i64 s.d, .int .i64 s.m, .int .i64 ln] 33))
  have B0 := Lib.hid (belA w (.cells #[.int .i64 op, .int .i64 sz, .int .i64 cd, .int .i64 fr, .int .i64 d.k, .int .i64 d.r, .int .i64 d.b, .int .i64 d.i, .int .i64 d.s, .int .i64 d.d, .int .i64 d.m, .int .i64 s.k, .int .i64 s.r, .int .i64 s.b, .int .i64 s.i, .int .i64 s.s, .int .i64 s.d, .int .i64 s.m, .int .i64 ln] 33))
  go_enter Tryz.func10, Tryz.ntmps10
  have c0 := cell_of_row _ _ 0 _ _ _ R0.out
  simp only [List.getElem?_toArray, List.getElem?_cons_zero, List.getElem?_cons_succ] at c0
  go_wp2_with fail
  refine (Cco.out _).mono ?_
  rintro e w1 ⟨rfl, rfl⟩
  have c18 := cell_of_row _ _ 18 _ _ _ R0.out
  simp only [List.getElem?_toArray, List.getElem?_cons_zero, List.getElem?_cons_succ] at c18
  go_wp2_with fail
  refine (Ccl.out _).mono ?_
  rintro e w1 ⟨rfl, rfl⟩
  cases bl
  · go_wp2
    go_ret
    exact ⟨ret_bv HV rfl, B0.out⟩
  · go_wp2_with (first | refine wpList_load_row rfl 33 (.tmp 1) rfl w.heap.size rfl 33 #[.int .i64 op, .int .i64 sz, .int .i64 cd, .int .i64 fr, .int .i64 d.k, .int .i64 d.r, .int .i64 d.b, .int .i64 d.i, .int .i64 d.s, .int .i64 d.d, .int .i64 d.m, .int .i64 s.k, .int .i64 s.r, .int .i64 s.b, .int .i64 s.i, .int .i64 s.s, .int .i64 s.d, .int .i64 s.m, .int .i64 ln] (0, 0) _ R0.out Tryz.underlying33 rfl (by kernel_rfl) ?_ | refine load_rowT (by rfl) 33 (.tmp 1) rfl w.heap.size rfl 33 #[.int .i64 op, .int .i64 sz, .int .i64 cd, .int .i64 fr, .int .i64 d.k, .int .i64 d.r, .int .i64 d.b, .int .i64 d.i, .int .i64 d.s, .int .i64 d.d, .int .i64 d.m, .int .i64 s.k, .int .i64 s.r, .int .i64 s.b, .int .i64 s.i, .int .i64 s.s, .int .i64 s.d, .int .i64 s.m, .int .i64 ln] (0, 0) _ R0.out Tryz.underlying33 rfl (by kernel_rfl) ?_)
    refine (Ccs.out _).mono ?_
    rintro e w1 ⟨rfl, hb⟩
    have B1 := Lib.hid (B0.out.trans (hb.mono B0.out.size))
    have R1 := Lib.hid ((hb.block _ (lt_of_blk R0.out)).trans R0.out)
    clear hb c0 c18
    cases bsh
    · go_wp2
      go_ret
      exact ⟨ret_bv HV rfl, B1.out⟩
    · have c0 := cell_of_row _ _ 0 _ _ _ R1.out
      have c2 := cell_of_row _ _ 2 _ _ _ R1.out
      have c3 := cell_of_row _ _ 3 _ _ _ R1.out
      simp only [List.getElem?_toArray, List.getElem?_cons_zero, List.getElem?_cons_succ] at c0 c2 c3
      go_wp2_with fail
      refine (Ccc.out _).mono ?_
      rintro e w2 ⟨rfl, rfl⟩
      cases bcr
      · go_wp2
        go_ret
        exact ⟨ret_bv HV rfl, B1.out⟩
      · clear c0 c2 c3
        go_wp2_with (first | refine wpList_load_row rfl 33 (.tmp 1) rfl w.heap.size rfl 33 #[.int .i64 op, .int .i64 sz, .int .i64 cd, .int .i64 fr, .int .i64 d.k, .int .i64 d.r, .int .i64 d.b, .int .i64 d.i, .int .i64 d.s, .int .i64 d.d, .int .i64 d.m, .int .i64 s.k, .int .i64 s.r, .int .i64 s.b, .int .i64 s.i, .int .i64 s.s, .int .i64 s.d, .int .i64 s.m, .int .i64 ln] (0, 0) _ R1.out Tryz.underlying33 rfl (by kernel_rfl) ?_ | refine load_rowT (by rfl) 33 (.tmp 1) rfl w.heap.size rfl 33 #[.int .i64 op, .int .i64 sz, .int .i64 cd, .int .i64 fr, .int .i64 d.k, .int .i64 d.r, .int .i64 d.b, .int .i64 d.i, .int .i64 d.s, .int .i64 d.d, .int .i64 d.m, .int .i64 s.k, .int .i64 s.r, .int .i64 s.b, .int .i64 s.i, .int .i64 s.s, .int .i64 s.d, .int .i64 s.m, .int .i64 ln] (0, 0) _ R1.out Tryz.underlying33 rfl (by kernel_rfl) ?_)
        refine (Ccz.out _).mono ?_
        rintro e w2 ⟨rfl, hb⟩
        have B2 := Lib.hid (B1.out.trans (hb.mono B1.out.size))
        have R2 := Lib.hid ((hb.block _ (lt_of_blk R1.out)).trans R1.out)
        clear hb
        have c4 := cell_of_row _ _ 4 _ _ _ R2.out
        have c5 := cell_of_row _ _ 5 _ _ _ R2.out
        have c6 := cell_of_row _ _ 6 _ _ _ R2.out
        have c7 := cell_of_row _ _ 7 _ _ _ R2.out
        have c8 := cell_of_row _ _ 8 _ _ _ R2.out
        have c9 := cell_of_row _ _ 9 _ _ _ R2.out
        have c10 := cell_of_row _ _ 10 _ _ _ R2.out
        simp only [List.getElem?_toArray, List.getElem?_cons_zero, List.getElem?_cons_succ] at c4 c5 c6 c7 c8 c9 c10
        go_wp2_with fail
        refine (Cdd.out _).mono ?_
        rintro e w3 ⟨rfl, hb⟩
        have B3 := Lib.hid (B2.out.trans (hb.mono B2.out.size))
        have R3 := Lib.hid ((hb.block _ (lt_of_blk R2.out)).trans R2.out)
        clear hb
        clear c4 c5 c6 c7 c8 c9 c10
        cases bd
        · go_wp2
          go_ret
          exact ⟨ret_bv HV rfl, B3.out⟩
        · have c11 := cell_of_row _ _ 11 _ _ _ R3.out
          have c12 := cell_of_row _ _ 12 _ _ _ R3.out
          have c13 := cell_of_row _ _ 13 _ _ _ R3.out
          have c14 := cell_of_row _ _ 14 _ _ _ R3.out
          have c15 := cell_of_row _ _ 15 _ _ _ R3.out
          have c16 := cell_of_row _ _ 16 _ _ _ R3.out
          have c17 := cell_of_row _ _ 17 _ _ _ R3.out
          simp only [List.getElem?_toArray, List.getElem?_cons_zero, List.getElem?_cons_succ] at c11 c12 c13 c14 c15 c16 c17
          go_wp2_with fail
          refine (Cce.out _).mono ?_
          rintro e w4 ⟨rfl, hb⟩
          have B4 := Lib.hid (B3.out.trans (hb.mono B3.out.size))
          have R4 := Lib.hid ((hb.block _ (lt_of_blk R3.out)).trans R3.out)
          clear hb
          clear c11 c12 c13 c14 c15 c16 c17
          cases bs
          · go_wp2
            go_ret
            exact ⟨ret_bv HV rfl, B4.out⟩
          · have c4 := cell_of_row _ _ 4 _ _ _ R4.out
            have c5 := cell_of_row _ _ 5 _ _ _ R4.out
            have c6 := cell_of_row _ _ 6 _ _ _ R4.out
            have c7 := cell_of_row _ _ 7 _ _ _ R4.out
            have c8 := cell_of_row _ _ 8 _ _ _ R4.out
            have c9 := cell_of_row _ _ 9 _ _ _ R4.out
            have c10 := cell_of_row _ _ 10 _ _ _ R4.out
            simp only [List.getElem?_toArray, List.getElem?_cons_zero, List.getElem?_cons_succ] at c4 c5 c6 c7 c8 c9 c10
            go_wp2_with fail
            refine (Ccr.out _).mono ?_
            rintro e w5 ⟨rfl, hb⟩
            have B5 := Lib.hid (B4.out.trans (hb.mono B4.out.size))
            have R5 := Lib.hid ((hb.block _ (lt_of_blk R4.out)).trans R4.out)
            clear hb
            clear c4 c5 c6 c7 c8 c9 c10
            have c11 := cell_of_row _ _ 11 _ _ _ R5.out
            have c12 := cell_of_row _ _ 12 _ _ _ R5.out
            have c13 := cell_of_row _ _ 13 _ _ _ R5.out
            have c14 := cell_of_row _ _ 14 _ _ _ R5.out
            have c15 := cell_of_row _ _ 15 _ _ _ R5.out
            have c16 := cell_of_row _ _ 16 _ _ _ R5.out
            have c17 := cell_of_row _ _ 17 _ _ _ R5.out
            simp only [List.getElem?_toArray, List.getElem?_cons_zero, List.getElem?_cons_succ] at c11 c12 c13 c14 c15 c16 c17
            go_wp2_with fail
            refine (Ccq.out _).mono ?_
            rintro e w6 ⟨rfl, hb⟩
            have B6 := Lib.hid (B5.out.trans (hb.mono B5.out.size))
            have R6 := Lib.hid ((hb.block _ (lt_of_blk R5.out)).trans R5.out)
            clear hb
            clear c11 c12 c13 c14 c15 c16 c17
            have c0 := cell_of_row _ _ 0 _ _ _ R6.out
            have c1 := cell_of_row _ _ 1 _ _ _ R6.out
            simp only [List.getElem?_toArray, List.getElem?_cons_zero, List.getElem?_cons_succ] at c0 c1
            cases p
            · cases q
              · go_wp2
                go_ret
                exact ⟨ret_bv HV rfl, B6.out⟩
              · cases a
                · cases b
                  · cases t8
                    · go_wp2_with fail
                      refine (Ccw.out _).mono ?_
                      rintro e w7 ⟨rfl, rfl⟩
                      go_wp2
                      go_ret
                      exact ⟨ret_bv HV rfl, B6.out⟩
                    · go_wp2
                      go_ret
                      exact ⟨ret_bv HV rfl, B6.out⟩
                  · go_wp2
                    go_ret
                    exact ⟨ret_bv HV rfl, B6.out⟩
                · go_wp2
                  go_ret
                  exact ⟨ret_bv HV rfl, B6.out⟩
            · cases a
              · cases b
                · cases t8
                  · go_wp2_with fail
                    refine (Ccw.out _).mono ?_
                    rintro e w7 ⟨rfl, rfl⟩
                    go_wp2
                    go_ret
                    exact ⟨ret_bv HV rfl, B6.out⟩
                  · go_wp2
                    go_ret
                    exact ⟨ret_bv HV rfl, B6.out⟩
                · go_wp2
                  go_ret
                  exact ⟨ret_bv HV rfl, B6.out⟩
              · go_wp2
                go_ret
                exact ⟨ret_bv HV rfl, B6.out⟩
set_option maxRecDepth 100000 in
set_option maxHeartbeats 16000000 in
theorem okW3 (op sz cd fr : Int) (d s : Opd) (ln zs : Int) (bl bsh bcr bd bs a p b q wd : Bool) (v t8 : Bool) (w : World) (H : OkC op sz cd fr d s ln zs bl bsh bcr bd bs a p b q wd) (h8 : (sz != 8) = t8) (n26 : (op != 26) = true) (n27 : (op != 27) = true) (nf : (fr != 0) = false) (n33 : (op != 33) = false) (HV : Hid (v = (bl && (bsh && (bcr && (bd && (bs && (!(p || q) || (!a && (!b && (t8 || wd))))))))))) :
    Calls Tryz.prog 10 #[.agg #[.int .i64 op, .int .i64 sz, .int .i64 cd, .int .i64 fr, .int .i64 d.k, .int .i64 d.r, .int .i64 d.b, .int .i64 d.i, .int .i64 d.s, .int .i64 d.d, .int .i64 d.m, .int .i64 s.k, .int .i64 s.r, .int .i64 s.b, .int .i64 s.i, .int .i64 s.s, .int .i64 s.d, .int .i64 s.m, .int .i64 ln]] w fun e w' => e = .returned (.bool v) ∧ Below w.heap.size w w' := by
  have Cco := Lib.hid H.co
  have Ccl := Lib.hid H.cl
  have Ccs := Lib.hid H.cs
  have Ccc := Lib.hid H.cc
  have Ccz := Lib.hid H.cz
  have Cdd := Lib.hid H.cd'
  have Cce := Lib.hid H.ce
  have Ccr := Lib.hid H.cr
  have Ccq := Lib.hid H.cq
  have Ccw := Lib.hid H.cw
  clear H
  have R0 := Lib.hid (heap_alloc_new w (.cells #[.int .i64 op, .int .i64 sz, .int .i64 cd, .int .i64 fr, .int .i64 d.k, .int .i64 d.r, .int .i64 d.b, .int .i64 d.i, .int .i64 d.s, .int .i64 d.d, .int .i64 d.m, .int .i64 s.k, .int .i64 s.r, .int .i64 s.b, .int .i64 s.i, .int .i64 s.s, .int .i64 s.d, .int .i64 s.m, .int .i64 ln] 33))
  have B0 := Lib.hid (belA w (.cells #[.int .i64 op, .int .i64 sz, .int .i64 cd, .int .i64 fr, .int .i64 d.k, .int .i64 d.r, .int .i64 d.b, .int .i64 d.i, .int .i64 d.s, .int .i64 d.d, .int .i64 d.m, .int .i64 s.k, .int .i64 s.r, .int .i64 s.b, .int .i64 s.i, .int .i64 s.s, .int .i64 s.d, .int .i64 s.m, .int .i64 ln] 33))
  go_enter Tryz.func10, Tryz.ntmps10
  have c0 := cell_of_row _ _ 0 _ _ _ R0.out
  simp only [List.getElem?_toArray, List.getElem?_cons_zero, List.getElem?_cons_succ] at c0
  go_wp2_with fail
  refine (Cco.out _).mono ?_
  rintro e w1 ⟨rfl, rfl⟩
  have c18 := cell_of_row _ _ 18 _ _ _ R0.out
  simp only [List.getElem?_toArray, List.getElem?_cons_zero, List.getElem?_cons_succ] at c18
  go_wp2_with fail
  refine (Ccl.out _).mono ?_
  rintro e w1 ⟨rfl, rfl⟩
  cases bl
  · go_wp2
    go_ret
    exact ⟨ret_bv HV rfl, B0.out⟩
  · go_wp2_with (first | refine wpList_load_row rfl 33 (.tmp 1) rfl w.heap.size rfl 33 #[.int .i64 op, .int .i64 sz, .int .i64 cd, .int .i64 fr, .int .i64 d.k, .int .i64 d.r, .int .i64 d.b, .int .i64 d.i, .int .i64 d.s, .int .i64 d.d, .int .i64 d.m, .int .i64 s.k, .int .i64 s.r, .int .i64 s.b, .int .i64 s.i, .int .i64 s.s, .int .i64 s.d, .int .i64 s.m, .int .i64 ln] (0, 0) _ R0.out Tryz.underlying33 rfl (by kernel_rfl) ?_ | refine load_rowT (by rfl) 33 (.tmp 1) rfl w.heap.size rfl 33 #[.int .i64 op, .int .i64 sz, .int .i64 cd, .int .i64 fr, .int .i64 d.k, .int .i64 d.r, .int .i64 d.b, .int .i64 d.i, .int .i64 d.s, .int .i64 d.d, .int .i64 d.m, .int .i64 s.k, .int .i64 s.r, .int .i64 s.b, .int .i64 s.i, .int .i64 s.s, .int .i64 s.d, .int .i64 s.m, .int .i64 ln] (0, 0) _ R0.out Tryz.underlying33 rfl (by kernel_rfl) ?_)
    refine (Ccs.out _).mono ?_
    rintro e w1 ⟨rfl, hb⟩
    have B1 := Lib.hid (B0.out.trans (hb.mono B0.out.size))
    have R1 := Lib.hid ((hb.block _ (lt_of_blk R0.out)).trans R0.out)
    clear hb c0 c18
    cases bsh
    · go_wp2
      go_ret
      exact ⟨ret_bv HV rfl, B1.out⟩
    · have c0 := cell_of_row _ _ 0 _ _ _ R1.out
      have c2 := cell_of_row _ _ 2 _ _ _ R1.out
      have c3 := cell_of_row _ _ 3 _ _ _ R1.out
      simp only [List.getElem?_toArray, List.getElem?_cons_zero, List.getElem?_cons_succ] at c0 c2 c3
      go_wp2_with fail
      refine (Ccc.out _).mono ?_
      rintro e w2 ⟨rfl, rfl⟩
      cases bcr
      · go_wp2
        go_ret
        exact ⟨ret_bv HV rfl, B1.out⟩
      · clear c0 c2 c3
        go_wp2_with (first | refine wpList_load_row rfl 33 (.tmp 1) rfl w.heap.size rfl 33 #[.int .i64 op, .int .i64 sz, .int .i64 cd, .int .i64 fr, .int .i64 d.k, .int .i64 d.r, .int .i64 d.b, .int .i64 d.i, .int .i64 d.s, .int .i64 d.d, .int .i64 d.m, .int .i64 s.k, .int .i64 s.r, .int .i64 s.b, .int .i64 s.i, .int .i64 s.s, .int .i64 s.d, .int .i64 s.m, .int .i64 ln] (0, 0) _ R1.out Tryz.underlying33 rfl (by kernel_rfl) ?_ | refine load_rowT (by rfl) 33 (.tmp 1) rfl w.heap.size rfl 33 #[.int .i64 op, .int .i64 sz, .int .i64 cd, .int .i64 fr, .int .i64 d.k, .int .i64 d.r, .int .i64 d.b, .int .i64 d.i, .int .i64 d.s, .int .i64 d.d, .int .i64 d.m, .int .i64 s.k, .int .i64 s.r, .int .i64 s.b, .int .i64 s.i, .int .i64 s.s, .int .i64 s.d, .int .i64 s.m, .int .i64 ln] (0, 0) _ R1.out Tryz.underlying33 rfl (by kernel_rfl) ?_)
        refine (Ccz.out _).mono ?_
        rintro e w2 ⟨rfl, hb⟩
        have B2 := Lib.hid (B1.out.trans (hb.mono B1.out.size))
        have R2 := Lib.hid ((hb.block _ (lt_of_blk R1.out)).trans R1.out)
        clear hb
        have c4 := cell_of_row _ _ 4 _ _ _ R2.out
        have c5 := cell_of_row _ _ 5 _ _ _ R2.out
        have c6 := cell_of_row _ _ 6 _ _ _ R2.out
        have c7 := cell_of_row _ _ 7 _ _ _ R2.out
        have c8 := cell_of_row _ _ 8 _ _ _ R2.out
        have c9 := cell_of_row _ _ 9 _ _ _ R2.out
        have c10 := cell_of_row _ _ 10 _ _ _ R2.out
        simp only [List.getElem?_toArray, List.getElem?_cons_zero, List.getElem?_cons_succ] at c4 c5 c6 c7 c8 c9 c10
        go_wp2_with fail
        refine (Cdd.out _).mono ?_
        rintro e w3 ⟨rfl, hb⟩
        have B3 := Lib.hid (B2.out.trans (hb.mono B2.out.size))
        have R3 := Lib.hid ((hb.block _ (lt_of_blk R2.out)).trans R2.out)
        clear hb
        clear c4 c5 c6 c7 c8 c9 c10
        cases bd
        · go_wp2
          go_ret
          exact ⟨ret_bv HV rfl, B3.out⟩
        · have c11 := cell_of_row _ _ 11 _ _ _ R3.out
          have c12 := cell_of_row _ _ 12 _ _ _ R3.out
          have c13 := cell_of_row _ _ 13 _ _ _ R3.out
          have c14 := cell_of_row _ _ 14 _ _ _ R3.out
          have c15 := cell_of_row _ _ 15 _ _ _ R3.out
          have c16 := cell_of_row _ _ 16 _ _ _ R3.out
          have c17 := cell_of_row _ _ 17 _ _ _ R3.out
          simp only [List.getElem?_toArray, List.getElem?_cons_zero, List.getElem?_cons_succ] at c11 c12 c13 c14 c15 c16 c17
          go_wp2_with fail
          refine (Cce.out _).mono ?_
          rintro e w4 ⟨rfl, hb⟩
          have B4 := Lib.hid (B3.out.trans (hb.mono B3.out.size))
          have R4 := Lib.hid ((hb.block _ (lt_of_blk R3.out)).trans R3.out)
          clear hb
          clear c11 c12 c13 c14 c15 c16 c17
          cases bs
          · go_wp2
            go_ret
            exact ⟨ret_bv HV rfl, B4.out⟩
          · have c4 := cell_of_row _ _ 4 _ _ _ R4.out
            have c5 := cell_of_row _ _ 5 _ _ _ R4.out
            have c6 := cell_of_row _ _ 6 _ _ _ R4.out
            have c7 := cell_of_row _ _ 7 _ _ _ R4.out
            have c8 := cell_of_row _ _ 8 _ _ _ R4.out
            have c9 := cell_of_row _ _ 9 _ _ _ R4.out
            have c10 := cell_of_row _ _ 10 _ _ _ R4.out
            simp only [List.getElem?_toArray, List.getElem?_cons_zero, List.getElem?_cons_succ] at c4 c5 c6 c7 c8 c9 c10
            go_wp2_with fail
            refine (Ccr.out _).mono ?_
            rintro e w5 ⟨rfl, hb⟩
            have B5 := Lib.hid (B4.out.trans (hb.mono B4.out.size))
            have R5 := Lib.hid ((hb.block _ (lt_of_blk R4.out)).trans R4.out)
            clear hb
            clear c4 c5 c6 c7 c8 c9 c10
            have c11 := cell_of_row _ _ 11 _ _ _ R5.out
            have c12 := cell_of_row _ _ 12 _ _ _ R5.out
            have c13 := cell_of_row _ _ 13 _ _ _ R5.out
            have c14 := cell_of_row _ _ 14 _ _ _ R5.out
            have c15 := cell_of_row _ _ 15 _ _ _ R5.out
            have c16 := cell_of_row _ _ 16 _ _ _ R5.out
            have c17 := cell_of_row _ _ 17 _ _ _ R5.out
            simp only [List.getElem?_toArray, List.getElem?_cons_zero, List.getElem?_cons_succ] at c11 c12 c13 c14 c15 c16 c17
            go_wp2_with fail
            refine (Ccq.out _).mono ?_
            rintro e w6 ⟨rfl, hb⟩
            have B6 := Lib.hid (B5.out.trans (hb.mono B5.out.size))
            have R6 := Lib.hid ((hb.block _ (lt_of_blk R5.out)).trans R5.out)
            clear hb
            clear c11 c12 c13 c14 c15 c16 c17
            have c0 := cell_of_row _ _ 0 _ _ _ R6.out
            have c1 := cell_of_row _ _ 1 _ _ _ R6.out
            simp only [List.getElem?_toArray, List.getElem?_cons_zero, List.getElem?_cons_succ] at c0 c1
            cases p
            · cases q
              · go_wp2
                go_ret
                exact ⟨ret_bv HV rfl, B6.out⟩
              · cases a
                · cases b
                  · cases t8
                    · go_wp2_with fail
                      refine (Ccw.out _).mono ?_
                      rintro e w7 ⟨rfl, rfl⟩
                      go_wp2
                      go_ret
                      exact ⟨ret_bv HV rfl, B6.out⟩
                    · go_wp2
                      go_ret
                      exact ⟨ret_bv HV rfl, B6.out⟩
                  · go_wp2
                    go_ret
                    exact ⟨ret_bv HV rfl, B6.out⟩
                · go_wp2
                  go_ret
                  exact ⟨ret_bv HV rfl, B6.out⟩
            · cases a
              · cases b
                · cases t8
                  · go_wp2_with fail
                    refine (Ccw.out _).mono ?_
                    rintro e w7 ⟨rfl, rfl⟩
                    go_wp2
                    go_ret
                    exact ⟨ret_bv HV rfl, B6.out⟩
                  · go_wp2
                    go_ret
                    exact ⟨ret_bv HV rfl, B6.out⟩
                · go_wp2
                  go_ret
                  exact ⟨ret_bv HV rfl, B6.out⟩
              · go_wp2
                go_ret
                exact ⟨ret_bv HV rfl, B6.out⟩
set_option maxRecDepth 100000 in
set_option maxHeartbeats 16000000 in
theorem okW4 (op sz cd fr : Int) (d s : Opd) (ln zs : Int) (bl bsh bcr bd bs a p b q wd : Bool) (v t8 : Bool) (w : World) (H : OkC op sz cd fr d s ln zs bl bsh bcr bd bs a p b q wd) (h8 : (sz != 8) = t8) (n26 : (op != 26) = true) (n27 : (op != 27) = true) (nf : (fr != 0) = false) (n33 : (op != 33) = true) (n35 : (op != 35) = false) (HV : Hid (v = (bl && (bsh && (bcr && (bd && (bs && (!(p || q) || (!a && (!b && (t8 || wd))))))))))) :
    Calls Tryz.prog 10 #[.agg #[.int .i64 op, .int .i64 sz, .int .i64 cd, .int .i64 fr, .int .i64 d.k, .int .i64 d.r, .int .i64 d.b, .int .i64 d.i, .int .i64 d.s, .int .i64 d.d, .int .i64 d.m, .int .i64 s.k, .int .i64 s.r, .int .i64 s.b, .int .i64 s.i, .int .i64 s.s, .int .i64 s.d, .int .i64 s.m, .int .i64 ln]] w fun e w' => e = .returned (.bool v) ∧ Below w.heap.size w w' := by
  have Cco := Lib.hid H.co
  have Ccl := Lib.hid H.cl
  have Ccs := Lib.hid H.cs
  have Ccc := Lib.hid H.cc
  have Ccz := Lib.hid H.cz
  have Cdd := Lib.hid H.cd'
  have Cce := Lib.hid H.ce
  have Ccr := Lib.hid H.cr
  have Ccq := Lib.hid H.cq
  have Ccw := Lib.hid H.cw
  clear H
  have R0 := Lib.hid (heap_alloc_new w (.cells #[.int .i64 op, .int .i64 sz, .int .i64 cd, .int .i64 fr, .int .i64 d.k, .int .i64 d.r, .int .i64 d.b, .int .i64 d.i, .int .i64 d.s, .int .i64 d.d, .int .i64 d.m, .int .i64 s.k, .int .i64 s.r, .int .i64 s.b, .int .i64 s.i, .int .i64 s.s, .int .i64 s.d, .int .i64 s.m, .int .i64 ln] 33))
  have B0 := Lib.hid (belA w (.cells #[.int .i64 op, .int .i64 sz, .int .i64 cd, .int .i64 fr, .int .i64 d.k, .int .i64 d.r, .int .i64 d.b, .int .i64 d.i, .int .i64 d.s, .int .i64 d.d, .int .i64 d.m, .int .i64 s.k, .int .i64 s.r, .int .i64 s.b, .int .i64 s.i, .int .i64 s.s, .int .i64 s.d, .int .i64 s.m, .int .i64 ln] 33))
  go_enter Tryz.func10, Tryz.ntmps10
  have c0 := cell_of_row _ _ 0 _ _ _ R0.out
  simp only [List.getElem?_toArray, List.getElem?_cons_zero, List.getElem?_cons_succ] at c0
  go_wp2_with fail
  refine (Cco.out _).mono ?_
  rintro e w1 ⟨rfl, rfl⟩
  have c18 := cell_of_row _ _ 18 _ _ _ R0.out
  simp only [List.getElem?_toArray, List.getElem?_cons_zero, List.getElem?_cons_succ] at c18
  go_wp2_with fail
  refine (Ccl.out _).mono ?_
  rintro e w1 ⟨rfl, rfl⟩
  cases bl
  · go_wp2
    go_ret
    exact ⟨ret_bv HV rfl, B0.out⟩
  · go_wp2_with (first | refine wpList_load_row rfl 33 (.tmp 1) rfl w.heap.size rfl 33 #[.int .i64 op, .int .i64 sz, .int .i64 cd, .int .i64 fr, .int .i64 d.k, .int .i64 d.r, .int .i64 d.b, .int .i64 d.i, .int .i64 d.s, .int .i64 d.d, .int .i64 d.m, .int .i64 s.k, .int .i64 s.r, .int .i64 s.b, .int .i64 s.i, .int .i64 s.s, .int .i64 s.d, .int .i64 s.m, .int .i64 ln] (0, 0) _ R0.out Tryz.underlying33 rfl (by kernel_rfl) ?_ | refine load_rowT (by rfl) 33 (.tmp 1) rfl w.heap.size rfl 33 #[.int .i64 op, .int .i64 sz, .int .i64 cd, .int .i64 fr, .int .i64 d.k, .int .i64 d.r, .int .i64 d.b, .int .i64 d.i, .int .i64 d.s, .int .i64 d.d, .int .i64 d.m, .int .i64 s.k, .int .i64 s.r, .int .i64 s.b, .int .i64 s.i, .int .i64 s.s, .int .i64 s.d, .int .i64 s.m, .int .i64 ln] (0, 0) _ R0.out Tryz.underlying33 rfl (by kernel_rfl) ?_)
    refine (Ccs.out _).mono ?_
    rintro e w1 ⟨rfl, hb⟩
    have B1 := Lib.hid (B0.out.trans (hb.mono B0.out.size))
    have R1 := Lib.hid ((hb.block _ (lt_of_blk R0.out)).trans R0.out)
    clear hb c0 c18
    cases bsh
    · go_wp2
      go_ret
      exact ⟨ret_bv HV rfl, B1.out⟩
    · have c0 := cell_of_row _ _ 0 _ _ _ R1.out
      have c2 := cell_of_row _ _ 2 _ _ _ R1.out
      have c3 := cell_of_row _ _ 3 _ _ _ R1.out
      simp only [List.getElem?_toArray, List.getElem?_cons_zero, List.getElem?_cons_succ] at c0 c2 c3
      go_wp2_with fail
      refine (Ccc.out _).mono ?_
      rintro e w2 ⟨rfl, rfl⟩
      cases bcr
      · go_wp2
        go_ret
        exact ⟨ret_bv HV rfl, B1.out⟩
      · clear c0 c2 c3
        go_wp2_with (first | refine wpList_load_row rfl 33 (.tmp 1) rfl w.heap.size rfl 33 #[.int .i64 op, .int .i64 sz, .int .i64 cd, .int .i64 fr, .int .i64 d.k, .int .i64 d.r, .int .i64 d.b, .int .i64 d.i, .int .i64 d.s, .int .i64 d.d, .int .i64 d.m, .int .i64 s.k, .int .i64 s.r, .int .i64 s.b, .int .i64 s.i, .int .i64 s.s, .int .i64 s.d, .int .i64 s.m, .int .i64 ln] (0, 0) _ R1.out Tryz.underlying33 rfl (by kernel_rfl) ?_ | refine load_rowT (by rfl) 33 (.tmp 1) rfl w.heap.size rfl 33 #[.int .i64 op, .int .i64 sz, .int .i64 cd, .int .i64 fr, .int .i64 d.k, .int .i64 d.r, .int .i64 d.b, .int .i64 d.i, .int .i64 d.s, .int .i64 d.d, .int .i64 d.m, .int .i64 s.k, .int .i64 s.r, .int .i64 s.b, .int .i64 s.i, .int .i64 s.s, .int .i64 s.d, .int .i64 s.m, .int .i64 ln] (0, 0) _ R1.out Tryz.underlying33 rfl (by kernel_rfl) ?_)
        refine (Ccz.out _).mono ?_
        rintro e w2 ⟨rfl, hb⟩
        have B2 := Lib.hid (B1.out.trans (hb.mono B1.out.size))
        have R2 := Lib.hid ((hb.block _ (lt_of_blk R1.out)).trans R1.out)
        clear hb
        have c4 := cell_of_row _ _ 4 _ _ _ R2.out
        have c5 := cell_of_row _ _ 5 _ _ _ R2.out
        have c6 := cell_of_row _ _ 6 _ _ _ R2.out
        have c7 := cell_of_row _ _ 7 _ _ _ R2.out
        have c8 := cell_of_row _ _ 8 _ _ _ R2.out
        have c9 := cell_of_row _ _ 9 _ _ _ R2.out
        have c10 := cell_of_row _ _ 10 _ _ _ R2.out
        simp only [List.getElem?_toArray, List.getElem?_cons_zero, List.getElem?_cons_succ] at c4 c5 c6 c7 c8 c9 c10
        go_wp2_with fail
        refine (Cdd.out _).mono ?_
        rintro e w3 ⟨rfl, hb⟩
        have B3 := Lib.hid (B2.out.trans (hb.mono B2.out.size))
        have R3 := Lib.hid ((hb.block _ (lt_of_blk R2.out)).trans R2.out)
        clear hb
        clear c4 c5 c6 c7 c8 c9 c10
        cases bd
        · go_wp2
          go_ret
          exact ⟨ret_bv HV rfl, B3.out⟩
        · have c11 := cell_of_row _ _ 11 _ _ _ R3.out
          have c12 := cell_of_row _ _ 12 _ _ _ R3.out
          have c13 := cell_of_row _ _ 13 _ _ _ R3.out
          have c14 := cell_of_row _ _ 14 _ _ _ R3.out
          have c15 := cell_of_row _ _ 15 _ _ _ R3.out
          have c16 := cell_of_row _ _ 16 _ _ _ R3.out
          have c17 := cell_of_row _ _ 17 _ _ _ R3.out
          simp only [List.getElem?_toArray, List.getElem?_cons_zero, List.getElem?_cons_succ] at c11 c12 c13 c14 c15 c16 c17
          go_wp2_with fail
          refine (Cce.out _).mono ?_
          rintro e w4 ⟨rfl, hb⟩
          have B4 := Lib.hid (B3.out.trans (hb.mono B3.out.size))
          have R4 := Lib.hid ((hb.block _ (lt_of_blk R3.out)).trans R3.out)
          clear hb
          clear c11 c12 c13 c14 c15 c16 c17
          cases bs
          · go_wp2
            go_ret
            exact ⟨ret_bv HV rfl, B4.out⟩
          · have c4 := cell_of_row _ _ 4 _ _ _ R4.out
            have c5 := cell_of_row _ _ 5 _ _ _ R4.out
            have c6 := cell_of_row _ _ 6 _ _ _ R4.out
            have c7 := cell_of_row _ _ 7 _ _ _ R4.out
            have c8 := cell_of_row _ _ 8 _ _ _ R4.out
            have c9 := cell_of_row _ _ 9 _ _ _ R4.out
            have c10 := cell_of_row _ _ 10 _ _ _ R4.out
            simp only [List.getElem?_toArray, List.getElem?_cons_zero, List.getElem?_cons_succ] at c4 c5 c6 c7 c8 c9 c10
            go_wp2_with fail
            refine (Ccr.out _).mono ?_
            rintro e w5 ⟨rfl, hb⟩
            have B5 := Lib.hid (B4.out.trans (hb.mono B4.out.size))
            have R5 := Lib.hid ((hb.block _ (lt_of_blk R4.out)).trans R4.out)
            clear hb
            clear c4 c5 c6 c7 c8 c9 c10
            have c11 := cell_of_row _ _ 11 _ _ _ R5.out
            have c12 := cell_of_row _ _ 12 _ _ _ R5.out
            have c13 := cell_of_row _ _ 13 _ _ _ R5.out
            have c14 := cell_of_row _ _ 14 _ _ _ R5.out
            have c15 := cell_of_row _ _ 15 _ _ _ R5.out
            have c16 := cell_of_row _ _ 16 _ _ _ R5.out
            have c17 := cell_of_row _ _ 17 _ _ _ R5.out
            simp only [List.getElem?_toArray, List.getElem?_cons_zero, List.getElem?_cons_succ] at c11 c12 c13 c14 c15 c16 c17
            go_wp2_with fail
            refine (Ccq.out _).mono ?_
            rintro e w6 ⟨rfl, hb⟩
            have B6 := Lib.hid (B5.out.trans (hb.mono B5.out.size))
            have R6 := Lib.hid ((hb.block _ (lt_of_blk R5.out)).trans R5.out)
            clear hb
            clear c11 c12 c13 c14 c15 c16 c17
            have c0 := cell_of_row _ _ 0 _ _ _ R6.out
            have c1 := cell_of_row _ _ 1 _ _ _ R6.out
            simp only [List.getElem?_toArray, List.getElem?_cons_zero, List.getElem?_cons_succ] at c0 c1
            cases p
            · cases q
              · go_wp2
                go_ret
                exact ⟨ret_bv HV rfl, B6.out⟩
              · cases a
                · cases b
                  · cases t8
                    · go_wp2_with fail
                      refine (Ccw.out _).mono ?_
                      rintro e w7 ⟨rfl, rfl⟩
                      go_wp2
                      go_ret
                      exact ⟨ret_bv HV rfl, B6.out⟩
                    · go_wp2
                      go_ret
                      exact ⟨ret_bv HV rfl, B6.out⟩
                  · go_wp2
                    go_ret
                    exact ⟨ret_bv HV rfl, B6.out⟩
                · go_wp2
                  go_ret
                  exact ⟨ret_bv HV rfl, B6.out⟩
            · cases a
              · cases b
                · cases t8
                  · go_wp2_with fail
                    refine (Ccw.out _).mono ?_
                    rintro e w7 ⟨rfl, rfl⟩
                    go_wp2
                    go_ret
                    exact ⟨ret_bv HV rfl, B6.out⟩
                  · go_wp2
                    go_ret
                    exact ⟨ret_bv HV rfl, B6.out⟩
                · go_wp2
                  go_ret
                  exact ⟨ret_bv HV rfl, B6.out⟩
              · go_wp2
                go_ret
                exact ⟨ret_bv HV rfl, B6.out⟩
set_option maxRecDepth 100000 in
set_option maxHeartbeats 16000000 in
theorem okW5 (op sz cd fr : Int) (d s : Opd) (ln zs : Int) (bl bsh bcr bd bs a p b q wd : Bool) (v t8 : Bool) (w : World) (H : OkC op sz cd fr d s ln zs bl bsh bcr bd bs a p b q wd) (h8 : (sz != 8) = t8) (n26 : (op != 26) = true) (n27 : (op != 27) = true) (nf : (fr != 0) = false) (n33 : (op != 33) = true) (n35 : (op != 35) = true) (n36 : (op != 36) = false) (HV : Hid (v = (bl && (bsh && (bcr && (bd && (bs && (!(p || q) || (!a && (!b && (t8 || wd))))))))))) :
    Calls Tryz.prog 10 #[.agg #[.int .i64 op, .int .i64 sz, .int .i64 cd, .int .i64 fr, .int .i64 d.k, .int .i64 d.r, .int .i64 d.b, .int .i64 d.i, .int .i64 d.s, .int .i64 d.d, .int .i64 d.m, .int .i64 s.k, .int .i64 s.r, .int .i64 s.b, .int .i64 s.i, .int .i64 s.s, .int .i64 s.d, .int .i64 s.m, .int .i64 ln]] w fun e w' => e = .returned (.bool v) ∧ Below w.heap.size w w' := by
  have Cco := Lib.hid H.co
  have Ccl := Lib.hid H.cl
  have Ccs := Lib.hid H.cs
  have Ccc := Lib.hid H.cc
  have Ccz := Lib.hid H.cz
  have Cdd := Lib.hid H.cd'
  have Cce := Lib.hid H.ce
  have Ccr := Lib.hid H.cr
  have Ccq := Lib.hid H.cq
  have Ccw := Lib.hid H.cw
  clear H
  have R0 := Lib.hid (heap_alloc_new w (.cells #[.int .i64 op, .int .i64 sz, .int .i64 cd, .int .i64 fr, .int .i64 d.k, .int .i64 d.r, .int .i64 d.b, .int .i64 d.i, .int .i64 d.s, .int .i64 d.d, .int .i64 d.m, .int .i64 s.k, .int .i64 s.r, .int .i64 s.b, .int .i64 s.i, .int .i64 s.s, .int .i64 s.d, .int .i64 s.m, .int .i64 ln] 33))
  have B0 := Lib.hid (belA w (.cells #[.int .i64 op, .int .i64 sz, .int .i64 cd, .int .i64 fr, .int .i64 d.k, .int .i64 d.r, .int .i64 d.b, .int .i64 d.i, .int .i64 d.s, .int .i64 d.d, .int .i64 d.m, .int .i64 s.k, .int .i64 s.r, .int .i64 s.b, .int .i64 s.i, .int .i64 s.s, .int .i64 s.d, .int .i64 s.m, .int .i64 ln] 33))
  go_enter Tryz.func10, Tryz.ntmps10
  have c0 := cell_of_row _ _ 0 _ _ _ R0.out
  simp only [List.getElem?_toArray, List.getElem?_cons_zero, List.getElem?_cons_succ] at c0
  go_wp2_with fail
  refine (Cco.out _).mono ?_
  rintro e w1 ⟨rfl, rfl⟩
  have c18 := cell_of_row _ _ 18 _ _ _ R0.out
  simp only [List.getElem?_toArray, List.getElem?_cons_zero, List.getElem?_cons_succ] at c18
  go_wp2_with fail
  refine (Ccl.out _).mono ?_
  rintro e w1 ⟨rfl, rfl⟩
  cases bl
  · go_wp2
    go_ret
    exact ⟨ret_bv HV rfl, B0.out⟩
  · go_wp2_with (first | refine wpList_load_row rfl 33 (.tmp 1) rfl w.heap.size rfl 33 #[.int .i64 op, .int .i64 sz, .int .i64 cd, .int .i64 fr, .int .i64 d.k, .int .i64 d.r, .int .i64 d.b, .int .i64 d.i, .int .i64 d.s, .int .i64 d.d, .int .i64 d.m, .int .i64 s.k, .int .i64 s.r, .int .i64 s.b, .int .i64 s.i, .int .i64 s.s, .int .i64 s.d, .int .i64 s.m, .int .i64 ln] (0, 0) _ R0.out Tryz.underlying33 rfl (by kernel_rfl) ?_ | refine load_rowT (by rfl) 33 (.tmp 1) rfl w.heap.size rfl 33 #[.int .i64 op, .int .i64 sz, .int .i64 cd, .int .i64 fr, .int .i64 d.k, .int .i64 d.r, .int .i64 d.b, .int .i64 d.i, .int .i64 d.s, .int .i64 d.d, .int .i64 d.m, .int .i64 s.k, .int .i64 s.r, .int .i64 s.b, .int .i64 s.i, .int .i64 s.s, .int .i64 s.d, .int .i64 s.m, .int .i64 ln] (0, 0) _ R0.out Tryz.underlying33 rfl (by kernel_rfl) ?_)
    refine (Ccs.out _).mono ?_
    rintro e w1 ⟨rfl, hb⟩
    have B1 := Lib.hid (B0.out.trans (hb.mono B0.out.size))
    have R1 := Lib.hid ((hb.block _ (lt_of_blk R0.out)).trans R0.out)
    clear hb c0 c18
    cases bsh
    · go_wp2
      go_ret
      exact ⟨ret_bv HV rfl, B1.out⟩
    · have c0 := cell_of_row _ _ 0 _ _ _ R1.out
      have c2 := cell_of_row _ _ 2 _ _ _ R1.out
      have c3 := cell_of_row _ _ 3 _ _ _ R1.out
      simp only [List.getElem?_toArray, List.getElem?_cons_zero, List.getElem?_cons_succ] at c0 c2 c3
      go_wp2_with fail
      refine (Ccc.out _).mono ?_
      rintro e w2 ⟨rfl, rfl⟩
      cases bcr
      · go_wp2
        go_ret
        exact ⟨ret_bv HV rfl, B1.out⟩
      · clear c0 c2 c3
        go_wp2_with (first | refine wpList_load_row rfl 33 (.tmp 1) rfl w.heap.size rfl 33 #[.int .i64 op, .int .i64 sz, .int .i64 cd, .int .i64 fr, .int .i64 d.k, .int .i64 d.r, .int .i64 d.b, .int .i64 d.i, .int .i64 d.s, .int .i64 d.d, .int .i64 d.m, .int .i64 s.k, .int .i64 s.r, .int .i64 s.b, .int .i64 s.i, .int .i64 s.s, .int .i64 s.d, .int .i64 s.m, .int .i64 ln] (0, 0) _ R1.out Tryz.underlying33 rfl (by kernel_rfl) ?_ | refine load_rowT (by rfl) 33 (.tmp 1) rfl w.heap.size rfl 33 #[.int .i64 op, .int .i64 sz, .int .i64 cd, .int .i64 fr, .int .i64 d.k, .int .i64 d.r, .int .i64 d.b, .int .i64 d.i, .int .i64 d.s, .int .i64 d.d, .int .i64 d.m, .int .i64 s.k, .int .i64 s.r, .int .i64 s.b, .int .i64 s.i, .int .i64 s.s, .int .i64 s.d, .int .i64 s.m, .int .i64 ln] (0, 0) _ R1.out Tryz.underlying33 rfl (by kernel_rfl) ?_)
        refine (Ccz.out _).mono ?_
        rintro e w2 ⟨rfl, hb⟩
        have B2 := Lib.hid (B1.out.trans (hb.mono B1.out.size))
        have R2 := Lib.hid ((hb.block _ (lt_of_blk R1.out)).trans R1.out)
        clear hb
        have c4 := cell_of_row _ _ 4 _ _ _ R2.out
        have c5 := cell_of_row _ _ 5 _ _ _ R2.out
        have c6 := cell_of_row _ _ 6 _ _ _ R2.out
        have c7 := cell_of_row _ _ 7 _ _ _ R2.out
        have c8 := cell_of_row _ _ 8 _ _ _ R2.out
        have c9 := cell_of_row _ _ 9 _ _ _ R2.out
        have c10 := cell_of_row _ _ 10 _ _ _ R2.out
        simp only [List.getElem?_toArray, List.getElem?_cons_zero, List.getElem?_cons_succ] at c4 c5 c6 c7 c8 c9 c10
        go_wp2_with fail
        refine (Cdd.out _).mono ?_
        rintro e w3 ⟨rfl, hb⟩
        have B3 := Lib.hid (B2.out.trans (hb.mono B2.out.size))
        have R3 := Lib.hid ((hb.block _ (lt_of_blk R2.out)).trans R2.out)
        clear hb
        clear c4 c5 c6 c7 c8 c9 c10
        cases bd
        · go_wp2
          go_ret
          exact ⟨ret_bv HV rfl, B3.out⟩
        · have c11 := cell_of_row _ _ 11 _ _ _ R3.out
          have c12 := cell_of_row _ _ 12 _ _ _ R3.out
          have c13 := cell_of_row _ _ 13 _ _ _ R3.out
          have c14 := cell_of_row _ _ 14 _ _ _ R3.out
          have c15 := cell_of_row _ _ 15 _ _ _ R3.out
          have c16 := cell_of_row _ _ 16 _ _ _ R3.out
          have c17 := cell_of_row _ _ 17 _ _ _ R3.out
          simp only [List.getElem?_toArray, List.getElem?_cons_zero, List.getElem?_cons_succ] at c11 c12 c13 c14 c15 c16 c17
          go_wp2_with fail
          refine (Cce.out _).mono ?_
          rintro e w4 ⟨rfl, hb⟩
          have B4 := Lib.hid (B3.out.trans (hb.mono B3.out.size))
          have R4 := Lib.hid ((hb.block _ (lt_of_blk R3.out)).trans R3.out)
          clear hb
          clear c11 c12 c13 c14 c15 c16 c17
          cases bs
          · go_wp2
            go_ret
            exact ⟨ret_bv HV rfl, B4.out⟩
          · have c4 := cell_of_row _ _ 4 _ _ _ R4.out
            have c5 := cell_of_row _ _ 5 _ _ _ R4.out
            have c6 := cell_of_row _ _ 6 _ _ _ R4.out
            have c7 := cell_of_row _ _ 7 _ _ _ R4.out
            have c8 := cell_of_row _ _ 8 _ _ _ R4.out
            have c9 := cell_of_row _ _ 9 _ _ _ R4.out
            have c10 := cell_of_row _ _ 10 _ _ _ R4.out
            simp only [List.getElem?_toArray, List.getElem?_cons_zero, List.getElem?_cons_succ] at c4 c5 c6 c7 c8 c9 c10
            go_wp2_with fail
            refine (Ccr.out _).mono ?_
            rintro e w5 ⟨rfl, hb⟩
            have B5 := Lib.hid (B4.out.trans (hb.mono B4.out.size))
            have R5 := Lib.hid ((hb.block _ (lt_of_blk R4.out)).trans R4.out)
            clear hb
            clear c4 c5 c6 c7 c8 c9 c10
            have c11 := cell_of_row _ _ 11 _ _ _ R5.out
            have c12 := cell_of_row _ _ 12 _ _ _ R5.out
            have c13 := cell_of_row _ _ 13 _ _ _ R5.out
            have c14 := cell_of_row _ _ 14 _ _ _ R5.out
            have c15 := cell_of_row _ _ 15 _ _ _ R5.out
            have c16 := cell_of_row _ _ 16 _ _ _ R5.out
            have c17 := cell_of_row _ _ 17 _ _ _ R5.out
            simp only [List.getElem?_toArray, List.getElem?_cons_zero, List.getElem?_cons_succ] at c11 c12 c13 c14 c15 c16 c17
            go_wp2_with fail
            refine (Ccq.out _).mono ?_
            rintro e w6 ⟨rfl, hb⟩
            have B6 := Lib.hid (B5.out.trans (hb.mono B5.out.size))
            have R6 := Lib.hid ((hb.block _ (lt_of_blk R5.out)).trans R5.out)
            clear hb
            clear c11 c12 c13 c14 c15 c16 c17
            have c0 := cell_of_row _ _ 0 _ _ _ R6.out
            have c1 := cell_of_row _ _ 1 _ _ _ R6.out
            simp only [List.getElem?_toArray, List.getElem?_cons_zero, List.getElem?_cons_succ] at c0 c1
            cases p
            · cases q
              · go_wp2
                go_ret
                exact ⟨ret_bv HV rfl, B6.out⟩
              · cases a
                · cases b
                  · cases t8
                    · go_wp2_with fail
                      refine (Ccw.out _).mono ?_
                      rintro e w7 ⟨rfl, rfl⟩
                      go_wp2
                      go_ret
                      exact ⟨ret_bv HV rfl, B6.out⟩
                    · go_wp2
                      go_ret
                      exact ⟨ret_bv HV rfl, B6.out⟩
                  · go_wp2
                    go_ret
                    exact ⟨ret_bv HV rfl, B6.out⟩
                · go_wp2
                  go_ret
                  exact ⟨ret_bv HV rfl, B6.out⟩
            · cases a
              · cases b
                · cases t8
                  · go_wp2_with fail
                    refine (Ccw.out _).mono ?_
                    rintro e w7 ⟨rfl, rfl⟩
                    go_wp2
                    go_ret
                    exact ⟨ret_bv HV rfl, B6.out⟩
                  · go_wp2
                    go_ret
                    exact ⟨ret_bv HV rfl, B6.out⟩
                · go_wp2
                  go_ret
                  exact ⟨ret_bv HV rfl, B6.out⟩
              · go_wp2
                go_ret
                exact ⟨ret_bv HV rfl, B6.out⟩
set_option maxRecDepth 100000 in
set_option maxHeartbeats 16000000 in
theorem okW6 (op sz cd fr : Int) (d s : Opd) (ln zs : Int) (bl bsh bcr bd bs a p b q wd : Bool) (v t8 : Bool) (w : World) (H : OkC op sz cd fr d s ln zs bl bsh bcr bd bs a p b q wd) (h8 : (sz != 8) = t8) (n26 : (op != 26) = true) (n27 : (op != 27) = true) (nf : (fr != 0) = false) (n33 : (op != 33) = true) (n35 : (op != 35) = true) (n36 : (op != 36) = true) (nc : (cd != 0) = false) (HV : Hid (v = (bl && (bsh && (bcr && (bd && (bs && (!(p || q) || (!a && (!b && (t8 || wd))))))))))) :
    Calls Tryz.prog 10 #[.agg #[.int .i64 op, .int .i64 sz, .int .i64 cd, .int .i64 fr, .int .i64 d.k, .int .i64 d.r, .int .i64 d.b, .int .i64 d.i, .int .i64 d.s, .int .i64 d.d, .int .i64 d.m, .int .i64 s.k, .int .i64 s.r, .int .i64 s.b, .int .i64 s.i, .int .i64 s.s, .int .i64 s.d, .int .i64 s.m, .int .i64 ln]] w fun e w' => e = .returned (.bool v) ∧ Below w.heap.size w w' := by
  have Cco := Lib.hid H.co
  have Ccl := Lib.hid H.cl
  have Ccs := Lib.hid H.cs
  have Ccc := Lib.hid H.cc
  have Ccz := Lib.hid H.cz
  have Cdd := Lib.hid H.cd'
  have Cce := Lib.hid H.ce
  have Ccr := Lib.hid H.cr
  have Ccq := Lib.hid H.cq
  have Ccw := Lib.hid H.cw
  clear H
  have R0 := Lib.hid (heap_alloc_new w (.cells #[.int .i64 op, .int .i64 sz, .int .i64 cd, .int .i64 fr, .int .i64 d.k, .int .i64 d.r, .int .i64 d.b, .int .i64 d.i, .int .i64 d.s, .int .i64 d.d, .int .i64 d.m, .int .i64 s.k, .int .i64 s.r, .int .i64 s.b, .int .i64 s.i, .int .i64 s.s, .int .i64 s.d, .int .i64 s.m, .int .i64 ln] 33))
  have B0 := Lib.hid (belA w (.cells #[.int .i64 op, .int .i64 sz, .int .i64 cd, .int .i64 fr, .int .i64 d.k, .int .i64 d.r, .int .i64 d.b, .int .i64 d.i, .int .i64 d.s, .int .i64 d.d, .int .i64 d.m, .int .i64 s.k, .int .i64 s.r, .int .i64 s.b, .int .i64 s.i, .int .i64 s.s, .int .i64 s.d, .int .i64 s.m, .int .i64 ln] 33))
  go_enter Tryz.func10, Tryz.ntmps10
  have c0 := cell_of_row _ _ 0 _ _ _ R0.out
  simp only [List.getElem?_toArray, List.getElem?_cons_zero, List.getElem?_cons_succ] at c0
  go_wp2_with fail
  refine (Cco.out _).mono ?_
  rintro e w1 ⟨rfl, rfl⟩
  have c18 := cell_of_row _ _ 18 _ _ _ R0.out
  simp only [List.getElem?_toArray, List.getElem?_cons_zero, List.getElem?_cons_succ] at c18
  go_wp2_with fail
  refine (Ccl.out _).mono ?_
  rintro e w1 ⟨rfl, rfl⟩
  cases bl
  · go_wp2
    go_ret
    exact ⟨ret_bv HV rfl, B0.out⟩
  · go_wp2_with (first | refine wpList_load_row rfl 33 (.tmp 1) rfl w.heap.size rfl 33 #[.int .i64 op, .int .i64 sz, .int .i64 cd, .int .i64 fr, .int .i64 d.k, .int .i64 d.r, .int .i64 d.b, .int .i64 d.i, .int .i64 d.s, .int .i64 d.d, .int .i64 d.m, .int .i64 s.k, .int .i64 s.r, .int .i64 s.b, .int .i64 s.i, .int .i64 s.s, .int .i64 s.d, .int .i64 s.m, .int .i64 ln] (0, 0) _ R0.out Tryz.underlying33 rfl (by kernel_rfl) ?_ | refine load_rowT (by rfl) 33 (.tmp 1) rfl w.heap.size rfl 33 #[.int .i64 op, .int .i64 sz, .int .i64 cd, .int .i64 fr, .int .i64 d.k, .int .i64 d.r, .int .i64 d.b, .int .i64 d.i, .int .i64 d.s, .int .i64 d.d, .int .i64 d.m, .int .i64 s.k, .int .i64 s.r, .int .i64 s.b, .int .i64 s.i, .int .i64 s.s, .int .i64 s.d, .int .i64 s.m, .int .i64 ln] (0, 0) _ R0.out Tryz.underlying33 rfl (by kernel_rfl) ?_)
    refine (Ccs.out _).mono ?_
    rintro e w1 ⟨rfl, hb⟩
    have B1 := Lib.hid (B0.out.trans (hb.mono B0.out.size))
    have R1 := Lib.hid ((hb.block _ (lt_of_blk R0.out)).trans R0.out)
    clear hb c0 c18
    cases bsh
    · go_wp2
      go_ret
      exact ⟨ret_bv HV rfl, B1.out⟩
    · have c0 := cell_of_row _ _ 0 _ _ _ R1.out
      have c2 := cell_of_row _ _ 2 _ _ _ R1.out
      have c3 := cell_of_row _ _ 3 _ _ _ R1.out
      simp only [List.getElem?_toArray, List.getElem?_cons_zero, List.getElem?_cons_succ] at c0 c2 c3
      go_wp2_with fail
      refine (Ccc.out _).mono ?_
      rintro e w2 ⟨rfl, rfl⟩
      cases bcr
      · go_wp2
        go_ret
        exact ⟨ret_bv HV rfl, B1.out⟩
      · clear c0 c2 c3
        go_wp2_with (first | refine wpList_load_row rfl 33 (.tmp 1) rfl w.heap.size rfl 33 #[.int .i64 op, .int .i64 sz, .int .i64 cd, .int .i64 fr, .int .i64 d.k, .int .i64 d.r, .int .i64 d.b, .int .i64 d.i, .int .i64 d.s, .int .i64 d.d, .int .i64 d.m, .int .i64 s.k, .int .i64 s.r, .int .i64 s.b, .int .i64 s.i, .int .i64 s.s, .int .i64 s.d, .int .i64 s.m, .int .i64 ln] (0, 0) _ R1.out Tryz.underlying33 rfl (by kernel_rfl) ?_ | refine load_rowT (by rfl) 33 (.tmp 1) rfl w.heap.size rfl 33 #[.int .i64 op, .int .i64 sz, .int .i64 cd, .int .i64 fr, .int .i64 d.k, .int .i64 d.r, .int .i64 d.b, .int .i64 d.i, .int .i64 d.s, .int .i64 d.d, .int .i64 d.m, .int .i64 s.k, .int .i64 s.r, .int .i64 s.b, .int .i64 s.i, .int .i64 s.s, .int .i64 s.d, .int .i64 s.m, .int .i64 ln] (0, 0) _ R1.out Tryz.underlying33 rfl (by kernel_rfl) ?_)
        refine (Ccz.out _).mono ?_
        rintro e w2 ⟨rfl, hb⟩
        have B2 := Lib.hid (B1.out.trans (hb.mono B1.out.size))
        have R2 := Lib.hid ((hb.block _ (lt_of_blk R1.out)).trans R1.out)
        clear hb
        have c4 := cell_of_row _ _ 4 _ _ _ R2.out
        have c5 := cell_of_row _ _ 5 _ _ _ R2.out
        have c6 := cell_of_row _ _ 6 _ _ _ R2.out
        have c7 := cell_of_row _ _ 7 _ _ _ R2.out
        have c8 := cell_of_row _ _ 8 _ _ _ R2.out
        have c9 := cell_of_row _ _ 9 _ _ _ R2.out
        have c10 := cell_of_row _ _ 10 _ _ _ R2.out
        simp only [List.getElem?_toArray, List.getElem?_cons_zero, List.getElem?_cons_succ] at c4 c5 c6 c7 c8 c9 c10
        go_wp2_with fail
        refine (Cdd.out _).mono ?_
        rintro e w3 ⟨rfl, hb⟩
        have B3 := Lib.hid (B2.out.trans (hb.mono B2.out.size))
        have R3 := Lib.hid ((hb.block _ (lt_of_blk R2.out)).trans R2.out)
        clear hb
        clear c4 c5 c6 c7 c8 c9 c10
        cases bd
        · go_wp2
          go_ret
          exact ⟨ret_bv HV rfl, B3.out⟩
        · have c11 := cell_of_row _ _ 11 _ _ _ R3.out
          have c12 := cell_of_row _ _ 12 _ _ _ R3.out
          have c13 := cell_of_row _ _ 13 _ _ _ R3.out
          have c14 := cell_of_row _ _ 14 _ _ _ R3.out
          have c15 := cell_of_row _ _ 15 _ _ _ R3.out
          have c16 := cell_of_row _ _ 16 _ _ _ R3.out
          have c17 := cell_of_row _ _ 17 _ _ _ R3.out
          simp only [List.getElem?_toArray, List.getElem?_cons_zero, List.getElem?_cons_succ] at c11 c12 c13 c14 c15 c16 c17
          go_wp2_with fail
          refine (Cce.out _).mono ?_
          rintro e w4 ⟨rfl, hb⟩
          have B4 := Lib.hid (B3.out.trans (hb.mono B3.out.size))
          have R4 := Lib.hid ((hb.block _ (lt_of_blk R3.out)).trans R3.out)
          clear hb
          clear c11 c12 c13 c14 c15 c16 c17
          cases bs
          · go_wp2
            go_ret
            exact ⟨ret_bv HV rfl, B4.out⟩
          · have c4 := cell_of_row _ _ 4 _ _ _ R4.out
            have c5 := cell_of_row _ _ 5 _ _ _ R4.out
            have c6 := cell_of_row _ _ 6 _ _ _ R4.out
            have c7 := cell_of_row _ _ 7 _ _ _ R4.out
            have c8 := cell_of_row _ _ 8 _ _ _ R4.out
            have c9 := cell_of_row _ _ 9 _ _ _ R4.out
            have c10 := cell_of_row _ _ 10 _ _ _ R4.out
            simp only [List.getElem?_toArray, List.getElem?_cons_zero, List.getElem?_cons_succ] at c4 c5 c6 c7 c8 c9 c10
            go_wp2_with fail
            refine (Ccr.out _).mono ?_
            rintro e w5 ⟨rfl, hb⟩
            have B5 := Lib.hid (B4.out.trans (hb.mono B4.out.size))
            have R5 := Lib.hid ((hb.block _ (lt_of_blk R4.out)).trans R4.out)
            clear hb
            clear c4 c5 c6 c7 c8 c9 c10
            have c11 := cell_of_row _ _ 11 _ _ _ R5.out
            have c12 := cell_of_row _ _ 12 _ _ _ R5.out
            have c13 := cell_of_row _ _ 13 _ _ _ R5.out
            have c14 := cell_of_row _ _ 14 _ _ _ R5.out
            have c15 := cell_of_row _ _ 15 _ _ _ R5.out
            have c16 := cell_of_row _ _ 16 _ _ _ R5.out
            have c17 := cell_of_row _ _ 17 _ _ _ R5.out
            simp only [List.getElem?_toArray, List.getElem?_cons_zero, List.getElem?_cons_succ] at c11 c12 c13 c14 c15 c16 c17
            go_wp2_with fail
            refine (Ccq.out _).mono ?_
            rintro e w6 ⟨rfl, hb⟩
            have B6 := Lib.hid (B5.out.trans (hb.mono B5.out.size))
            have R6 := Lib.hid ((hb.block _ (lt_of_blk R5.out)).trans R5.out)
            clear hb
            clear c11 c12 c13 c14 c15 c16 c17
            have c0 := cell_of_row _ _ 0 _ _ _ R6.out
            have c1 := cell_of_row _ _ 1 _ _ _ R6.out
            simp only [List.getElem?_toArray, List.getElem?_cons_zero, List.getElem?_cons_succ] at c0 c1
            cases p
            · cases q
              · go_wp2
                go_ret
                exact ⟨ret_bv HV rfl, B6.out⟩
              · cases a
                · cases b
                  · cases t8
                    · go_wp2_with fail
                      refine (Ccw.out _).mono ?_
                      rintro e w7 ⟨rfl, rfl⟩
                      go_wp2
                      go_ret
                      exact ⟨ret_bv HV rfl, B6.out⟩
                    · go_wp2
                      go_ret
                      exact ⟨ret_bv HV rfl, B6.out⟩
                  · go_wp2
                    go_ret
                    exact ⟨ret_bv HV rfl, B6.out⟩
                · go_wp2
                  go_ret
                  exact ⟨ret_bv HV rfl, B6.out⟩
            · cases a
              · cases b
                · cases t8
                  · go_wp2_with fail
                    refine (Ccw.out _).mono ?_
                    rintro e w7 ⟨rfl, rfl⟩
                    go_wp2
                    go_ret
                    exact ⟨ret_bv HV rfl, B6.out⟩
                  · go_wp2
                    go_ret
                    exact ⟨ret_bv HV rfl, B6.out⟩
                · go_wp2
                  go_ret
                  exact ⟨ret_bv HV rfl, B6.out⟩
              · go_wp2
                go_ret
                exact ⟨ret_bv HV rfl, B6.out⟩
set_option maxRecDepth 100000 in
set_option maxHeartbeats 16000000 in
theorem okF1 (op sz cd fr : Int) (d s : Opd) (ln zs : Int) (bl bsh bcr bd bs a p b q wd : Bool) (v t8 : Bool) (w : World) (H : OkC op sz cd fr d s ln zs bl bsh bcr bd bs a p b q wd) (h8 : (sz != 8) = t8) (n26 : (op != 26) = true) (n27 : (op != 27) = true) (nf : (fr != 0) = true) (HV : Hid (v = false)) :
    Calls Tryz.prog 10 #[.agg #[.int .i64 op, .int .i64 sz, .int .i64 cd, .int .i64 fr, .int .i64 d.k, .int .i64 d.r, .int .i64 d.b, .int .i64 d.i, .int .i64 d.s, .int .i64 d.d, .int .i64 d.m, .int .i64 s.k, .int .i64 s.r, .int .i64 s.b, .int .i64 s.i, .int .i64 s.s, .int .i64 s.d, .int .i64 s.m, .int .i64 ln]] w fun e w' => e = .returned (.bool v) ∧ Below w.heap.size w w' := by
  have Cco := Lib.hid H.co
  have Ccl := Lib.hid H.cl
  have Ccs := Lib.hid H.cs
  have Ccc := Lib.hid H.cc
  have Ccz := Lib.hid H.cz
  have Cdd := Lib.hid H.cd'
  have Cce := Lib.hid H.ce
  have Ccr := Lib.hid H.cr
  have Ccq := Lib.hid H.cq
  have Ccw := Lib.hid H.cw
  clear H
  have R0 := Lib.hid (heap_alloc_new w (.cells #[.int .i64 op, .int .i64 sz, .int .i64 cd, .int .i64 fr, .int .i64 d.k, .int .i64 d.r, .int .i64 d.b, .int .i64 d.i, .int .i64 d.s, .int .i64 d.d, .int .i64 d.m, .int .i64 s.k, .int .i64 s.r, .int .i64 s.b, .int .i64 s.i, .int .i64 s.s, .int .i64 s.d, .int .i64 s.m, .int .i64 ln] 33))
  have B0 := Lib.hid (belA w (.cells #[.int .i64 op, .int .i64 sz, .int .i64 cd, .int .i64 fr, .int .i64 d.k, .int .i64 d.r, .int .i64 d.b, .int .i64 d.i, .int .i64 d.s, .int .i64 d.d, .int .i64 d.m, .int .i64 s.k, .int .i64 s.r, .int .i64 s.b, .int .i64 s.i, .int .i64 s.s, .int .i64 s.d, .int .i64 s.m, .int .i64 ln] 33))
  go_enter Tryz.func10, Tryz.ntmps10
  have c0 := cell_of_row _ _ 0 _ _ _ R0.out
  simp only [List.getElem?_toArray, List.getElem?_cons_zero, List.getElem?_cons_succ] at c0
  go_wp2_with fail
  refine (Cco.out _).mono ?_
  rintro e w1 ⟨rfl, rfl⟩
  have c18 := cell_of_row _ _ 18 _ _ _ R0.out
  simp only [List.getElem?_toArray, List.getElem?_cons_zero, List.getElem?_cons_succ] at c18
  go_wp2_with fail
  refine (Ccl.out _).mono ?_
  rintro e w1 ⟨rfl, rfl⟩
  cases bl
  · go_wp2
    go_ret
    exact ⟨ret_bv HV rfl, B0.out⟩
  · go_wp2_with (first | refine wpList_load_row rfl 33 (.tmp 1) rfl w.heap.size rfl 33 #[.int .i64 op, .int .i64 sz, .int .i64 cd, .int .i64 fr, .int .i64 d.k, .int .i64 d.r, .int .i64 d.b, .int .i64 d.i, .int .i64 d.s, .int .i64 d.d, .int .i64 d.m, .int .i64 s.k, .int .i64 s.r, .int .i64 s.b, .int .i64 s.i, .int .i64 s.s, .int .i64 s.d, .int .i64 s.m, .int .i64 ln] (0, 0) _ R0.out Tryz.underlying33 rfl (by kernel_rfl) ?_ | refine load_rowT (by rfl) 33 (.tmp 1) rfl w.heap.size rfl 33 #[.int .i64 op, .int .i64 sz, .int .i64 cd, .int .i64 fr, .int .i64 d.k, .int .i64 d.r, .int .i64 d.b, .int .i64 d.i, .int .i64 d.s, .int .i64 d.d, .int .i64 d.m, .int .i64 s.k, .int .i64 s.r, .int .i64 s.b, .int .i64 s.i, .int .i64 s.s, .int .i64 s.d, .int .i64 s.m, .int .i64 ln] (0, 0) _ R0.out Tryz.underlying33 rfl (by kernel_rfl) ?_)
    refine (Ccs.out _).mono ?_
    rintro e w1 ⟨rfl, hb⟩
    have B1 := Lib.hid (B0.out.trans (hb.mono B0.out.size))
    have R1 := Lib.hid ((hb.block _ (lt_of_blk R0.out)).trans R0.out)
    clear hb c0 c18
    cases bsh
    · go_wp2
      go_ret
      exact ⟨ret_bv HV rfl, B1.out⟩
    · have c0 := cell_of_row _ _ 0 _ _ _ R1.out
      have c3 := cell_of_row _ _ 3 _ _ _ R1.out
      simp only [List.getElem?_toArray, List.getElem?_cons_zero, List.getElem?_cons_succ] at c0 c3
      go_wp2
      go_ret
      exact ⟨ret_bv HV rfl, B1.out⟩
set_option maxRecDepth 100000 in
set_option maxHeartbeats 16000000 in
theorem okF2 (op sz cd fr : Int) (d s : Opd) (ln zs : Int) (bl bsh bcr bd bs a p b q wd : Bool) (v t8 : Bool) (w : World) (H : OkC op sz cd fr d s ln zs bl bsh bcr bd bs a p b q wd) (h8 : (sz != 8) = t8) (n26 : (op != 26) = false) (n33 : (op != 33) = true) (n35 : (op != 35) = true) (n36 : (op != 36) = true) (nc : (cd != 0) = true) (HV : Hid (v = false)) :
    Calls Tryz.prog 10 #[.agg #[.int .i64 op, .int .i64 sz, .int .i64 cd, .int .i64 fr, .int .i64 d.k, .int .i64 d.r, .int .i64 d.b, .int .i64 d.i, .int .i64 d.s, .int .i64 d.d, .int .i64 d.m, .int .i64 s.k, .int .i64 s.r, .int .i64 s.b, .int .i64 s.i, .int .i64 s.s, .int .i64 s.d, .int .i64 s.m, .int .i64 ln]] w fun e w' => e = .returned (.bool v) ∧ Below w.heap.size w w' := by
  have Cco := Lib.hid H.co
  have Ccl := Lib.hid H.cl
  have Ccs := Lib.hid H.cs
  have Ccc := Lib.hid H.cc
  have Ccz := Lib.hid H.cz
  have Cdd := Lib.hid H.cd'
  have Cce := Lib.hid H.ce
  have Ccr := Lib.hid H.cr
  have Ccq := Lib.hid H.cq
  have Ccw := Lib.hid H.cw
  clear H
  have R0 := Lib.hid (heap_alloc_new w (.cells #[.int .i64 op, .int .i64 sz, .int .i64 cd, .int .i64 fr, .int .i64 d.k, .int .i64 d.r, .int .i64 d.b, .int .i64 d.i, .int .i64 d.s, .int .i64 d.d, .int .i64 d.m, .int .i64 s.k, .int .i64 s.r, .int .i64 s.b, .int .i64 s.i, .int .i64 s.s, .int .i64 s.d, .int .i64 s.m, .int .i64 ln] 33))
  have B0 := Lib.hid (belA w (.cells #[.int .i64 op, .int .i64 sz, .int .i64 cd, .int .i64 fr, .int .i64 d.k, .int .i64 d.r, .int .i64 d.b, .int .i64 d.i, .int .i64 d.s, .int .i64 d.d, .int .i64 d.m, .int .i64 s.k, .int .i64 s.r, .int .i64 s.b, .int .i64 s.i, .int .i64 s.s, .int .i64 s.d, .int .i64 s.m, .int .i64 ln] 33))
  go_enter Tryz.func10, Tryz.ntmps10
  have c0 := cell_of_row _ _ 0 _ _ _ R0.out
  simp only [List.getElem?_toArray, List.getElem?_cons_zero, List.getElem?_cons_succ] at c0
  go_wp2_with fail
  refine (Cco.out _).mono ?_
  rintro e w1 ⟨rfl, rfl⟩
  have c18 := cell_of_row _ _ 18 _ _ _ R0.out
  simp only [List.getElem?_toArray, List.getElem?_cons_zero, List.getElem?_cons_succ] at c18
  go_wp2_with fail
  refine (Ccl.out _).mono ?_
  rintro e w1 ⟨rfl, rfl⟩
  cases bl
  · go_wp2
    go_ret
    exact ⟨ret_bv HV rfl, B0.out⟩
  · go_wp2_with (first | refine wpList_load_row rfl 33 (.tmp 1) rfl w.heap.size rfl 33 #[.int .i64 op, .int .i64 sz, .int .i64 cd, .int .i64 fr, .int .i64 d.k, .int .i64 d.r, .int .i64 d.b, .int .i64 d.i, .int .i64 d.s, .int .i64 d.d, .int .i64 d.m, .int .i64 s.k, .int .i64 s.r, .int .i64 s.b, .int .i64 s.i, .int .i64 s.s, .int .i64 s.d, .int .i64 s.m, .int .i64 ln] (0, 0) _ R0.out Tryz.underlying33 rfl (by kernel_rfl) ?_ | refine load_rowT (by rfl) 33 (.tmp 1) rfl w.heap.size rfl 33 #[.int .i64 op, .int .i64 sz, .int .i64 cd, .int .i64 fr, .int .i64 d.k, .int .i64 d.r, .int .i64 d.b, .int .i64 d.i, .int .i64 d.s, .int .i64 d.d, .int .i64 d.m, .int .i64 s.k, .int .i64 s.r, .int .i64 s.b, .int .i64 s.i, .int .i64 s.s, .int .i64 s.d, .int .i64 s.m, .int .i64 ln] (0, 0) _ R0.out Tryz.underlying33 rfl (by kernel_rfl) ?_)
    refine (Ccs.out _).mono ?_
    rintro e w1 ⟨rfl, hb⟩
    have B1 := Lib.hid (B0.out.trans (hb.mono B0.out.size))
    have R1 := Lib.hid ((hb.block _ (lt_of_blk R0.out)).trans R0.out)
    clear hb c0 c18
    cases bsh
    · go_wp2
      go_ret
      exact ⟨ret_bv HV rfl, B1.out⟩
    · have c0 := cell_of_row _ _ 0 _ _ _ R1.out
      have c2 := cell_of_row _ _ 2 _ _ _ R1.out
      have c3 := cell_of_row _ _ 3 _ _ _ R1.out
      simp only [List.getElem?_toArray, List.getElem?_cons_zero, List.getElem?_cons_succ] at c0 c2 c3
      go_wp2
      go_ret
      exact ⟨ret_bv HV rfl, B1.out⟩
set_option maxRecDepth 100000 in
set_option maxHeartbeats 16000000 in
theorem okF3 (op sz cd fr : Int) (d s : Opd) (ln zs : Int) (bl bsh bcr bd bs a p b q wd : Bool) (v t8 : Bool) (w : World) (H : OkC op sz cd fr d s ln zs bl bsh bcr bd bs a p b q wd) (h8 : (sz != 8) = t8) (n26 : (op != 26) = true) (n27 : (op != 27) = false) (n33 : (op != 33) = true) (n35 : (op != 35) = true) (n36 : (op != 36) = true) (nc : (cd != 0) = true) (HV : Hid (v = false)) :
    Calls Tryz.prog 10 #[.agg #[.int .i64 op, .int .i64 sz, .int .i64 cd, .int .i64 fr, .int .i64 d.k, .int .i64 d.r, .int .i64 d.b, .int .i64 d.i, .int .i64 d.s, .int .i64 d.d, .int .i64 d.m, .int .i64 s.k, .int .i64 s.r, .int .i64 s.b, .int .i64 s.i, .int .i64 s.s, .int .i64 s.d, .int .i64 s.m, .int .i64 ln]] w fun e w' => e = .returned (.bool v) ∧ Below w.heap.size w w' := by
  have Cco := Lib.hid H.co
  have Ccl := Lib.hid H.cl
  have Ccs := Lib.hid H.cs
  have Ccc := Lib.hid H.cc
  have Ccz := Lib.hid H.cz
  have Cdd := Lib.hid H.cd'
  have Cce := Lib.hid H.ce
  have Ccr := Lib.hid H.cr
  have Ccq := Lib.hid H.cq
  have Ccw := Lib.hid H.cw
  clear H
  have R0 := Lib.hid (heap_alloc_new w (.cells #[.int .i64 op, .int .i64 sz, .int .i64 cd, .int .i64 fr, .int .i64 d.k, .int .i64 d.r, .int .i64 d.b, .int .i64 d.i, .int .i64 d.s, .int .i64 d.d, .int .i64 d.m, .int .i64 s.k, .int .i64 s.r, .int .i64 s.b, .int .i64 s.i, .int .i64 s.s, .int .i64 s.d, .int .i64 s.m, .int .i64 ln] 33))
  have B0 := Lib.hid (belA w (.cells #[.int .i64 op, .int .i64 sz, .int .i64 cd, .int .i64 fr, .int .i64 d.k, .int .i64 d.r, .int .i64 d.b, .int .i64 d.i, .int .i64 d.s, .int .i64 d.d, .int .i64 d.m, .int .i64 s.k, .int .i64 s.r, .int .i64 s.b, .int .i64 s.i, .int .i64 s.s, .int .i64 s.d, .int .i64 s.m, .int .i64 ln] 33))
  go_enter Tryz.func10, Tryz.ntmps10
  have c0 := cell_of_row _ _ 0 _ _ _ R0.out
  simp only [List.getElem?_toArray, List.getElem?_cons_zero, List.getElem?_cons_succ] at c0
  go_wp2_with fail
  refine (Cco.out _).mono ?_
  rintro e w1 ⟨rfl, rfl⟩
  have c18 := cell_of_row _ _ 18 _ _ _ R0.out
  simp only [List.getElem?_toArray, List.getElem?_cons_zero, List.getElem?_cons_succ] at c18
  go_wp2_with fail
  refine (Ccl.out _).mono ?_
  rintro e w1 ⟨rfl, rfl⟩
  cases bl
  · go_wp2
    go_ret
    exact ⟨ret_bv HV rfl, B0.out⟩
  · go_wp2_with (first | refine wpList_load_row rfl 33 (.tmp 1) rfl w.heap.size rfl 33 #[.int .i64 op, .int .i64 sz, .int .i64 cd, .int .i64 fr, .int .i64 d.k, .int .i64 d.r, .int .i64 d.b, .int .i64 d.i, .int .i64 d.s, .int .i64 d.d, .int .i64 d.m, .int .i64 s.k, .int .i64 s.r, .int .i64 s.b, .int .i64 s.i, .int .i64 s.s, .int .i64 s.d, .int .i64 s.m, .int .i64 ln] (0, 0) _ R0.out Tryz.underlying33 rfl (by kernel_rfl) ?_ | refine load_rowT (by rfl) 33 (.tmp 1) rfl w.heap.size rfl 33 #[.int .i64 op, .int .i64 sz, .int .i64 cd, .int .i64 fr, .int .i64 d.k, .int .i64 d.r, .int .i64 d.b, .int .i64 d.i, .int .i64 d.s, .int .i64 d.d, .int .i64 d.m, .int .i64 s.k, .int .i64 s.r, .int .i64 s.b, .int .i64 s.i, .int .i64 s.s, .int .i64 s.d, .int .i64 s.m, .int .i64 ln] (0, 0) _ R0.out Tryz.underlying33 rfl (by kernel_rfl) ?_)
    refine (Ccs.out _).mono ?_
    rintro e w1 ⟨rfl, hb⟩
    have B1 := Lib.hid (B0.out.trans (hb.mono B0.out.size))
    have R1 := Lib.hid ((hb.block _ (lt_of_blk R0.out)).trans R0.out)
    clear hb c0 c18
    cases bsh
    · go_wp2
      go_ret
      exact ⟨ret_bv HV rfl, B1.out⟩
    · have c0 := cell_of_row _ _ 0 _ _ _ R1.out
      have c2 := cell_of_row _ _ 2 _ _ _ R1.out
      have c3 := cell_of_row _ _ 3 _ _ _ R1.out
      simp only [List.getElem?_toArray, List.getElem?_cons_zero, List.getElem?_cons_succ] at c0 c2 c3
      go_wp2
      go_ret
      exact ⟨ret_bv HV rfl, B1.out⟩
set_option maxRecDepth 100000 in
set_option maxHeartbeats 16000000 in
theorem okF4 (op sz cd fr : Int) (d s : Opd) (ln zs : Int) (bl bsh bcr bd bs a p b q wd : Bool) (v t8 : Bool) (w : World) (H : OkC op sz cd fr d s ln zs bl bsh bcr bd bs a p b q wd) (h8 : (sz != 8) = t8) (n26 : (op != 26) = true) (n27 : (op != 27) = true) (nf : (fr != 0) = false) (n33 : (op != 33) = true) (n35 : (op != 35) = true) (n36 : (op != 36) = true) (nc : (cd != 0) = true) (HV : Hid (v = false)) :
    Calls Tryz.prog 10 #[.agg #[.int .i64 op, .int .i64 sz, .int .i64 cd, .int .i64 fr, .int .i64 d.k, .int .i64 d.r, .int .i64 d.b, .int .i64 d.i, .int .i64 d.s, .int .i64 d.d, .int .i64 d.m, .int .i64 s.k, .int .i64 s.r, .int .i64 s.b, .int .i64 s.i, .int .i64 s.s, .int .i64 s.d, .int .i64 s.m, .int .i64 ln]] w fun e w' => e = .returned (.bool v) ∧ Below w.heap.size w w' := by
  have Cco := Lib.hid H.co
  have Ccl := Lib.hid H.cl
  have Ccs := Lib.hid H.cs
  have Ccc := Lib.hid H.cc
  have Ccz := Lib.hid H.cz
  have Cdd := Lib.hid H.cd'
  have Cce := Lib.hid H.ce
  have Ccr := Lib.hid H.cr
  have Ccq := Lib.hid H.cq
  have Ccw := Lib.hid H.cw
  clear H
  have R0 := Lib.hid (heap_alloc_new w (.cells #[.int .i64 op, .int .i64 sz, .int .i64 cd, .int .i64 fr, .int .i64 d.k, .int .i64 d.r, .int .i64 d.b, .int .i64 d.i, .int .i64 d.s, .int .i64 d.d, .int .i64 d.m, .int .i64 s.k, .int .i64 s.r, .int .i64 s.b, .int .i64 s.i, .int .i64 s.s, .int .i64 s.d, .int .i64 s.m, .int .i64 ln] 33))
  have B0 := Lib.hid (belA w (.cells #[.int .i64 op, .int .i64 sz, .int .i64 cd, .int .i64 fr, .int .i64 d.k, .int .i64 d.r, .int .i64 d.b, .int .i64 d.i, .int .i64 d.s, .int .i64 d.d, .int .i64 d.m, .int .i64 s.k, .int .i64 s.r, .int .i64 s.b, .int .i64 s.i, .int .i64 s.s, .int .i64 s.d, .int .i64 s.m, .int .i64 ln] 33))
  go_enter Tryz.func10, Tryz.ntmps10
  have c0 := cell_of_row _ _ 0 _ _ _ R0.out
  simp only [List.getElem?_toArray, List.getElem?_cons_zero, List.getElem?_cons_succ] at c0
  go_wp2_with fail
  refine (Cco.out _).mono ?_
  rintro e w1 ⟨rfl, rfl⟩
  have c18 := cell_of_row _ _ 18 _ _ _ R0.out
  simp only [List.getElem?_toArray, List.getElem?_cons_zero, List.getElem?_cons_succ] at c18
  go_wp2_with fail
  refine (Ccl.out _).mono ?_
  rintro e w1 ⟨rfl, rfl⟩
  cases bl
  · go_wp2
    go_ret
    exact ⟨ret_bv HV rfl, B0.out⟩
  · go_wp2_with (first | refine wpList_load_row rfl 33 (.tmp 1) rfl w.heap.size rfl 33 #[.int .i64 op, .int .i64 sz, .int .i64 cd, .int .i64 fr, .int .i64 d.k, .int .i64 d.r, .int .i64 d.b, .int .i64 d.i, .int .i64 d.s, .int .i64 d.d, .int .i64 d.m, .int .i64 s.k, .int .i64 s.r, .int .i64 s.b, .int .i64 s.i, .int .i64 s.s, .int .i64 s.d, .int .i64 s.m, .int .i64 ln] (0, 0) _ R0.out Tryz.underlying33 rfl (by kernel_rfl) ?_ | refine load_rowT (by rfl) 33 (.tmp 1) rfl w.heap.size rfl 33 #[.int .i64 op, .int .i64 sz, .int .i64 cd, .int .i64 fr, .int .i64 d.k, .int .i64 d.r, .int .i64 d.b, .int .i64 d.i, .int .i64 d.s, .int .i64 d.d, .int .i64 d.m, .int .i64 s.k, .int .i64 s.r, .int .i64 s.b, .int .i64 s.i, .int .i64 s.s, .int .i64 s.d, .int .i64 s.m, .int .i64 ln] (0, 0) _ R0.out Tryz.underlying33 rfl (by kernel_rfl) ?_)
    refine (Ccs.out _).mono ?_
    rintro e w1 ⟨rfl, hb⟩
    have B1 := Lib.hid (B0.out.trans (hb.mono B0.out.size))
    have R1 := Lib.hid ((hb.block _ (lt_of_blk R0.out)).trans R0.out)
    clear hb c0 c18
    cases bsh
    · go_wp2
      go_ret
      exact ⟨ret_bv HV rfl, B1.out⟩
    · have c0 := cell_of_row _ _ 0 _ _ _ R1.out
      have c2 := cell_of_row _ _ 2 _ _ _ R1.out
      have c3 := cell_of_row _ _ 3 _ _ _ R1.out
      simp only [List.getElem?_toArray, List.getElem?_cons_zero, List.getElem?_cons_succ] at c0 c2 c3
      go_wp2
      go_ret
      exact ⟨ret_bv HV rfl, B1.out⟩
theorem bne_t {a b : Int} (h : a ≠ b) : (a != b) = true := bne_iff_ne.mpr h
theorem bne_f {a b : Int} (h : a = b) : (a != b) = false := by rw [h]; exact bne_self_eq_false b
theorem okC5 (x : Ins) (w : World) : Calls Tryz.prog 10 #[.agg (insV x)] w fun e w' => e = .returned (.bool (okS x)) ∧ Below w.heap.size w w' := by
  by_cases hop : 1 ≤ x.op ∧ x.op ≤ 44
  · have H : OkC x.op x.sz x.cd x.fr x.d x.s x.ln (sS x) (decide (0 ≤ x.ln ∧ x.ln ≤ 15)) (shapeB x) (decide (0 ≤ x.cd ∧ x.cd ≤ 15)) (kindB x.d x.sz) (kindB x.s (sS x)) (rexA x.d x.sz) (rexB x.d) (rexA x.s (sS x)) (rexB x.s) (decide (widP x.op)) :=
      ⟨fun W => l03OpYes x.op W hop.1 hop.2, fun W => inS5 x.ln 0 15 W, fun W => shapeS5 x W hop.1 hop.2, fun W => inS5 x.cd 0 15 W, fun W => sizesS5 x W, fun W => kindS x.d x.sz W, fun W => kindS x.s (sS x) W, fun W => rexS5 x.d x.sz W, fun W => rexS5 x.s (sS x) W, fun W => wideS5 x.op W⟩
    have H8 : (x.sz != 8) = decide (x.sz ≠ 8) := by by_cases c : x.sz = 8 <;> simp [c]
    have V : okS x = (decide (0 ≤ x.ln ∧ x.ln ≤ 15) && (shapeB x && (!(decide (¬ extP x.op ∧ x.fr ≠ 0)) && ((!(decide (¬ condP x.op ∧ x.cd ≠ 0)) && decide (0 ≤ x.cd ∧ x.cd ≤ 15)) && (kindB x.d x.sz && (kindB x.s (sS x) && (!(rexB x.d || rexB x.s) || (!(rexA x.d x.sz) && (!(rexA x.s (sS x)) && (decide (x.sz ≠ 8) || decide (widP x.op))))))))))) := by
      unfold okS condS rexS; rw [decide_eq_true hop, Bool.true_and]
    have K : ∀ b1 b2 : Bool, b1 = false → b2 = false → decide (¬ extP x.op ∧ x.fr ≠ 0) = b1 → decide (¬ condP x.op ∧ x.cd ≠ 0) = b2 → Hid (okS x = (decide (0 ≤ x.ln ∧ x.ln ≤ 15) && (shapeB x && (decide (0 ≤ x.cd ∧ x.cd ≤ 15) && (kindB x.d x.sz && (kindB x.s (sS x) && (!(rexB x.d || rexB x.s) || (!(rexA x.d x.sz) && (!(rexA x.s (sS x)) && (decide (x.sz ≠ 8) || decide (widP x.op))))))))))) := by
      intro b1 b2 e1 e2 e3 e4
      subst e1 e2
      refine Lib.hid ?_
      rw [V, e3, e4, Bool.not_false, Bool.true_and, Bool.true_and]
    have KF : decide (¬ extP x.op ∧ x.fr ≠ 0) = true ∨ decide (¬ condP x.op ∧ x.cd ≠ 0) = true → Hid (okS x = false) := by
      intro h
      refine Lib.hid ?_
      rw [V]
      rcases h with h | h
      · rw [h]; simp
      · rw [h]; simp
    have c0 : ∀ n : Int, x.op ≠ n → (x.op != n) = true := fun n h => bne_t h
    by_cases e26 : x.op = 26
    · have nx : decide (¬ extP x.op ∧ x.fr ≠ 0) = false := decide_eq_false (fun e => e.1 (.inl e26))
      by_cases ec : x.cd = 0
      · exact okW1 x.op x.sz x.cd x.fr x.d x.s x.ln (sS x) _ _ _ _ _ _ _ _ _ _ _ _ w H H8 (bne_f e26) (bne_t (by omega)) (bne_t (by omega)) (bne_t (by omega)) (bne_f ec) (K _ _ rfl rfl nx (decide_eq_false (fun e => e.2 ec)))
      · exact okF2 x.op x.sz x.cd x.fr x.d x.s x.ln (sS x) _ _ _ _ _ _ _ _ _ _ _ _ w H H8 (bne_f e26) (bne_t (by omega)) (bne_t (by omega)) (bne_t (by omega)) (bne_t ec) (KF (.inr (decide_eq_true ⟨by unfold condP; omega, ec⟩)))
    by_cases e27 : x.op = 27
    · have nx : decide (¬ extP x.op ∧ x.fr ≠ 0) = false := decide_eq_false (fun e => e.1 (.inr e27))
      by_cases ec : x.cd = 0
      · exact okW2 x.op x.sz x.cd x.fr x.d x.s x.ln (sS x) _ _ _ _ _ _ _ _ _ _ _ _ w H H8 (bne_t e26) (bne_f e27) (bne_t (by omega)) (bne_t (by omega)) (bne_t (by omega)) (bne_f ec) (K _ _ rfl rfl nx (decide_eq_false (fun e => e.2 ec)))
      · exact okF3 x.op x.sz x.cd x.fr x.d x.s x.ln (sS x) _ _ _ _ _ _ _ _ _ _ _ _ w H H8 (bne_t e26) (bne_f e27) (bne_t (by omega)) (bne_t (by omega)) (bne_t (by omega)) (bne_t ec) (KF (.inr (decide_eq_true ⟨by unfold condP; omega, ec⟩)))
    by_cases ef : x.fr = 0
    · have nx : decide (¬ extP x.op ∧ x.fr ≠ 0) = false := decide_eq_false (fun e => e.2 ef)
      by_cases e33 : x.op = 33
      · exact okW3 x.op x.sz x.cd x.fr x.d x.s x.ln (sS x) _ _ _ _ _ _ _ _ _ _ _ _ w H H8 (bne_t e26) (bne_t e27) (bne_f ef) (bne_f e33) (K _ _ rfl rfl nx (decide_eq_false (fun e => e.1 (.inl e33))))
      by_cases e35 : x.op = 35
      · exact okW4 x.op x.sz x.cd x.fr x.d x.s x.ln (sS x) _ _ _ _ _ _ _ _ _ _ _ _ w H H8 (bne_t e26) (bne_t e27) (bne_f ef) (bne_t e33) (bne_f e35) (K _ _ rfl rfl nx (decide_eq_false (fun e => e.1 (.inr (.inl e35)))))
      by_cases e36 : x.op = 36
      · exact okW5 x.op x.sz x.cd x.fr x.d x.s x.ln (sS x) _ _ _ _ _ _ _ _ _ _ _ _ w H H8 (bne_t e26) (bne_t e27) (bne_f ef) (bne_t e33) (bne_t e35) (bne_f e36) (K _ _ rfl rfl nx (decide_eq_false (fun e => e.1 (.inr (.inr e36)))))
      by_cases ec : x.cd = 0
      · exact okW6 x.op x.sz x.cd x.fr x.d x.s x.ln (sS x) _ _ _ _ _ _ _ _ _ _ _ _ w H H8 (bne_t e26) (bne_t e27) (bne_f ef) (bne_t e33) (bne_t e35) (bne_t e36) (bne_f ec) (K _ _ rfl rfl nx (decide_eq_false (fun e => e.2 ec)))
      · exact okF4 x.op x.sz x.cd x.fr x.d x.s x.ln (sS x) _ _ _ _ _ _ _ _ _ _ _ _ w H H8 (bne_t e26) (bne_t e27) (bne_f ef) (bne_t e33) (bne_t e35) (bne_t e36) (bne_t ec) (KF (.inr (decide_eq_true ⟨by unfold condP; omega, ec⟩)))
    · exact okF1 x.op x.sz x.cd x.fr x.d x.s x.ln (sS x) _ _ _ _ _ _ _ _ _ _ _ _ w H H8 (bne_t e26) (bne_t e27) (bne_t ef) (KF (.inl (decide_eq_true ⟨by unfold extP; omega, ef⟩)))
  · have e : okS x = false := by unfold okS; rw [decide_eq_false hop]; rfl
    rw [e]; exact okOut x w hop
end Go.Proofs.YtjnjlgaemmdkhaaGreatDoor
