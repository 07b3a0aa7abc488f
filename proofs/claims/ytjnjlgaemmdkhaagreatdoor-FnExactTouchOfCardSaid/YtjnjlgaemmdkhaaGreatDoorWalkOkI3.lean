/-
  What operandsOK, needsRex and InstrOK of impl do; conditions: those in each head.
-/
import Derived.Test.YtjnjlgaemmdkhaaGreatDoorWalkOkI2
namespace Go.Proofs.YtjnjlgaemmdkhaaGreatDoor
open Go.RowKit Go.Sort
set_option linter.unusedVariables false
set_option linter.unusedSimpArgs false
/-- a load of a struct that a guard lets through -/
theorem load_rowG {P : Program} {ops : Array Oper} {rest : List Oper} {o : Oper} {a : Act} {w : World} {Q : Exit → Act → World → Prop} (hw : Region.wanted o (yielded ops a.tmps) = true) (ty : TypeId) (x : Operand) (ho : o.op = .load ty x)
    (g : Nat) (hx : a.eval x = .pointer (some ⟨g, 0, none⟩)) (t : TypeId) (cs : Array Value) (fr : Nat × Nat) (d : TypeDesc) (hg : w.heap[g]? = some (.cells cs t fr))
    (hu : P.underlying ty = some d) (hd : (match d with | .struct _ | .array _ _ => true | _ => false) = true) (hi : (P.info? ty).map (·.size) = some cs.size)
    (h : wpList P ops Q rest (a.put o.dst (.agg cs)) w) : wpList P ops Q (o :: rest) a w :=
  wpList_step fun K hK => by rw [if_pos hw]; exact wp_load_row ty x ho g hx t cs fr d hg hu hd hi (hK _ _ h)
/-- what the operands of an instruction must be -/
def opsK (x : Ins) : Bool := opdB x.d (szD x) && (opdB x.s (szS x) && (!(decide (shP x.op ∧ x.s.k = 1 ∧ x.s.r ≠ 1)) && (szK (patOf x.op).m x.sz && kinK (patOf x.op).k x.d.k x.s.k)))
def needK (x : Ins) : Bool := wideK x.op x.sz || (askK x.d (szD x) || askK x.s (szS x))
def insK (x : Ins) : Bool := decide (0 ≤ x.ln ∧ x.ln ≤ 15) && (condK x.op x.cd && (fromK x.op x.sz x.fr && (opsK x && (numK x && (!needK x || (!highK x.d && !highK x.s))))))
theorem opd_kind {x : Opd} {z : Int} (h : opdB x z = true) : x.k = 0 ∨ x.k = 1 ∨ x.k = 2 ∨ x.k = 3 := by
  have h := of_decide_eq_true h
  have h2 := h.2
  by_cases h1 : x.k = 1
  · exact .inr (.inl h1)
  · by_cases h3 : x.k = 2
    · exact .inr (.inr (.inl h3))
    · by_cases h4 : x.k = 3
      · exact .inr (.inr (.inr h4))
      · rw [if_neg h1, if_neg h3, if_neg h4] at h2
        rw [h2]; exact .inl rfl
theorem pat_ok (op : Int) : maskP (patOf op).m ∧ (patOf op).k.size < 4294967281 := by
  unfold patOf
  split
  · rename_i h
    have : ∀ i, i < 44 → maskP (patL.getD i ⟨0, ⟨#[]⟩⟩).m ∧ (patL.getD i ⟨0, ⟨#[]⟩⟩).k.size < 4294967281 := by unfold maskP; decide +kernel
    exact this _ (by omega)
  · exact ⟨.inl rfl, by decide⟩
/-- what the tables and variables give -/
structure Env (w : World) (aR : Addr) : Prop where
  s : SentR w aR
  r : Regs w
  c : Nms w 0 condsL
  m : MaxL w
theorem Env.below {w w' : World} {aR : Addr} (h : Env w aR) (hb : Below w.heap.size w w') : Env w' aR := ⟨h.s.below hb, h.r.below hb, h.c.below hb, h.m.below hb⟩
set_option maxRecDepth 100000 in
set_option maxHeartbeats 4000000 in
theorem opsC (x : Ins) (w : World) (aR : Addr) (he : Env w aR) : Calls Tryz.prog 32 #[.agg (insV x)] w fun e w' => e = .returned (.bool (opsK x)) ∧ Below w.heap.size w w' := by
  have CS := Lib.hid (sizesC x)
  have CD := Lib.hid (fun W (h : Below w.heap.size w W) => operandI x.d (szD x) W (he.below h).r aR (he.below h).s)
  have CE := Lib.hid (fun W (h : Below w.heap.size w W) => operandI x.s (szS x) W (he.below h).r aR (he.below h).s)
  have CH := Lib.hid (isShiftC x.op)
  have CP := Lib.hid (patC x.op)
  have hp := pat_ok x.op
  have CZ := Lib.hid (fun W (h : Below w.heap.size w W) => hasSizeC (patOf x.op).m x.sz (patOf x.op).k W aR (he.below h).s hp.1)
  have CK := Lib.hid (fun W (h : Below w.heap.size w W) (h1 : x.d.k = 0 ∨ x.d.k = 1 ∨ x.d.k = 2 ∨ x.d.k = 3) (h2 : x.s.k = 0 ∨ x.s.k = 1 ∨ x.s.k = 2 ∨ x.s.k = 3) => kindsC (patOf x.op).m (patOf x.op).k x.d x.s W hp.2 (he.below h).m h1 h2)
  have KD := Lib.hid (@opd_kind x.d (szD x)); have KS := Lib.hid (@opd_kind x.s (szS x))
  have HA : Hid (opsK x = (opdB x.d (szD x) && (opdB x.s (szS x) && (!(decide (shP x.op ∧ x.s.k = 1 ∧ x.s.r ≠ 1)) && (szK (patOf x.op).m x.sz && kinK (patOf x.op).k x.d.k x.s.k))))) := Lib.hid rfl
  clear hp
  obtain ⟨b1, h1⟩ : ∃ v, v = opdB x.d (szD x) := ⟨_, rfl⟩
  obtain ⟨b2, h2⟩ : ∃ v, v = opdB x.s (szS x) := ⟨_, rfl⟩
  obtain ⟨b4, h4⟩ : ∃ v, v = szK (patOf x.op).m x.sz := ⟨_, rfl⟩
  obtain ⟨b5, h5⟩ : ∃ v, v = kinK (patOf x.op).k x.d.k x.s.k := ⟨_, rfl⟩
  rw [← h1] at CD KD HA; rw [← h2] at CE KS HA; rw [← h4] at CZ HA; rw [← h5] at CK HA
  clear h1 h2 h4 h5
  obtain ⟨zd, hzd⟩ : ∃ v, v = szD x := ⟨_, rfl⟩
  obtain ⟨zs, hzs⟩ : ∃ v, v = szS x := ⟨_, rfl⟩
  rw [← hzd, ← hzs] at CS; rw [← hzd] at CD; rw [← hzs] at CE
  clear hzd hzs
  obtain ⟨K, hK⟩ : ∃ v, v = (patOf x.op).k := ⟨_, rfl⟩
  obtain ⟨m, hm⟩ : ∃ v, v = (patOf x.op).m := ⟨_, rfl⟩
  rw [← hK, ← hm] at CP CZ CK
  clear hK hm
  obtain ⟨op, sz, cd, fr, d, s, ln⟩ := x
  have R0 := Lib.hid (heap_alloc_new w (.cells #[.int .i64 op, .int .i64 sz, .int .i64 cd, .int .i64 fr, .int .i64 d.k, .int .i64 d.r, .int .i64 d.b, .int .i64 d.i, .int .i64 d.s, .int .i64 d.d, .int .i64 d.m, .int .i64 s.k, .int .i64 s.r, .int .i64 s.b, .int .i64 s.i, .int .i64 s.s, .int .i64 s.d, .int .i64 s.m, .int .i64 ln] 33))
  have B0 := Lib.hid (belA w (.cells #[.int .i64 op, .int .i64 sz, .int .i64 cd, .int .i64 fr, .int .i64 d.k, .int .i64 d.r, .int .i64 d.b, .int .i64 d.i, .int .i64 d.s, .int .i64 d.d, .int .i64 d.m, .int .i64 s.k, .int .i64 s.r, .int .i64 s.b, .int .i64 s.i, .int .i64 s.s, .int .i64 s.d, .int .i64 s.m, .int .i64 ln] 33))
  simp only at CS CD CE CH CP CZ CK KD KS HA
  unfold insV insA
  simp only
  cases b1
  case false =>
    rw [show opsK ⟨op, sz, cd, fr, d, s, ln⟩ = false from HA.out]
    clear HA he
    go_enter Tryz.func32, Tryz.ntmps32
    go_wp2_with (first | refine wpList_load_row rfl 33 (.tmp 1) rfl w.heap.size rfl 33 #[.int .i64 op, .int .i64 sz, .int .i64 cd, .int .i64 fr, .int .i64 d.k, .int .i64 d.r, .int .i64 d.b, .int .i64 d.i, .int .i64 d.s, .int .i64 d.d, .int .i64 d.m, .int .i64 s.k, .int .i64 s.r, .int .i64 s.b, .int .i64 s.i, .int .i64 s.s, .int .i64 s.d, .int .i64 s.m, .int .i64 ln] (0, 0) _ R0.out Tryz.underlying33 rfl (by kernel_rfl) ?_ | refine load_rowG (by rfl) 33 (.tmp 1) rfl w.heap.size rfl 33 #[.int .i64 op, .int .i64 sz, .int .i64 cd, .int .i64 fr, .int .i64 d.k, .int .i64 d.r, .int .i64 d.b, .int .i64 d.i, .int .i64 d.s, .int .i64 d.d, .int .i64 d.m, .int .i64 s.k, .int .i64 s.r, .int .i64 s.b, .int .i64 s.i, .int .i64 s.s, .int .i64 s.d, .int .i64 s.m, .int .i64 ln] (0, 0) _ R0.out Tryz.underlying33 rfl (by kernel_rfl) ?_)
    refine (CS.out _).mono ?_
    rintro e w1 ⟨rfl, hb⟩
    have R1 := Lib.hid ((hb.block _ (lt_of_blk R0.out)).trans R0.out)
    have B1 := Lib.hid (B0.out.trans (hb.mono B0.out.size))
    clear hb
    have c4 := cell_of_row _ _ 4 _ _ _ R1.out
    have c5 := cell_of_row _ _ 5 _ _ _ R1.out
    have c6 := cell_of_row _ _ 6 _ _ _ R1.out
    have c7 := cell_of_row _ _ 7 _ _ _ R1.out
    have c8 := cell_of_row _ _ 8 _ _ _ R1.out
    have c9 := cell_of_row _ _ 9 _ _ _ R1.out
    have c10 := cell_of_row _ _ 10 _ _ _ R1.out
    simp only [List.getElem?_toArray, List.getElem?_cons_zero, List.getElem?_cons_succ] at c4 c5 c6 c7 c8 c9 c10
    go_wp2_with fail
    refine (CD.out _ B1.out).mono ?_
    rintro e w2 ⟨rfl, hb⟩
    have R2 := Lib.hid ((hb.block _ (lt_of_blk R1.out)).trans R1.out)
    have B2 := Lib.hid (B1.out.trans (hb.mono B1.out.size))
    clear hb
    clear c4 c5 c6 c7 c8 c9 c10
    go_wp2
    go_ret
    exact ⟨rfl, B2.out⟩
  case true =>
    cases b2
    case false =>
      rw [show opsK ⟨op, sz, cd, fr, d, s, ln⟩ = false from HA.out]
      clear HA he
      go_enter Tryz.func32, Tryz.ntmps32
      go_wp2_with (first | refine wpList_load_row rfl 33 (.tmp 1) rfl w.heap.size rfl 33 #[.int .i64 op, .int .i64 sz, .int .i64 cd, .int .i64 fr, .int .i64 d.k, .int .i64 d.r, .int .i64 d.b, .int .i64 d.i, .int .i64 d.s, .int .i64 d.d, .int .i64 d.m, .int .i64 s.k, .int .i64 s.r, .int .i64 s.b, .int .i64 s.i, .int .i64 s.s, .int .i64 s.d, .int .i64 s.m, .int .i64 ln] (0, 0) _ R0.out Tryz.underlying33 rfl (by kernel_rfl) ?_ | refine load_rowG (by rfl) 33 (.tmp 1) rfl w.heap.size rfl 33 #[.int .i64 op, .int .i64 sz, .int .i64 cd, .int .i64 fr, .int .i64 d.k, .int .i64 d.r, .int .i64 d.b, .int .i64 d.i, .int .i64 d.s, .int .i64 d.d, .int .i64 d.m, .int .i64 s.k, .int .i64 s.r, .int .i64 s.b, .int .i64 s.i, .int .i64 s.s, .int .i64 s.d, .int .i64 s.m, .int .i64 ln] (0, 0) _ R0.out Tryz.underlying33 rfl (by kernel_rfl) ?_)
      refine (CS.out _).mono ?_
      rintro e w1 ⟨rfl, hb⟩
      have R1 := Lib.hid ((hb.block _ (lt_of_blk R0.out)).trans R0.out)
      have B1 := Lib.hid (B0.out.trans (hb.mono B0.out.size))
      clear hb
      have c4 := cell_of_row _ _ 4 _ _ _ R1.out
      have c5 := cell_of_row _ _ 5 _ _ _ R1.out
      have c6 := cell_of_row _ _ 6 _ _ _ R1.out
      have c7 := cell_of_row _ _ 7 _ _ _ R1.out
      have c8 := cell_of_row _ _ 8 _ _ _ R1.out
      have c9 := cell_of_row _ _ 9 _ _ _ R1.out
      have c10 := cell_of_row _ _ 10 _ _ _ R1.out
      simp only [List.getElem?_toArray, List.getElem?_cons_zero, List.getElem?_cons_succ] at c4 c5 c6 c7 c8 c9 c10
      go_wp2_with fail
      refine (CD.out _ B1.out).mono ?_
      rintro e w2 ⟨rfl, hb⟩
      have R2 := Lib.hid ((hb.block _ (lt_of_blk R1.out)).trans R1.out)
      have B2 := Lib.hid (B1.out.trans (hb.mono B1.out.size))
      clear hb
      clear c4 c5 c6 c7 c8 c9 c10
      have c11 := cell_of_row _ _ 11 _ _ _ R2.out
      have c12 := cell_of_row _ _ 12 _ _ _ R2.out
      have c13 := cell_of_row _ _ 13 _ _ _ R2.out
      have c14 := cell_of_row _ _ 14 _ _ _ R2.out
      have c15 := cell_of_row _ _ 15 _ _ _ R2.out
      have c16 := cell_of_row _ _ 16 _ _ _ R2.out
      have c17 := cell_of_row _ _ 17 _ _ _ R2.out
      simp only [List.getElem?_toArray, List.getElem?_cons_zero, List.getElem?_cons_succ] at c11 c12 c13 c14 c15 c16 c17
      go_wp2_with fail
      refine (CE.out _ B2.out).mono ?_
      rintro e w3 ⟨rfl, hb⟩
      have R3 := Lib.hid ((hb.block _ (lt_of_blk R2.out)).trans R2.out)
      have B3 := Lib.hid (B2.out.trans (hb.mono B2.out.size))
      clear hb
      clear c11 c12 c13 c14 c15 c16 c17
      go_wp2
      go_ret
      exact ⟨rfl, B3.out⟩
    case true =>
      have q : (shP op ∧ s.k = 1 ∧ s.r ≠ 1) ∨ (¬ (shP op ∧ s.k = 1 ∧ s.r ≠ 1) ∧ (¬ shP op ∨ (shP op ∧ s.k ≠ 1) ∨ (shP op ∧ s.k = 1 ∧ s.r = 1))) := by
        by_cases a1 : shP op
        · by_cases a2 : s.k = 1
          · by_cases a3 : s.r = 1
            · exact .inr ⟨fun e => e.2.2 a3, .inr (.inr ⟨a1, a2, a3⟩)⟩
            · exact .inl ⟨a1, a2, a3⟩
          · exact .inr ⟨fun e => a2 e.2.1, .inr (.inl ⟨a1, a2⟩)⟩
        · exact .inr ⟨fun e => a1 e.1, .inl a1⟩
      rcases q with q | ⟨hq, q⟩
      · have HA2 : Hid (opsK ⟨op, sz, cd, fr, d, s, ln⟩ = false) := Lib.hid (by rw [HA.out, decide_eq_true q]; rfl)
        rw [HA2.out]
        clear HA he
        rw [decide_eq_true q.1] at CH
        have Q2 := Lib.hid q.2.1
        have Q3 : Hid ((s.r != 1) = true) := Lib.hid (bne_iff_ne.mpr q.2.2)
        clear q
        go_enter Tryz.func32, Tryz.ntmps32
        go_wp2_with (first | refine wpList_load_row rfl 33 (.tmp 1) rfl w.heap.size rfl 33 #[.int .i64 op, .int .i64 sz, .int .i64 cd, .int .i64 fr, .int .i64 d.k, .int .i64 d.r, .int .i64 d.b, .int .i64 d.i, .int .i64 d.s, .int .i64 d.d, .int .i64 d.m, .int .i64 s.k, .int .i64 s.r, .int .i64 s.b, .int .i64 s.i, .int .i64 s.s, .int .i64 s.d, .int .i64 s.m, .int .i64 ln] (0, 0) _ R0.out Tryz.underlying33 rfl (by kernel_rfl) ?_ | refine load_rowG (by rfl) 33 (.tmp 1) rfl w.heap.size rfl 33 #[.int .i64 op, .int .i64 sz, .int .i64 cd, .int .i64 fr, .int .i64 d.k, .int .i64 d.r, .int .i64 d.b, .int .i64 d.i, .int .i64 d.s, .int .i64 d.d, .int .i64 d.m, .int .i64 s.k, .int .i64 s.r, .int .i64 s.b, .int .i64 s.i, .int .i64 s.s, .int .i64 s.d, .int .i64 s.m, .int .i64 ln] (0, 0) _ R0.out Tryz.underlying33 rfl (by kernel_rfl) ?_)
        refine (CS.out _).mono ?_
        rintro e w1 ⟨rfl, hb⟩
        have R1 := Lib.hid ((hb.block _ (lt_of_blk R0.out)).trans R0.out)
        have B1 := Lib.hid (B0.out.trans (hb.mono B0.out.size))
        clear hb
        have c4 := cell_of_row _ _ 4 _ _ _ R1.out
        have c5 := cell_of_row _ _ 5 _ _ _ R1.out
        have c6 := cell_of_row _ _ 6 _ _ _ R1.out
        have c7 := cell_of_row _ _ 7 _ _ _ R1.out
        have c8 := cell_of_row _ _ 8 _ _ _ R1.out
        have c9 := cell_of_row _ _ 9 _ _ _ R1.out
        have c10 := cell_of_row _ _ 10 _ _ _ R1.out
        simp only [List.getElem?_toArray, List.getElem?_cons_zero, List.getElem?_cons_succ] at c4 c5 c6 c7 c8 c9 c10
        go_wp2_with fail
        refine (CD.out _ B1.out).mono ?_
        rintro e w2 ⟨rfl, hb⟩
        have R2 := Lib.hid ((hb.block _ (lt_of_blk R1.out)).trans R1.out)
        have B2 := Lib.hid (B1.out.trans (hb.mono B1.out.size))
        clear hb
        clear c4 c5 c6 c7 c8 c9 c10
        have c11 := cell_of_row _ _ 11 _ _ _ R2.out
        have c12 := cell_of_row _ _ 12 _ _ _ R2.out
        have c13 := cell_of_row _ _ 13 _ _ _ R2.out
        have c14 := cell_of_row _ _ 14 _ _ _ R2.out
        have c15 := cell_of_row _ _ 15 _ _ _ R2.out
        have c16 := cell_of_row _ _ 16 _ _ _ R2.out
        have c17 := cell_of_row _ _ 17 _ _ _ R2.out
        simp only [List.getElem?_toArray, List.getElem?_cons_zero, List.getElem?_cons_succ] at c11 c12 c13 c14 c15 c16 c17
        go_wp2_with fail
        refine (CE.out _ B2.out).mono ?_
        rintro e w3 ⟨rfl, hb⟩
        have R3 := Lib.hid ((hb.block _ (lt_of_blk R2.out)).trans R2.out)
        have B3 := Lib.hid (B2.out.trans (hb.mono B2.out.size))
        clear hb
        clear c11 c12 c13 c14 c15 c16 c17
        have c0 := cell_of_row _ _ 0 _ _ _ R3.out
        have c11 := cell_of_row _ _ 11 _ _ _ R3.out
        have c12 := cell_of_row _ _ 12 _ _ _ R3.out
        simp only [List.getElem?_toArray, List.getElem?_cons_zero, List.getElem?_cons_succ] at c0 c11 c12
        go_wp2_with fail
        refine (CH.out _).mono ?_
        rintro e w4 ⟨rfl, rfl⟩
        rw [Q2.out] at c11
        have q3 := Q3.out
        go_wp2
        go_ret
        exact ⟨rfl, B3.out⟩
      · rw [decide_eq_false hq] at HA
        clear hq
        rcases q with q | ⟨q, q2⟩ | ⟨q, q2, q3⟩
        · rw [decide_eq_false q] at CH
          clear q
          cases b4
          case false =>
            rw [show opsK ⟨op, sz, cd, fr, d, s, ln⟩ = false from HA.out]
            clear HA he
            go_enter Tryz.func32, Tryz.ntmps32
            go_wp2_with (first | refine wpList_load_row rfl 33 (.tmp 1) rfl w.heap.size rfl 33 #[.int .i64 op, .int .i64 sz, .int .i64 cd, .int .i64 fr, .int .i64 d.k, .int .i64 d.r, .int .i64 d.b, .int .i64 d.i, .int .i64 d.s, .int .i64 d.d, .int .i64 d.m, .int .i64 s.k, .int .i64 s.r, .int .i64 s.b, .int .i64 s.i, .int .i64 s.s, .int .i64 s.d, .int .i64 s.m, .int .i64 ln] (0, 0) _ R0.out Tryz.underlying33 rfl (by kernel_rfl) ?_ | refine load_rowG (by rfl) 33 (.tmp 1) rfl w.heap.size rfl 33 #[.int .i64 op, .int .i64 sz, .int .i64 cd, .int .i64 fr, .int .i64 d.k, .int .i64 d.r, .int .i64 d.b, .int .i64 d.i, .int .i64 d.s, .int .i64 d.d, .int .i64 d.m, .int .i64 s.k, .int .i64 s.r, .int .i64 s.b, .int .i64 s.i, .int .i64 s.s, .int .i64 s.d, .int .i64 s.m, .int .i64 ln] (0, 0) _ R0.out Tryz.underlying33 rfl (by kernel_rfl) ?_)
            refine (CS.out _).mono ?_
            rintro e w1 ⟨rfl, hb⟩
            have R1 := Lib.hid ((hb.block _ (lt_of_blk R0.out)).trans R0.out)
            have B1 := Lib.hid (B0.out.trans (hb.mono B0.out.size))
            clear hb
            have c4 := cell_of_row _ _ 4 _ _ _ R1.out
            have c5 := cell_of_row _ _ 5 _ _ _ R1.out
            have c6 := cell_of_row _ _ 6 _ _ _ R1.out
            have c7 := cell_of_row _ _ 7 _ _ _ R1.out
            have c8 := cell_of_row _ _ 8 _ _ _ R1.out
            have c9 := cell_of_row _ _ 9 _ _ _ R1.out
            have c10 := cell_of_row _ _ 10 _ _ _ R1.out
            simp only [List.getElem?_toArray, List.getElem?_cons_zero, List.getElem?_cons_succ] at c4 c5 c6 c7 c8 c9 c10
            go_wp2_with fail
            refine (CD.out _ B1.out).mono ?_
            rintro e w2 ⟨rfl, hb⟩
            have R2 := Lib.hid ((hb.block _ (lt_of_blk R1.out)).trans R1.out)
            have B2 := Lib.hid (B1.out.trans (hb.mono B1.out.size))
            clear hb
            clear c4 c5 c6 c7 c8 c9 c10
            have c11 := cell_of_row _ _ 11 _ _ _ R2.out
            have c12 := cell_of_row _ _ 12 _ _ _ R2.out
            have c13 := cell_of_row _ _ 13 _ _ _ R2.out
            have c14 := cell_of_row _ _ 14 _ _ _ R2.out
            have c15 := cell_of_row _ _ 15 _ _ _ R2.out
            have c16 := cell_of_row _ _ 16 _ _ _ R2.out
            have c17 := cell_of_row _ _ 17 _ _ _ R2.out
            simp only [List.getElem?_toArray, List.getElem?_cons_zero, List.getElem?_cons_succ] at c11 c12 c13 c14 c15 c16 c17
            go_wp2_with fail
            refine (CE.out _ B2.out).mono ?_
            rintro e w3 ⟨rfl, hb⟩
            have R3 := Lib.hid ((hb.block _ (lt_of_blk R2.out)).trans R2.out)
            have B3 := Lib.hid (B2.out.trans (hb.mono B2.out.size))
            clear hb
            clear c11 c12 c13 c14 c15 c16 c17
            have c0 := cell_of_row _ _ 0 _ _ _ R3.out
            have c11 := cell_of_row _ _ 11 _ _ _ R3.out
            have c12 := cell_of_row _ _ 12 _ _ _ R3.out
            simp only [List.getElem?_toArray, List.getElem?_cons_zero, List.getElem?_cons_succ] at c0 c11 c12
            go_wp2_with fail
            refine (CH.out _).mono ?_
            rintro e w4 ⟨rfl, rfl⟩
            go_wp2_with fail
            refine (CP.out _).mono ?_
            rintro e w5 ⟨rfl, hb⟩
            have R5 := Lib.hid ((hb.block _ (lt_of_blk R3.out)).trans R3.out)
            have B5 := Lib.hid (B3.out.trans (hb.mono B3.out.size))
            clear hb
            clear c0 c11 c12
            try clear q3
            have l5 := lt_of_blk R5.out
            have P5 := Lib.hid (heap_alloc_new w5 (.cells #[.int .i64 m, .string K] 70))
            have R5a := Lib.hid ((Below.heap_alloc w5 (.cells #[.int .i64 m, .string K] 70) w.heap.size (by omega)).trans R5.out)
            have B5a := Lib.hid (B5.out.alloc B5.out.size (.cells #[.int .i64 m, .string K] 70))
            have c1 := cell_of_row _ _ 1 _ _ _ R5.out
            simp only [List.getElem?_toArray, List.getElem?_cons_zero, List.getElem?_cons_succ] at c1
            go_wp2_with fail
            refine (CZ.out _ B5a.out).mono ?_
            rintro e w6 ⟨rfl, hb⟩
            have R6 := Lib.hid ((hb.block _ (lt_of_blk R5a.out)).trans R5a.out)
            have P6 := Lib.hid ((hb.block _ (lt_of_blk P5.out)).trans P5.out)
            have B6 := Lib.hid (B5a.out.trans (hb.mono B5a.out.size))
            clear hb
            clear c1 l5
            go_wp2
            go_ret
            exact ⟨rfl, B6.out⟩
          case true =>
            rw [show opsK ⟨op, sz, cd, fr, d, s, ln⟩ = b5 from HA.out]
            clear HA he
            go_enter Tryz.func32, Tryz.ntmps32
            go_wp2_with (first | refine wpList_load_row rfl 33 (.tmp 1) rfl w.heap.size rfl 33 #[.int .i64 op, .int .i64 sz, .int .i64 cd, .int .i64 fr, .int .i64 d.k, .int .i64 d.r, .int .i64 d.b, .int .i64 d.i, .int .i64 d.s, .int .i64 d.d, .int .i64 d.m, .int .i64 s.k, .int .i64 s.r, .int .i64 s.b, .int .i64 s.i, .int .i64 s.s, .int .i64 s.d, .int .i64 s.m, .int .i64 ln] (0, 0) _ R0.out Tryz.underlying33 rfl (by kernel_rfl) ?_ | refine load_rowG (by rfl) 33 (.tmp 1) rfl w.heap.size rfl 33 #[.int .i64 op, .int .i64 sz, .int .i64 cd, .int .i64 fr, .int .i64 d.k, .int .i64 d.r, .int .i64 d.b, .int .i64 d.i, .int .i64 d.s, .int .i64 d.d, .int .i64 d.m, .int .i64 s.k, .int .i64 s.r, .int .i64 s.b, .int .i64 s.i, .int .i64 s.s, .int .i64 s.d, .int .i64 s.m, .int .i64 ln] (0, 0) _ R0.out Tryz.underlying33 rfl (by kernel_rfl) ?_)
            refine (CS.out _).mono ?_
            rintro e w1 ⟨rfl, hb⟩
            have R1 := Lib.hid ((hb.block _ (lt_of_blk R0.out)).trans R0.out)
            have B1 := Lib.hid (B0.out.trans (hb.mono B0.out.size))
            clear hb
            have c4 := cell_of_row _ _ 4 _ _ _ R1.out
            have c5 := cell_of_row _ _ 5 _ _ _ R1.out
            have c6 := cell_of_row _ _ 6 _ _ _ R1.out
            have c7 := cell_of_row _ _ 7 _ _ _ R1.out
            have c8 := cell_of_row _ _ 8 _ _ _ R1.out
            have c9 := cell_of_row _ _ 9 _ _ _ R1.out
            have c10 := cell_of_row _ _ 10 _ _ _ R1.out
            simp only [List.getElem?_toArray, List.getElem?_cons_zero, List.getElem?_cons_succ] at c4 c5 c6 c7 c8 c9 c10
            go_wp2_with fail
            refine (CD.out _ B1.out).mono ?_
            rintro e w2 ⟨rfl, hb⟩
            have R2 := Lib.hid ((hb.block _ (lt_of_blk R1.out)).trans R1.out)
            have B2 := Lib.hid (B1.out.trans (hb.mono B1.out.size))
            clear hb
            clear c4 c5 c6 c7 c8 c9 c10
            have c11 := cell_of_row _ _ 11 _ _ _ R2.out
            have c12 := cell_of_row _ _ 12 _ _ _ R2.out
            have c13 := cell_of_row _ _ 13 _ _ _ R2.out
            have c14 := cell_of_row _ _ 14 _ _ _ R2.out
            have c15 := cell_of_row _ _ 15 _ _ _ R2.out
            have c16 := cell_of_row _ _ 16 _ _ _ R2.out
            have c17 := cell_of_row _ _ 17 _ _ _ R2.out
            simp only [List.getElem?_toArray, List.getElem?_cons_zero, List.getElem?_cons_succ] at c11 c12 c13 c14 c15 c16 c17
            go_wp2_with fail
            refine (CE.out _ B2.out).mono ?_
            rintro e w3 ⟨rfl, hb⟩
            have R3 := Lib.hid ((hb.block _ (lt_of_blk R2.out)).trans R2.out)
            have B3 := Lib.hid (B2.out.trans (hb.mono B2.out.size))
            clear hb
            clear c11 c12 c13 c14 c15 c16 c17
            have c0 := cell_of_row _ _ 0 _ _ _ R3.out
            have c11 := cell_of_row _ _ 11 _ _ _ R3.out
            have c12 := cell_of_row _ _ 12 _ _ _ R3.out
            simp only [List.getElem?_toArray, List.getElem?_cons_zero, List.getElem?_cons_succ] at c0 c11 c12
            go_wp2_with fail
            refine (CH.out _).mono ?_
            rintro e w4 ⟨rfl, rfl⟩
            go_wp2_with fail
            refine (CP.out _).mono ?_
            rintro e w5 ⟨rfl, hb⟩
            have R5 := Lib.hid ((hb.block _ (lt_of_blk R3.out)).trans R3.out)
            have B5 := Lib.hid (B3.out.trans (hb.mono B3.out.size))
            clear hb
            clear c0 c11 c12
            try clear q3
            have l5 := lt_of_blk R5.out
            have P5 := Lib.hid (heap_alloc_new w5 (.cells #[.int .i64 m, .string K] 70))
            have R5a := Lib.hid ((Below.heap_alloc w5 (.cells #[.int .i64 m, .string K] 70) w.heap.size (by omega)).trans R5.out)
            have B5a := Lib.hid (B5.out.alloc B5.out.size (.cells #[.int .i64 m, .string K] 70))
            have c1 := cell_of_row _ _ 1 _ _ _ R5.out
            simp only [List.getElem?_toArray, List.getElem?_cons_zero, List.getElem?_cons_succ] at c1
            go_wp2_with fail
            refine (CZ.out _ B5a.out).mono ?_
            rintro e w6 ⟨rfl, hb⟩
            have R6 := Lib.hid ((hb.block _ (lt_of_blk R5a.out)).trans R5a.out)
            have P6 := Lib.hid ((hb.block _ (lt_of_blk P5.out)).trans P5.out)
            have B6 := Lib.hid (B5a.out.trans (hb.mono B5a.out.size))
            clear hb
            clear c1 l5
            have c4 := cell_of_row _ _ 4 _ _ _ R6.out
            have c5 := cell_of_row _ _ 5 _ _ _ R6.out
            have c6 := cell_of_row _ _ 6 _ _ _ R6.out
            have c7 := cell_of_row _ _ 7 _ _ _ R6.out
            have c8 := cell_of_row _ _ 8 _ _ _ R6.out
            have c9 := cell_of_row _ _ 9 _ _ _ R6.out
            have c10 := cell_of_row _ _ 10 _ _ _ R6.out
            have c11 := cell_of_row _ _ 11 _ _ _ R6.out
            have c12 := cell_of_row _ _ 12 _ _ _ R6.out
            have c13 := cell_of_row _ _ 13 _ _ _ R6.out
            have c14 := cell_of_row _ _ 14 _ _ _ R6.out
            have c15 := cell_of_row _ _ 15 _ _ _ R6.out
            have c16 := cell_of_row _ _ 16 _ _ _ R6.out
            have c17 := cell_of_row _ _ 17 _ _ _ R6.out
            simp only [List.getElem?_toArray, List.getElem?_cons_zero, List.getElem?_cons_succ] at c4 c5 c6 c7 c8 c9 c10 c11 c12 c13 c14 c15 c16 c17
            have p0 := cell_of_row _ _ 0 _ _ _ P6.out
            have p1 := cell_of_row _ _ 1 _ _ _ P6.out
            simp only [List.getElem?_toArray, List.getElem?_cons_zero, List.getElem?_cons_succ] at p0 p1
            go_wp2_with fail
            refine (CK.out _ B6.out (KD.out (by trivial)) (KS.out (by trivial))).mono ?_
            rintro e w7 ⟨rfl, hb⟩
            have B7 := Lib.hid (B6.out.trans (hb.mono B6.out.size))
            clear hb
            go_wp2
            go_ret
            exact ⟨rfl, B7.out⟩
        · rw [decide_eq_true q] at CH
          have Q3 : Hid ((s.k == 1) = false) := Lib.hid (beq_eq_false_iff_ne.mpr q2)
          clear q2
          clear q
          cases b4
          case false =>
            rw [show opsK ⟨op, sz, cd, fr, d, s, ln⟩ = false from HA.out]
            clear HA he
            go_enter Tryz.func32, Tryz.ntmps32
            go_wp2_with (first | refine wpList_load_row rfl 33 (.tmp 1) rfl w.heap.size rfl 33 #[.int .i64 op, .int .i64 sz, .int .i64 cd, .int .i64 fr, .int .i64 d.k, .int .i64 d.r, .int .i64 d.b, .int .i64 d.i, .int .i64 d.s, .int .i64 d.d, .int .i64 d.m, .int .i64 s.k, .int .i64 s.r, .int .i64 s.b, .int .i64 s.i, .int .i64 s.s, .int .i64 s.d, .int .i64 s.m, .int .i64 ln] (0, 0) _ R0.out Tryz.underlying33 rfl (by kernel_rfl) ?_ | refine load_rowG (by rfl) 33 (.tmp 1) rfl w.heap.size rfl 33 #[.int .i64 op, .int .i64 sz, .int .i64 cd, .int .i64 fr, .int .i64 d.k, .int .i64 d.r, .int .i64 d.b, .int .i64 d.i, .int .i64 d.s, .int .i64 d.d, .int .i64 d.m, .int .i64 s.k, .int .i64 s.r, .int .i64 s.b, .int .i64 s.i, .int .i64 s.s, .int .i64 s.d, .int .i64 s.m, .int .i64 ln] (0, 0) _ R0.out Tryz.underlying33 rfl (by kernel_rfl) ?_)
            refine (CS.out _).mono ?_
            rintro e w1 ⟨rfl, hb⟩
            have R1 := Lib.hid ((hb.block _ (lt_of_blk R0.out)).trans R0.out)
            have B1 := Lib.hid (B0.out.trans (hb.mono B0.out.size))
            clear hb
            have c4 := cell_of_row _ _ 4 _ _ _ R1.out
            have c5 := cell_of_row _ _ 5 _ _ _ R1.out
            have c6 := cell_of_row _ _ 6 _ _ _ R1.out
            have c7 := cell_of_row _ _ 7 _ _ _ R1.out
            have c8 := cell_of_row _ _ 8 _ _ _ R1.out
            have c9 := cell_of_row _ _ 9 _ _ _ R1.out
            have c10 := cell_of_row _ _ 10 _ _ _ R1.out
            simp only [List.getElem?_toArray, List.getElem?_cons_zero, List.getElem?_cons_succ] at c4 c5 c6 c7 c8 c9 c10
            go_wp2_with fail
            refine (CD.out _ B1.out).mono ?_
            rintro e w2 ⟨rfl, hb⟩
            have R2 := Lib.hid ((hb.block _ (lt_of_blk R1.out)).trans R1.out)
            have B2 := Lib.hid (B1.out.trans (hb.mono B1.out.size))
            clear hb
            clear c4 c5 c6 c7 c8 c9 c10
            have c11 := cell_of_row _ _ 11 _ _ _ R2.out
            have c12 := cell_of_row _ _ 12 _ _ _ R2.out
            have c13 := cell_of_row _ _ 13 _ _ _ R2.out
            have c14 := cell_of_row _ _ 14 _ _ _ R2.out
            have c15 := cell_of_row _ _ 15 _ _ _ R2.out
            have c16 := cell_of_row _ _ 16 _ _ _ R2.out
            have c17 := cell_of_row _ _ 17 _ _ _ R2.out
            simp only [List.getElem?_toArray, List.getElem?_cons_zero, List.getElem?_cons_succ] at c11 c12 c13 c14 c15 c16 c17
            go_wp2_with fail
            refine (CE.out _ B2.out).mono ?_
            rintro e w3 ⟨rfl, hb⟩
            have R3 := Lib.hid ((hb.block _ (lt_of_blk R2.out)).trans R2.out)
            have B3 := Lib.hid (B2.out.trans (hb.mono B2.out.size))
            clear hb
            clear c11 c12 c13 c14 c15 c16 c17
            have c0 := cell_of_row _ _ 0 _ _ _ R3.out
            have c11 := cell_of_row _ _ 11 _ _ _ R3.out
            have c12 := cell_of_row _ _ 12 _ _ _ R3.out
            simp only [List.getElem?_toArray, List.getElem?_cons_zero, List.getElem?_cons_succ] at c0 c11 c12
            go_wp2_with fail
            refine (CH.out _).mono ?_
            rintro e w4 ⟨rfl, rfl⟩
            have q3 := Q3.out
            go_wp2_with fail
            refine (CP.out _).mono ?_
            rintro e w5 ⟨rfl, hb⟩
            have R5 := Lib.hid ((hb.block _ (lt_of_blk R3.out)).trans R3.out)
            have B5 := Lib.hid (B3.out.trans (hb.mono B3.out.size))
            clear hb
            clear c0 c11 c12
            try clear q3
            have l5 := lt_of_blk R5.out
            have P5 := Lib.hid (heap_alloc_new w5 (.cells #[.int .i64 m, .string K] 70))
            have R5a := Lib.hid ((Below.heap_alloc w5 (.cells #[.int .i64 m, .string K] 70) w.heap.size (by omega)).trans R5.out)
            have B5a := Lib.hid (B5.out.alloc B5.out.size (.cells #[.int .i64 m, .string K] 70))
            have c1 := cell_of_row _ _ 1 _ _ _ R5.out
            simp only [List.getElem?_toArray, List.getElem?_cons_zero, List.getElem?_cons_succ] at c1
            go_wp2_with fail
            refine (CZ.out _ B5a.out).mono ?_
            rintro e w6 ⟨rfl, hb⟩
            have R6 := Lib.hid ((hb.block _ (lt_of_blk R5a.out)).trans R5a.out)
            have P6 := Lib.hid ((hb.block _ (lt_of_blk P5.out)).trans P5.out)
            have B6 := Lib.hid (B5a.out.trans (hb.mono B5a.out.size))
            clear hb
            clear c1 l5
            go_wp2
            go_ret
            exact ⟨rfl, B6.out⟩
          case true =>
            rw [show opsK ⟨op, sz, cd, fr, d, s, ln⟩ = b5 from HA.out]
            clear HA he
            go_enter Tryz.func32, Tryz.ntmps32
            go_wp2_with (first | refine wpList_load_row rfl 33 (.tmp 1) rfl w.heap.size rfl 33 #[.int .i64 op, .int .i64 sz, .int .i64 cd, .int .i64 fr, .int .i64 d.k, .int .i64 d.r, .int .i64 d.b, .int .i64 d.i, .int .i64 d.s, .int .i64 d.d, .int .i64 d.m, .int .i64 s.k, .int .i64 s.r, .int .i64 s.b, .int .i64 s.i, .int .i64 s.s, .int .i64 s.d, .int .i64 s.m, .int .i64 ln] (0, 0) _ R0.out Tryz.underlying33 rfl (by kernel_rfl) ?_ | refine load_rowG (by rfl) 33 (.tmp 1) rfl w.heap.size rfl 33 #[.int .i64 op, .int .i64 sz, .int .i64 cd, .int .i64 fr, .int .i64 d.k, .int .i64 d.r, .int .i64 d.b, .int .i64 d.i, .int .i64 d.s, .int .i64 d.d, .int .i64 d.m, .int .i64 s.k, .int .i64 s.r, .int .i64 s.b, .int .i64 s.i, .int .i64 s.s, .int .i64 s.d, .int .i64 s.m, .int .i64 ln] (0, 0) _ R0.out Tryz.underlying33 rfl (by kernel_rfl) ?_)
            refine (CS.out _).mono ?_
            rintro e w1 ⟨rfl, hb⟩
            have R1 := Lib.hid ((hb.block _ (lt_of_blk R0.out)).trans R0.out)
            have B1 := Lib.hid (B0.out.trans (hb.mono B0.out.size))
            clear hb
            have c4 := cell_of_row _ _ 4 _ _ _ R1.out
            have c5 := cell_of_row _ _ 5 _ _ _ R1.out
            have c6 := cell_of_row _ _ 6 _ _ _ R1.out
            have c7 := cell_of_row _ _ 7 _ _ _ R1.out
            have c8 := cell_of_row _ _ 8 _ _ _ R1.out
            have c9 := cell_of_row _ _ 9 _ _ _ R1.out
            have c10 := cell_of_row _ _ 10 _ _ _ R1.out
            simp only [List.getElem?_toArray, List.getElem?_cons_zero, List.getElem?_cons_succ] at c4 c5 c6 c7 c8 c9 c10
            go_wp2_with fail
            refine (CD.out _ B1.out).mono ?_
            rintro e w2 ⟨rfl, hb⟩
            have R2 := Lib.hid ((hb.block _ (lt_of_blk R1.out)).trans R1.out)
            have B2 := Lib.hid (B1.out.trans (hb.mono B1.out.size))
            clear hb
            clear c4 c5 c6 c7 c8 c9 c10
            have c11 := cell_of_row _ _ 11 _ _ _ R2.out
            have c12 := cell_of_row _ _ 12 _ _ _ R2.out
            have c13 := cell_of_row _ _ 13 _ _ _ R2.out
            have c14 := cell_of_row _ _ 14 _ _ _ R2.out
            have c15 := cell_of_row _ _ 15 _ _ _ R2.out
            have c16 := cell_of_row _ _ 16 _ _ _ R2.out
            have c17 := cell_of_row _ _ 17 _ _ _ R2.out
            simp only [List.getElem?_toArray, List.getElem?_cons_zero, List.getElem?_cons_succ] at c11 c12 c13 c14 c15 c16 c17
            go_wp2_with fail
            refine (CE.out _ B2.out).mono ?_
            rintro e w3 ⟨rfl, hb⟩
            have R3 := Lib.hid ((hb.block _ (lt_of_blk R2.out)).trans R2.out)
            have B3 := Lib.hid (B2.out.trans (hb.mono B2.out.size))
            clear hb
            clear c11 c12 c13 c14 c15 c16 c17
            have c0 := cell_of_row _ _ 0 _ _ _ R3.out
            have c11 := cell_of_row _ _ 11 _ _ _ R3.out
            have c12 := cell_of_row _ _ 12 _ _ _ R3.out
            simp only [List.getElem?_toArray, List.getElem?_cons_zero, List.getElem?_cons_succ] at c0 c11 c12
            go_wp2_with fail
            refine (CH.out _).mono ?_
            rintro e w4 ⟨rfl, rfl⟩
            have q3 := Q3.out
            go_wp2_with fail
            refine (CP.out _).mono ?_
            rintro e w5 ⟨rfl, hb⟩
            have R5 := Lib.hid ((hb.block _ (lt_of_blk R3.out)).trans R3.out)
            have B5 := Lib.hid (B3.out.trans (hb.mono B3.out.size))
            clear hb
            clear c0 c11 c12
            try clear q3
            have l5 := lt_of_blk R5.out
            have P5 := Lib.hid (heap_alloc_new w5 (.cells #[.int .i64 m, .string K] 70))
            have R5a := Lib.hid ((Below.heap_alloc w5 (.cells #[.int .i64 m, .string K] 70) w.heap.size (by omega)).trans R5.out)
            have B5a := Lib.hid (B5.out.alloc B5.out.size (.cells #[.int .i64 m, .string K] 70))
            have c1 := cell_of_row _ _ 1 _ _ _ R5.out
            simp only [List.getElem?_toArray, List.getElem?_cons_zero, List.getElem?_cons_succ] at c1
            go_wp2_with fail
            refine (CZ.out _ B5a.out).mono ?_
            rintro e w6 ⟨rfl, hb⟩
            have R6 := Lib.hid ((hb.block _ (lt_of_blk R5a.out)).trans R5a.out)
            have P6 := Lib.hid ((hb.block _ (lt_of_blk P5.out)).trans P5.out)
            have B6 := Lib.hid (B5a.out.trans (hb.mono B5a.out.size))
            clear hb
            clear c1 l5
            have c4 := cell_of_row _ _ 4 _ _ _ R6.out
            have c5 := cell_of_row _ _ 5 _ _ _ R6.out
            have c6 := cell_of_row _ _ 6 _ _ _ R6.out
            have c7 := cell_of_row _ _ 7 _ _ _ R6.out
            have c8 := cell_of_row _ _ 8 _ _ _ R6.out
            have c9 := cell_of_row _ _ 9 _ _ _ R6.out
            have c10 := cell_of_row _ _ 10 _ _ _ R6.out
            have c11 := cell_of_row _ _ 11 _ _ _ R6.out
            have c12 := cell_of_row _ _ 12 _ _ _ R6.out
            have c13 := cell_of_row _ _ 13 _ _ _ R6.out
            have c14 := cell_of_row _ _ 14 _ _ _ R6.out
            have c15 := cell_of_row _ _ 15 _ _ _ R6.out
            have c16 := cell_of_row _ _ 16 _ _ _ R6.out
            have c17 := cell_of_row _ _ 17 _ _ _ R6.out
            simp only [List.getElem?_toArray, List.getElem?_cons_zero, List.getElem?_cons_succ] at c4 c5 c6 c7 c8 c9 c10 c11 c12 c13 c14 c15 c16 c17
            have p0 := cell_of_row _ _ 0 _ _ _ P6.out
            have p1 := cell_of_row _ _ 1 _ _ _ P6.out
            simp only [List.getElem?_toArray, List.getElem?_cons_zero, List.getElem?_cons_succ] at p0 p1
            go_wp2_with fail
            refine (CK.out _ B6.out (KD.out (by trivial)) (KS.out (by trivial))).mono ?_
            rintro e w7 ⟨rfl, hb⟩
            have B7 := Lib.hid (B6.out.trans (hb.mono B6.out.size))
            clear hb
            go_wp2
            go_ret
            exact ⟨rfl, B7.out⟩
        · rw [decide_eq_true q] at CH
          have Q2 := Lib.hid q2
          have Q3 := Lib.hid q3
          clear q2 q3
          clear q
          cases b4
          case false =>
            rw [show opsK ⟨op, sz, cd, fr, d, s, ln⟩ = false from HA.out]
            clear HA he
            go_enter Tryz.func32, Tryz.ntmps32
            go_wp2_with (first | refine wpList_load_row rfl 33 (.tmp 1) rfl w.heap.size rfl 33 #[.int .i64 op, .int .i64 sz, .int .i64 cd, .int .i64 fr, .int .i64 d.k, .int .i64 d.r, .int .i64 d.b, .int .i64 d.i, .int .i64 d.s, .int .i64 d.d, .int .i64 d.m, .int .i64 s.k, .int .i64 s.r, .int .i64 s.b, .int .i64 s.i, .int .i64 s.s, .int .i64 s.d, .int .i64 s.m, .int .i64 ln] (0, 0) _ R0.out Tryz.underlying33 rfl (by kernel_rfl) ?_ | refine load_rowG (by rfl) 33 (.tmp 1) rfl w.heap.size rfl 33 #[.int .i64 op, .int .i64 sz, .int .i64 cd, .int .i64 fr, .int .i64 d.k, .int .i64 d.r, .int .i64 d.b, .int .i64 d.i, .int .i64 d.s, .int .i64 d.d, .int .i64 d.m, .int .i64 s.k, .int .i64 s.r, .int .i64 s.b, .int .i64 s.i, .int .i64 s.s, .int .i64 s.d, .int .i64 s.m, .int .i64 ln] (0, 0) _ R0.out Tryz.underlying33 rfl (by kernel_rfl) ?_)
            refine (CS.out _).mono ?_
            rintro e w1 ⟨rfl, hb⟩
            have R1 := Lib.hid ((hb.block _ (lt_of_blk R0.out)).trans R0.out)
            have B1 := Lib.hid (B0.out.trans (hb.mono B0.out.size))
            clear hb
            have c4 := cell_of_row _ _ 4 _ _ _ R1.out
            have c5 := cell_of_row _ _ 5 _ _ _ R1.out
            have c6 := cell_of_row _ _ 6 _ _ _ R1.out
            have c7 := cell_of_row _ _ 7 _ _ _ R1.out
            have c8 := cell_of_row _ _ 8 _ _ _ R1.out
            have c9 := cell_of_row _ _ 9 _ _ _ R1.out
            have c10 := cell_of_row _ _ 10 _ _ _ R1.out
            simp only [List.getElem?_toArray, List.getElem?_cons_zero, List.getElem?_cons_succ] at c4 c5 c6 c7 c8 c9 c10
            go_wp2_with fail
            refine (CD.out _ B1.out).mono ?_
            rintro e w2 ⟨rfl, hb⟩
            have R2 := Lib.hid ((hb.block _ (lt_of_blk R1.out)).trans R1.out)
            have B2 := Lib.hid (B1.out.trans (hb.mono B1.out.size))
            clear hb
            clear c4 c5 c6 c7 c8 c9 c10
            have c11 := cell_of_row _ _ 11 _ _ _ R2.out
            have c12 := cell_of_row _ _ 12 _ _ _ R2.out
            have c13 := cell_of_row _ _ 13 _ _ _ R2.out
            have c14 := cell_of_row _ _ 14 _ _ _ R2.out
            have c15 := cell_of_row _ _ 15 _ _ _ R2.out
            have c16 := cell_of_row _ _ 16 _ _ _ R2.out
            have c17 := cell_of_row _ _ 17 _ _ _ R2.out
            simp only [List.getElem?_toArray, List.getElem?_cons_zero, List.getElem?_cons_succ] at c11 c12 c13 c14 c15 c16 c17
            go_wp2_with fail
            refine (CE.out _ B2.out).mono ?_
            rintro e w3 ⟨rfl, hb⟩
            have R3 := Lib.hid ((hb.block _ (lt_of_blk R2.out)).trans R2.out)
            have B3 := Lib.hid (B2.out.trans (hb.mono B2.out.size))
            clear hb
            clear c11 c12 c13 c14 c15 c16 c17
            have c0 := cell_of_row _ _ 0 _ _ _ R3.out
            have c11 := cell_of_row _ _ 11 _ _ _ R3.out
            have c12 := cell_of_row _ _ 12 _ _ _ R3.out
            simp only [List.getElem?_toArray, List.getElem?_cons_zero, List.getElem?_cons_succ] at c0 c11 c12
            go_wp2_with fail
            refine (CH.out _).mono ?_
            rintro e w4 ⟨rfl, rfl⟩
            rw [Q2.out] at c11
            rw [Q3.out] at c12
            go_wp2_with fail
            refine (CP.out _).mono ?_
            rintro e w5 ⟨rfl, hb⟩
            have R5 := Lib.hid ((hb.block _ (lt_of_blk R3.out)).trans R3.out)
            have B5 := Lib.hid (B3.out.trans (hb.mono B3.out.size))
            clear hb
            clear c0 c11 c12
            try clear q3
            have l5 := lt_of_blk R5.out
            have P5 := Lib.hid (heap_alloc_new w5 (.cells #[.int .i64 m, .string K] 70))
            have R5a := Lib.hid ((Below.heap_alloc w5 (.cells #[.int .i64 m, .string K] 70) w.heap.size (by omega)).trans R5.out)
            have B5a := Lib.hid (B5.out.alloc B5.out.size (.cells #[.int .i64 m, .string K] 70))
            have c1 := cell_of_row _ _ 1 _ _ _ R5.out
            simp only [List.getElem?_toArray, List.getElem?_cons_zero, List.getElem?_cons_succ] at c1
            go_wp2_with fail
            refine (CZ.out _ B5a.out).mono ?_
            rintro e w6 ⟨rfl, hb⟩
            have R6 := Lib.hid ((hb.block _ (lt_of_blk R5a.out)).trans R5a.out)
            have P6 := Lib.hid ((hb.block _ (lt_of_blk P5.out)).trans P5.out)
            have B6 := Lib.hid (B5a.out.trans (hb.mono B5a.out.size))
            clear hb
            clear c1 l5
            go_wp2
            go_ret
            exact ⟨rfl, B6.out⟩
          case true =>
            rw [show opsK ⟨op, sz, cd, fr, d, s, ln⟩ = b5 from HA.out]
            clear HA he
            go_enter Tryz.func32, Tryz.ntmps32
            go_wp2_with (first | refine wpList_load_row rfl 33 (.tmp 1) rfl w.heap.size rfl 33 #[.int .i64 op, .int .i64 sz, .int .i64 cd, .int .i64 fr, .int .i64 d.k, .int .i64 d.r, .int .i64 d.b, .int .i64 d.i, .int .i64 d.s, .int .i64 d.d, .int .i64 d.m, .int .i64 s.k, .int .i64 s.r, .int .i64 s.b, .int .i64 s.i, .int .i64 s.s, .int .i64 s.d, .int .i64 s.m, .int .i64 ln] (0, 0) _ R0.out Tryz.underlying33 rfl (by kernel_rfl) ?_ | refine load_rowG (by rfl) 33 (.tmp 1) rfl w.heap.size rfl 33 #[.int .i64 op, .int .i64 sz, .int .i64 cd, .int .i64 fr, .int .i64 d.k, .int .i64 d.r, .int .i64 d.b, .int .i64 d.i, .int .i64 d.s, .int .i64 d.d, .int .i64 d.m, .int .i64 s.k, .int .i64 s.r, .int .i64 s.b, .int .i64 s.i, .int .i64 s.s, .int .i64 s.d, .int .i64 s.m, .int .i64 ln] (0, 0) _ R0.out Tryz.underlying33 rfl (by kernel_rfl) ?_)
            refine (CS.out _).mono ?_
            rintro e w1 ⟨rfl, hb⟩
            have R1 := Lib.hid ((hb.block _ (lt_of_blk R0.out)).trans R0.out)
            have B1 := Lib.hid (B0.out.trans (hb.mono B0.out.size))
            clear hb
            have c4 := cell_of_row _ _ 4 _ _ _ R1.out
            have c5 := cell_of_row _ _ 5 _ _ _ R1.out
            have c6 := cell_of_row _ _ 6 _ _ _ R1.out
            have c7 := cell_of_row _ _ 7 _ _ _ R1.out
            have c8 := cell_of_row _ _ 8 _ _ _ R1.out
            have c9 := cell_of_row _ _ 9 _ _ _ R1.out
            have c10 := cell_of_row _ _ 10 _ _ _ R1.out
            simp only [List.getElem?_toArray, List.getElem?_cons_zero, List.getElem?_cons_succ] at c4 c5 c6 c7 c8 c9 c10
            go_wp2_with fail
            refine (CD.out _ B1.out).mono ?_
            rintro e w2 ⟨rfl, hb⟩
            have R2 := Lib.hid ((hb.block _ (lt_of_blk R1.out)).trans R1.out)
            have B2 := Lib.hid (B1.out.trans (hb.mono B1.out.size))
            clear hb
            clear c4 c5 c6 c7 c8 c9 c10
            have c11 := cell_of_row _ _ 11 _ _ _ R2.out
            have c12 := cell_of_row _ _ 12 _ _ _ R2.out
            have c13 := cell_of_row _ _ 13 _ _ _ R2.out
            have c14 := cell_of_row _ _ 14 _ _ _ R2.out
            have c15 := cell_of_row _ _ 15 _ _ _ R2.out
            have c16 := cell_of_row _ _ 16 _ _ _ R2.out
            have c17 := cell_of_row _ _ 17 _ _ _ R2.out
            simp only [List.getElem?_toArray, List.getElem?_cons_zero, List.getElem?_cons_succ] at c11 c12 c13 c14 c15 c16 c17
            go_wp2_with fail
            refine (CE.out _ B2.out).mono ?_
            rintro e w3 ⟨rfl, hb⟩
            have R3 := Lib.hid ((hb.block _ (lt_of_blk R2.out)).trans R2.out)
            have B3 := Lib.hid (B2.out.trans (hb.mono B2.out.size))
            clear hb
            clear c11 c12 c13 c14 c15 c16 c17
            have c0 := cell_of_row _ _ 0 _ _ _ R3.out
            have c11 := cell_of_row _ _ 11 _ _ _ R3.out
            have c12 := cell_of_row _ _ 12 _ _ _ R3.out
            simp only [List.getElem?_toArray, List.getElem?_cons_zero, List.getElem?_cons_succ] at c0 c11 c12
            go_wp2_with fail
            refine (CH.out _).mono ?_
            rintro e w4 ⟨rfl, rfl⟩
            rw [Q2.out] at c11
            rw [Q3.out] at c12
            go_wp2_with fail
            refine (CP.out _).mono ?_
            rintro e w5 ⟨rfl, hb⟩
            have R5 := Lib.hid ((hb.block _ (lt_of_blk R3.out)).trans R3.out)
            have B5 := Lib.hid (B3.out.trans (hb.mono B3.out.size))
            clear hb
            clear c0 c11 c12
            try clear q3
            have l5 := lt_of_blk R5.out
            have P5 := Lib.hid (heap_alloc_new w5 (.cells #[.int .i64 m, .string K] 70))
            have R5a := Lib.hid ((Below.heap_alloc w5 (.cells #[.int .i64 m, .string K] 70) w.heap.size (by omega)).trans R5.out)
            have B5a := Lib.hid (B5.out.alloc B5.out.size (.cells #[.int .i64 m, .string K] 70))
            have c1 := cell_of_row _ _ 1 _ _ _ R5.out
            simp only [List.getElem?_toArray, List.getElem?_cons_zero, List.getElem?_cons_succ] at c1
            go_wp2_with fail
            refine (CZ.out _ B5a.out).mono ?_
            rintro e w6 ⟨rfl, hb⟩
            have R6 := Lib.hid ((hb.block _ (lt_of_blk R5a.out)).trans R5a.out)
            have P6 := Lib.hid ((hb.block _ (lt_of_blk P5.out)).trans P5.out)
            have B6 := Lib.hid (B5a.out.trans (hb.mono B5a.out.size))
            clear hb
            clear c1 l5
            have c4 := cell_of_row _ _ 4 _ _ _ R6.out
            have c5 := cell_of_row _ _ 5 _ _ _ R6.out
            have c6 := cell_of_row _ _ 6 _ _ _ R6.out
            have c7 := cell_of_row _ _ 7 _ _ _ R6.out
            have c8 := cell_of_row _ _ 8 _ _ _ R6.out
            have c9 := cell_of_row _ _ 9 _ _ _ R6.out
            have c10 := cell_of_row _ _ 10 _ _ _ R6.out
            have c11 := cell_of_row _ _ 11 _ _ _ R6.out
            have c12 := cell_of_row _ _ 12 _ _ _ R6.out
            have c13 := cell_of_row _ _ 13 _ _ _ R6.out
            have c14 := cell_of_row _ _ 14 _ _ _ R6.out
            have c15 := cell_of_row _ _ 15 _ _ _ R6.out
            have c16 := cell_of_row _ _ 16 _ _ _ R6.out
            have c17 := cell_of_row _ _ 17 _ _ _ R6.out
            simp only [List.getElem?_toArray, List.getElem?_cons_zero, List.getElem?_cons_succ] at c4 c5 c6 c7 c8 c9 c10 c11 c12 c13 c14 c15 c16 c17
            have p0 := cell_of_row _ _ 0 _ _ _ P6.out
            have p1 := cell_of_row _ _ 1 _ _ _ P6.out
            simp only [List.getElem?_toArray, List.getElem?_cons_zero, List.getElem?_cons_succ] at p0 p1
            go_wp2_with fail
            refine (CK.out _ B6.out (KD.out (by trivial)) (KS.out (by trivial))).mono ?_
            rintro e w7 ⟨rfl, hb⟩
            have B7 := Lib.hid (B6.out.trans (hb.mono B6.out.size))
            clear hb
            go_wp2
            go_ret
            exact ⟨rfl, B7.out⟩
set_option maxRecDepth 100000 in
set_option maxHeartbeats 4000000 in
theorem needC (x : Ins) (w : World) : Calls Tryz.prog 34 #[.agg (insV x)] w fun e w' => e = .returned (.bool (needK x)) ∧ Below w.heap.size w w' := by
  have CS := Lib.hid (sizesC x); have CW := Lib.hid (wideC x)
  have CA := Lib.hid (askC x.d (szD x)); have CB := Lib.hid (askC x.s (szS x))
  have HA : Hid (needK x = (wideK x.op x.sz || (askK x.d (szD x) || askK x.s (szS x)))) := Lib.hid rfl
  obtain ⟨b1, h1⟩ : ∃ v, v = wideK x.op x.sz := ⟨_, rfl⟩
  obtain ⟨b2, h2⟩ : ∃ v, v = askK x.d (szD x) := ⟨_, rfl⟩
  obtain ⟨b3, h3⟩ : ∃ v, v = askK x.s (szS x) := ⟨_, rfl⟩
  rw [← h1] at CW HA; rw [← h2] at CA HA; rw [← h3] at CB HA
  clear h1 h2 h3
  obtain ⟨zd, hzd⟩ : ∃ v, v = szD x := ⟨_, rfl⟩
  obtain ⟨zs, hzs⟩ : ∃ v, v = szS x := ⟨_, rfl⟩
  rw [← hzd, ← hzs] at CS; rw [← hzd] at CA; rw [← hzs] at CB
  clear hzd hzs
  obtain ⟨op, sz, cd, fr, d, s, ln⟩ := x
  have R0 := Lib.hid (heap_alloc_new w (.cells #[.int .i64 op, .int .i64 sz, .int .i64 cd, .int .i64 fr, .int .i64 d.k, .int .i64 d.r, .int .i64 d.b, .int .i64 d.i, .int .i64 d.s, .int .i64 d.d, .int .i64 d.m, .int .i64 s.k, .int .i64 s.r, .int .i64 s.b, .int .i64 s.i, .int .i64 s.s, .int .i64 s.d, .int .i64 s.m, .int .i64 ln] 33))
  have B0 := Lib.hid (belA w (.cells #[.int .i64 op, .int .i64 sz, .int .i64 cd, .int .i64 fr, .int .i64 d.k, .int .i64 d.r, .int .i64 d.b, .int .i64 d.i, .int .i64 d.s, .int .i64 d.d, .int .i64 d.m, .int .i64 s.k, .int .i64 s.r, .int .i64 s.b, .int .i64 s.i, .int .i64 s.s, .int .i64 s.d, .int .i64 s.m, .int .i64 ln] 33))
  simp only at CS CW CA CB HA
  unfold insV insA
  simp only
  cases b1
  case true =>
    rw [show needK ⟨op, sz, cd, fr, d, s, ln⟩ = true from HA.out]
    clear HA
    go_enter Tryz.func34, Tryz.ntmps34
    go_wp2_with (first | refine wpList_load_row rfl 33 (.tmp 1) rfl w.heap.size rfl 33 #[.int .i64 op, .int .i64 sz, .int .i64 cd, .int .i64 fr, .int .i64 d.k, .int .i64 d.r, .int .i64 d.b, .int .i64 d.i, .int .i64 d.s, .int .i64 d.d, .int .i64 d.m, .int .i64 s.k, .int .i64 s.r, .int .i64 s.b, .int .i64 s.i, .int .i64 s.s, .int .i64 s.d, .int .i64 s.m, .int .i64 ln] (0, 0) _ R0.out Tryz.underlying33 rfl (by kernel_rfl) ?_ | refine load_rowG (by rfl) 33 (.tmp 1) rfl w.heap.size rfl 33 #[.int .i64 op, .int .i64 sz, .int .i64 cd, .int .i64 fr, .int .i64 d.k, .int .i64 d.r, .int .i64 d.b, .int .i64 d.i, .int .i64 d.s, .int .i64 d.d, .int .i64 d.m, .int .i64 s.k, .int .i64 s.r, .int .i64 s.b, .int .i64 s.i, .int .i64 s.s, .int .i64 s.d, .int .i64 s.m, .int .i64 ln] (0, 0) _ R0.out Tryz.underlying33 rfl (by kernel_rfl) ?_)
    refine (CS.out _).mono ?_
    rintro e w1 ⟨rfl, hb⟩
    have R1 := Lib.hid ((hb.block _ (lt_of_blk R0.out)).trans R0.out)
    have B1 := Lib.hid (B0.out.trans (hb.mono B0.out.size))
    clear hb
    go_wp2_with (first | refine wpList_load_row rfl 33 (.tmp 1) rfl w.heap.size rfl 33 #[.int .i64 op, .int .i64 sz, .int .i64 cd, .int .i64 fr, .int .i64 d.k, .int .i64 d.r, .int .i64 d.b, .int .i64 d.i, .int .i64 d.s, .int .i64 d.d, .int .i64 d.m, .int .i64 s.k, .int .i64 s.r, .int .i64 s.b, .int .i64 s.i, .int .i64 s.s, .int .i64 s.d, .int .i64 s.m, .int .i64 ln] (0, 0) _ R1.out Tryz.underlying33 rfl (by kernel_rfl) ?_ | refine load_rowG (by rfl) 33 (.tmp 1) rfl w.heap.size rfl 33 #[.int .i64 op, .int .i64 sz, .int .i64 cd, .int .i64 fr, .int .i64 d.k, .int .i64 d.r, .int .i64 d.b, .int .i64 d.i, .int .i64 d.s, .int .i64 d.d, .int .i64 d.m, .int .i64 s.k, .int .i64 s.r, .int .i64 s.b, .int .i64 s.i, .int .i64 s.s, .int .i64 s.d, .int .i64 s.m, .int .i64 ln] (0, 0) _ R1.out Tryz.underlying33 rfl (by kernel_rfl) ?_)
    refine (CW.out _).mono ?_
    rintro e w2 ⟨rfl, hb⟩
    have R2 := Lib.hid ((hb.block _ (lt_of_blk R1.out)).trans R1.out)
    have B2 := Lib.hid (B1.out.trans (hb.mono B1.out.size))
    clear hb
    go_wp2
    go_ret
    exact ⟨rfl, B2.out⟩
  case false =>
    cases b2
    case true =>
      rw [show needK ⟨op, sz, cd, fr, d, s, ln⟩ = true from HA.out]
      clear HA
      go_enter Tryz.func34, Tryz.ntmps34
      go_wp2_with (first | refine wpList_load_row rfl 33 (.tmp 1) rfl w.heap.size rfl 33 #[.int .i64 op, .int .i64 sz, .int .i64 cd, .int .i64 fr, .int .i64 d.k, .int .i64 d.r, .int .i64 d.b, .int .i64 d.i, .int .i64 d.s, .int .i64 d.d, .int .i64 d.m, .int .i64 s.k, .int .i64 s.r, .int .i64 s.b, .int .i64 s.i, .int .i64 s.s, .int .i64 s.d, .int .i64 s.m, .int .i64 ln] (0, 0) _ R0.out Tryz.underlying33 rfl (by kernel_rfl) ?_ | refine load_rowG (by rfl) 33 (.tmp 1) rfl w.heap.size rfl 33 #[.int .i64 op, .int .i64 sz, .int .i64 cd, .int .i64 fr, .int .i64 d.k, .int .i64 d.r, .int .i64 d.b, .int .i64 d.i, .int .i64 d.s, .int .i64 d.d, .int .i64 d.m, .int .i64 s.k, .int .i64 s.r, .int .i64 s.b, .int .i64 s.i, .int .i64 s.s, .int .i64 s.d, .int .i64 s.m, .int .i64 ln] (0, 0) _ R0.out Tryz.underlying33 rfl (by kernel_rfl) ?_)
      refine (CS.out _).mono ?_
      rintro e w1 ⟨rfl, hb⟩
      have R1 := Lib.hid ((hb.block _ (lt_of_blk R0.out)).trans R0.out)
      have B1 := Lib.hid (B0.out.trans (hb.mono B0.out.size))
      clear hb
      go_wp2_with (first | refine wpList_load_row rfl 33 (.tmp 1) rfl w.heap.size rfl 33 #[.int .i64 op, .int .i64 sz, .int .i64 cd, .int .i64 fr, .int .i64 d.k, .int .i64 d.r, .int .i64 d.b, .int .i64 d.i, .int .i64 d.s, .int .i64 d.d, .int .i64 d.m, .int .i64 s.k, .int .i64 s.r, .int .i64 s.b, .int .i64 s.i, .int .i64 s.s, .int .i64 s.d, .int .i64 s.m, .int .i64 ln] (0, 0) _ R1.out Tryz.underlying33 rfl (by kernel_rfl) ?_ | refine load_rowG (by rfl) 33 (.tmp 1) rfl w.heap.size rfl 33 #[.int .i64 op, .int .i64 sz, .int .i64 cd, .int .i64 fr, .int .i64 d.k, .int .i64 d.r, .int .i64 d.b, .int .i64 d.i, .int .i64 d.s, .int .i64 d.d, .int .i64 d.m, .int .i64 s.k, .int .i64 s.r, .int .i64 s.b, .int .i64 s.i, .int .i64 s.s, .int .i64 s.d, .int .i64 s.m, .int .i64 ln] (0, 0) _ R1.out Tryz.underlying33 rfl (by kernel_rfl) ?_)
      refine (CW.out _).mono ?_
      rintro e w2 ⟨rfl, hb⟩
      have R2 := Lib.hid ((hb.block _ (lt_of_blk R1.out)).trans R1.out)
      have B2 := Lib.hid (B1.out.trans (hb.mono B1.out.size))
      clear hb
      have c4 := cell_of_row _ _ 4 _ _ _ R2.out
      have c5 := cell_of_row _ _ 5 _ _ _ R2.out
      have c6 := cell_of_row _ _ 6 _ _ _ R2.out
      have c7 := cell_of_row _ _ 7 _ _ _ R2.out
      have c8 := cell_of_row _ _ 8 _ _ _ R2.out
      have c9 := cell_of_row _ _ 9 _ _ _ R2.out
      have c10 := cell_of_row _ _ 10 _ _ _ R2.out
      simp only [List.getElem?_toArray, List.getElem?_cons_zero, List.getElem?_cons_succ] at c4 c5 c6 c7 c8 c9 c10
      go_wp2_with fail
      refine (CA.out _).mono ?_
      rintro e w3 ⟨rfl, hb⟩
      have R3 := Lib.hid ((hb.block _ (lt_of_blk R2.out)).trans R2.out)
      have B3 := Lib.hid (B2.out.trans (hb.mono B2.out.size))
      clear hb
      clear c4 c5 c6 c7 c8 c9 c10
      go_wp2
      go_ret
      exact ⟨rfl, B3.out⟩
    case false =>
      rw [show needK ⟨op, sz, cd, fr, d, s, ln⟩ = b3 from HA.out]
      clear HA
      go_enter Tryz.func34, Tryz.ntmps34
      go_wp2_with (first | refine wpList_load_row rfl 33 (.tmp 1) rfl w.heap.size rfl 33 #[.int .i64 op, .int .i64 sz, .int .i64 cd, .int .i64 fr, .int .i64 d.k, .int .i64 d.r, .int .i64 d.b, .int .i64 d.i, .int .i64 d.s, .int .i64 d.d, .int .i64 d.m, .int .i64 s.k, .int .i64 s.r, .int .i64 s.b, .int .i64 s.i, .int .i64 s.s, .int .i64 s.d, .int .i64 s.m, .int .i64 ln] (0, 0) _ R0.out Tryz.underlying33 rfl (by kernel_rfl) ?_ | refine load_rowG (by rfl) 33 (.tmp 1) rfl w.heap.size rfl 33 #[.int .i64 op, .int .i64 sz, .int .i64 cd, .int .i64 fr, .int .i64 d.k, .int .i64 d.r, .int .i64 d.b, .int .i64 d.i, .int .i64 d.s, .int .i64 d.d, .int .i64 d.m, .int .i64 s.k, .int .i64 s.r, .int .i64 s.b, .int .i64 s.i, .int .i64 s.s, .int .i64 s.d, .int .i64 s.m, .int .i64 ln] (0, 0) _ R0.out Tryz.underlying33 rfl (by kernel_rfl) ?_)
      refine (CS.out _).mono ?_
      rintro e w1 ⟨rfl, hb⟩
      have R1 := Lib.hid ((hb.block _ (lt_of_blk R0.out)).trans R0.out)
      have B1 := Lib.hid (B0.out.trans (hb.mono B0.out.size))
      clear hb
      go_wp2_with (first | refine wpList_load_row rfl 33 (.tmp 1) rfl w.heap.size rfl 33 #[.int .i64 op, .int .i64 sz, .int .i64 cd, .int .i64 fr, .int .i64 d.k, .int .i64 d.r, .int .i64 d.b, .int .i64 d.i, .int .i64 d.s, .int .i64 d.d, .int .i64 d.m, .int .i64 s.k, .int .i64 s.r, .int .i64 s.b, .int .i64 s.i, .int .i64 s.s, .int .i64 s.d, .int .i64 s.m, .int .i64 ln] (0, 0) _ R1.out Tryz.underlying33 rfl (by kernel_rfl) ?_ | refine load_rowG (by rfl) 33 (.tmp 1) rfl w.heap.size rfl 33 #[.int .i64 op, .int .i64 sz, .int .i64 cd, .int .i64 fr, .int .i64 d.k, .int .i64 d.r, .int .i64 d.b, .int .i64 d.i, .int .i64 d.s, .int .i64 d.d, .int .i64 d.m, .int .i64 s.k, .int .i64 s.r, .int .i64 s.b, .int .i64 s.i, .int .i64 s.s, .int .i64 s.d, .int .i64 s.m, .int .i64 ln] (0, 0) _ R1.out Tryz.underlying33 rfl (by kernel_rfl) ?_)
      refine (CW.out _).mono ?_
      rintro e w2 ⟨rfl, hb⟩
      have R2 := Lib.hid ((hb.block _ (lt_of_blk R1.out)).trans R1.out)
      have B2 := Lib.hid (B1.out.trans (hb.mono B1.out.size))
      clear hb
      have c4 := cell_of_row _ _ 4 _ _ _ R2.out
      have c5 := cell_of_row _ _ 5 _ _ _ R2.out
      have c6 := cell_of_row _ _ 6 _ _ _ R2.out
      have c7 := cell_of_row _ _ 7 _ _ _ R2.out
      have c8 := cell_of_row _ _ 8 _ _ _ R2.out
      have c9 := cell_of_row _ _ 9 _ _ _ R2.out
      have c10 := cell_of_row _ _ 10 _ _ _ R2.out
      simp only [List.getElem?_toArray, List.getElem?_cons_zero, List.getElem?_cons_succ] at c4 c5 c6 c7 c8 c9 c10
      go_wp2_with fail
      refine (CA.out _).mono ?_
      rintro e w3 ⟨rfl, hb⟩
      have R3 := Lib.hid ((hb.block _ (lt_of_blk R2.out)).trans R2.out)
      have B3 := Lib.hid (B2.out.trans (hb.mono B2.out.size))
      clear hb
      clear c4 c5 c6 c7 c8 c9 c10
      have c11 := cell_of_row _ _ 11 _ _ _ R3.out
      have c12 := cell_of_row _ _ 12 _ _ _ R3.out
      have c13 := cell_of_row _ _ 13 _ _ _ R3.out
      have c14 := cell_of_row _ _ 14 _ _ _ R3.out
      have c15 := cell_of_row _ _ 15 _ _ _ R3.out
      have c16 := cell_of_row _ _ 16 _ _ _ R3.out
      have c17 := cell_of_row _ _ 17 _ _ _ R3.out
      simp only [List.getElem?_toArray, List.getElem?_cons_zero, List.getElem?_cons_succ] at c11 c12 c13 c14 c15 c16 c17
      go_wp2_with fail
      refine (CB.out _).mono ?_
      rintro e w4 ⟨rfl, hb⟩
      have R4 := Lib.hid ((hb.block _ (lt_of_blk R3.out)).trans R3.out)
      have B4 := Lib.hid (B3.out.trans (hb.mono B3.out.size))
      clear hb
      clear c11 c12 c13 c14 c15 c16 c17
      go_wp2
      go_ret
      exact ⟨rfl, B4.out⟩
set_option maxRecDepth 100000 in
set_option maxHeartbeats 4000000 in
theorem instrI (x : Ins) (w : World) (aR : Addr) (he : Env w aR) : Calls Tryz.prog 13 #[.agg (insV x)] w fun e w' => e = .returned (.bool (insK x)) ∧ Below w.heap.size w w' := by
  have CC := Lib.hid (fun W (h : Below w.heap.size w W) => condOkC x W (he.below h).c)
  have CF := Lib.hid (fromOkC x)
  have CO := Lib.hid (fun W (h : Below w.heap.size w W) => opsC x W aR (he.below h))
  have CN := Lib.hid (numC2 x)
  have CR := Lib.hid (needC x)
  have CD := Lib.hid (highC x.d); have CS := Lib.hid (highC x.s)
  have HA : Hid (insK x = (decide (0 ≤ x.ln ∧ x.ln ≤ 15) && (condK x.op x.cd && (fromK x.op x.sz x.fr && (opsK x && (numK x && (!needK x || (!highK x.d && !highK x.s)))))))) := Lib.hid rfl
  obtain ⟨b1, h1⟩ : ∃ v, v = condK x.op x.cd := ⟨_, rfl⟩
  obtain ⟨b2, h2⟩ : ∃ v, v = fromK x.op x.sz x.fr := ⟨_, rfl⟩
  obtain ⟨b3, h3⟩ : ∃ v, v = opsK x := ⟨_, rfl⟩
  obtain ⟨b4, h4⟩ : ∃ v, v = numK x := ⟨_, rfl⟩
  obtain ⟨b5, h5⟩ : ∃ v, v = needK x := ⟨_, rfl⟩
  obtain ⟨b6, h6⟩ : ∃ v, v = highK x.d := ⟨_, rfl⟩
  obtain ⟨b7, h7⟩ : ∃ v, v = highK x.s := ⟨_, rfl⟩
  rw [← h1] at CC HA; rw [← h2] at CF HA; rw [← h3] at CO HA; rw [← h4] at CN HA; rw [← h5] at CR HA; rw [← h6] at CD HA; rw [← h7] at CS HA
  clear h1 h2 h3 h4 h5 h6 h7 he
  obtain ⟨op, sz, cd, fr, d, s, ln⟩ := x
  have R0 := Lib.hid (heap_alloc_new w (.cells #[.int .i64 op, .int .i64 sz, .int .i64 cd, .int .i64 fr, .int .i64 d.k, .int .i64 d.r, .int .i64 d.b, .int .i64 d.i, .int .i64 d.s, .int .i64 d.d, .int .i64 d.m, .int .i64 s.k, .int .i64 s.r, .int .i64 s.b, .int .i64 s.i, .int .i64 s.s, .int .i64 s.d, .int .i64 s.m, .int .i64 ln] 33))
  have B0 := Lib.hid (belA w (.cells #[.int .i64 op, .int .i64 sz, .int .i64 cd, .int .i64 fr, .int .i64 d.k, .int .i64 d.r, .int .i64 d.b, .int .i64 d.i, .int .i64 d.s, .int .i64 d.d, .int .i64 d.m, .int .i64 s.k, .int .i64 s.r, .int .i64 s.b, .int .i64 s.i, .int .i64 s.s, .int .i64 s.d, .int .i64 s.m, .int .i64 ln] 33))
  simp only at CC CF CO CN CR CD CS HA
  unfold insV insA
  simp only
  by_cases hl : 0 ≤ ln ∧ ln ≤ 15
  case neg =>
    rw [decide_eq_false hl] at HA
    rw [show insK ⟨op, sz, cd, fr, d, s, ln⟩ = false from by rw [HA.out]; rfl]
    clear HA
    have q : decide (ln < 0) = true ∨ (decide (ln < 0) = false ∧ decide (15 < ln) = true) := by
      simp only [decide_eq_true_iff, decide_eq_false_iff_not]
      omega
    clear hl
    rcases q with q | ⟨q, q2⟩
    all_goals
      go_enter Tryz.func13, Tryz.ntmps13
      go_wp2
      go_ret
      exact ⟨rfl, B0.out⟩
  case pos =>
    rw [decide_eq_true hl] at HA
    have l1 : decide (ln < 0) = false := decide_eq_false (by omega)
    have l2 : decide (15 < ln) = false := decide_eq_false (by omega)
    clear hl
    cases b1
    case false =>
      rw [show insK ⟨op, sz, cd, fr, d, s, ln⟩ = false from by rw [HA.out]; rfl]
      clear HA
      go_enter Tryz.func13, Tryz.ntmps13
      go_wp2_with (first | refine wpList_load_row rfl 33 (.tmp 1) rfl w.heap.size rfl 33 #[.int .i64 op, .int .i64 sz, .int .i64 cd, .int .i64 fr, .int .i64 d.k, .int .i64 d.r, .int .i64 d.b, .int .i64 d.i, .int .i64 d.s, .int .i64 d.d, .int .i64 d.m, .int .i64 s.k, .int .i64 s.r, .int .i64 s.b, .int .i64 s.i, .int .i64 s.s, .int .i64 s.d, .int .i64 s.m, .int .i64 ln] (0, 0) _ R0.out Tryz.underlying33 rfl (by kernel_rfl) ?_ | refine load_rowG (by rfl) 33 (.tmp 1) rfl w.heap.size rfl 33 #[.int .i64 op, .int .i64 sz, .int .i64 cd, .int .i64 fr, .int .i64 d.k, .int .i64 d.r, .int .i64 d.b, .int .i64 d.i, .int .i64 d.s, .int .i64 d.d, .int .i64 d.m, .int .i64 s.k, .int .i64 s.r, .int .i64 s.b, .int .i64 s.i, .int .i64 s.s, .int .i64 s.d, .int .i64 s.m, .int .i64 ln] (0, 0) _ R0.out Tryz.underlying33 rfl (by kernel_rfl) ?_)
      refine (CC.out _ B0.out).mono ?_
      rintro e w1 ⟨rfl, hb⟩
      have R1 := Lib.hid ((hb.block _ (lt_of_blk R0.out)).trans R0.out)
      have B1 := Lib.hid (B0.out.trans (hb.mono B0.out.size))
      clear hb
      go_wp2
      go_ret
      exact ⟨rfl, B1.out⟩
    case true =>
      cases b2
      case false =>
        rw [show insK ⟨op, sz, cd, fr, d, s, ln⟩ = false from by rw [HA.out]; rfl]
        clear HA
        go_enter Tryz.func13, Tryz.ntmps13
        go_wp2_with (first | refine wpList_load_row rfl 33 (.tmp 1) rfl w.heap.size rfl 33 #[.int .i64 op, .int .i64 sz, .int .i64 cd, .int .i64 fr, .int .i64 d.k, .int .i64 d.r, .int .i64 d.b, .int .i64 d.i, .int .i64 d.s, .int .i64 d.d, .int .i64 d.m, .int .i64 s.k, .int .i64 s.r, .int .i64 s.b, .int .i64 s.i, .int .i64 s.s, .int .i64 s.d, .int .i64 s.m, .int .i64 ln] (0, 0) _ R0.out Tryz.underlying33 rfl (by kernel_rfl) ?_ | refine load_rowG (by rfl) 33 (.tmp 1) rfl w.heap.size rfl 33 #[.int .i64 op, .int .i64 sz, .int .i64 cd, .int .i64 fr, .int .i64 d.k, .int .i64 d.r, .int .i64 d.b, .int .i64 d.i, .int .i64 d.s, .int .i64 d.d, .int .i64 d.m, .int .i64 s.k, .int .i64 s.r, .int .i64 s.b, .int .i64 s.i, .int .i64 s.s, .int .i64 s.d, .int .i64 s.m, .int .i64 ln] (0, 0) _ R0.out Tryz.underlying33 rfl (by kernel_rfl) ?_)
        refine (CC.out _ B0.out).mono ?_
        rintro e w1 ⟨rfl, hb⟩
        have R1 := Lib.hid ((hb.block _ (lt_of_blk R0.out)).trans R0.out)
        have B1 := Lib.hid (B0.out.trans (hb.mono B0.out.size))
        clear hb
        go_wp2_with (first | refine wpList_load_row rfl 33 (.tmp 1) rfl w.heap.size rfl 33 #[.int .i64 op, .int .i64 sz, .int .i64 cd, .int .i64 fr, .int .i64 d.k, .int .i64 d.r, .int .i64 d.b, .int .i64 d.i, .int .i64 d.s, .int .i64 d.d, .int .i64 d.m, .int .i64 s.k, .int .i64 s.r, .int .i64 s.b, .int .i64 s.i, .int .i64 s.s, .int .i64 s.d, .int .i64 s.m, .int .i64 ln] (0, 0) _ R1.out Tryz.underlying33 rfl (by kernel_rfl) ?_ | refine load_rowG (by rfl) 33 (.tmp 1) rfl w.heap.size rfl 33 #[.int .i64 op, .int .i64 sz, .int .i64 cd, .int .i64 fr, .int .i64 d.k, .int .i64 d.r, .int .i64 d.b, .int .i64 d.i, .int .i64 d.s, .int .i64 d.d, .int .i64 d.m, .int .i64 s.k, .int .i64 s.r, .int .i64 s.b, .int .i64 s.i, .int .i64 s.s, .int .i64 s.d, .int .i64 s.m, .int .i64 ln] (0, 0) _ R1.out Tryz.underlying33 rfl (by kernel_rfl) ?_)
        refine (CF.out _).mono ?_
        rintro e w2 ⟨rfl, hb⟩
        have R2 := Lib.hid ((hb.block _ (lt_of_blk R1.out)).trans R1.out)
        have B2 := Lib.hid (B1.out.trans (hb.mono B1.out.size))
        clear hb
        go_wp2
        go_ret
        exact ⟨rfl, B2.out⟩
      case true =>
        cases b3
        case false =>
          rw [show insK ⟨op, sz, cd, fr, d, s, ln⟩ = false from by rw [HA.out]; rfl]
          clear HA
          go_enter Tryz.func13, Tryz.ntmps13
          go_wp2_with (first | refine wpList_load_row rfl 33 (.tmp 1) rfl w.heap.size rfl 33 #[.int .i64 op, .int .i64 sz, .int .i64 cd, .int .i64 fr, .int .i64 d.k, .int .i64 d.r, .int .i64 d.b, .int .i64 d.i, .int .i64 d.s, .int .i64 d.d, .int .i64 d.m, .int .i64 s.k, .int .i64 s.r, .int .i64 s.b, .int .i64 s.i, .int .i64 s.s, .int .i64 s.d, .int .i64 s.m, .int .i64 ln] (0, 0) _ R0.out Tryz.underlying33 rfl (by kernel_rfl) ?_ | refine load_rowG (by rfl) 33 (.tmp 1) rfl w.heap.size rfl 33 #[.int .i64 op, .int .i64 sz, .int .i64 cd, .int .i64 fr, .int .i64 d.k, .int .i64 d.r, .int .i64 d.b, .int .i64 d.i, .int .i64 d.s, .int .i64 d.d, .int .i64 d.m, .int .i64 s.k, .int .i64 s.r, .int .i64 s.b, .int .i64 s.i, .int .i64 s.s, .int .i64 s.d, .int .i64 s.m, .int .i64 ln] (0, 0) _ R0.out Tryz.underlying33 rfl (by kernel_rfl) ?_)
          refine (CC.out _ B0.out).mono ?_
          rintro e w1 ⟨rfl, hb⟩
          have R1 := Lib.hid ((hb.block _ (lt_of_blk R0.out)).trans R0.out)
          have B1 := Lib.hid (B0.out.trans (hb.mono B0.out.size))
          clear hb
          go_wp2_with (first | refine wpList_load_row rfl 33 (.tmp 1) rfl w.heap.size rfl 33 #[.int .i64 op, .int .i64 sz, .int .i64 cd, .int .i64 fr, .int .i64 d.k, .int .i64 d.r, .int .i64 d.b, .int .i64 d.i, .int .i64 d.s, .int .i64 d.d, .int .i64 d.m, .int .i64 s.k, .int .i64 s.r, .int .i64 s.b, .int .i64 s.i, .int .i64 s.s, .int .i64 s.d, .int .i64 s.m, .int .i64 ln] (0, 0) _ R1.out Tryz.underlying33 rfl (by kernel_rfl) ?_ | refine load_rowG (by rfl) 33 (.tmp 1) rfl w.heap.size rfl 33 #[.int .i64 op, .int .i64 sz, .int .i64 cd, .int .i64 fr, .int .i64 d.k, .int .i64 d.r, .int .i64 d.b, .int .i64 d.i, .int .i64 d.s, .int .i64 d.d, .int .i64 d.m, .int .i64 s.k, .int .i64 s.r, .int .i64 s.b, .int .i64 s.i, .int .i64 s.s, .int .i64 s.d, .int .i64 s.m, .int .i64 ln] (0, 0) _ R1.out Tryz.underlying33 rfl (by kernel_rfl) ?_)
          refine (CF.out _).mono ?_
          rintro e w2 ⟨rfl, hb⟩
          have R2 := Lib.hid ((hb.block _ (lt_of_blk R1.out)).trans R1.out)
          have B2 := Lib.hid (B1.out.trans (hb.mono B1.out.size))
          clear hb
          go_wp2_with (first | refine wpList_load_row rfl 33 (.tmp 1) rfl w.heap.size rfl 33 #[.int .i64 op, .int .i64 sz, .int .i64 cd, .int .i64 fr, .int .i64 d.k, .int .i64 d.r, .int .i64 d.b, .int .i64 d.i, .int .i64 d.s, .int .i64 d.d, .int .i64 d.m, .int .i64 s.k, .int .i64 s.r, .int .i64 s.b, .int .i64 s.i, .int .i64 s.s, .int .i64 s.d, .int .i64 s.m, .int .i64 ln] (0, 0) _ R2.out Tryz.underlying33 rfl (by kernel_rfl) ?_ | refine load_rowG (by rfl) 33 (.tmp 1) rfl w.heap.size rfl 33 #[.int .i64 op, .int .i64 sz, .int .i64 cd, .int .i64 fr, .int .i64 d.k, .int .i64 d.r, .int .i64 d.b, .int .i64 d.i, .int .i64 d.s, .int .i64 d.d, .int .i64 d.m, .int .i64 s.k, .int .i64 s.r, .int .i64 s.b, .int .i64 s.i, .int .i64 s.s, .int .i64 s.d, .int .i64 s.m, .int .i64 ln] (0, 0) _ R2.out Tryz.underlying33 rfl (by kernel_rfl) ?_)
          refine (CO.out _ B2.out).mono ?_
          rintro e w3 ⟨rfl, hb⟩
          have R3 := Lib.hid ((hb.block _ (lt_of_blk R2.out)).trans R2.out)
          have B3 := Lib.hid (B2.out.trans (hb.mono B2.out.size))
          clear hb
          go_wp2
          go_ret
          exact ⟨rfl, B3.out⟩
        case true =>
          cases b4
          case false =>
            rw [show insK ⟨op, sz, cd, fr, d, s, ln⟩ = false from by rw [HA.out]; rfl]
            clear HA
            go_enter Tryz.func13, Tryz.ntmps13
            go_wp2_with (first | refine wpList_load_row rfl 33 (.tmp 1) rfl w.heap.size rfl 33 #[.int .i64 op, .int .i64 sz, .int .i64 cd, .int .i64 fr, .int .i64 d.k, .int .i64 d.r, .int .i64 d.b, .int .i64 d.i, .int .i64 d.s, .int .i64 d.d, .int .i64 d.m, .int .i64 s.k, .int .i64 s.r, .int .i64 s.b, .int .i64 s.i, .int .i64 s.s, .int .i64 s.d, .int .i64 s.m, .int .i64 ln] (0, 0) _ R0.out Tryz.underlying33 rfl (by kernel_rfl) ?_ | refine load_rowG (by rfl) 33 (.tmp 1) rfl w.heap.size rfl 33 #[.int .i64 op, .int .i64 sz, .int .i64 cd, .int .i64 fr, .int .i64 d.k, .int .i64 d.r, .int .i64 d.b, .int .i64 d.i, .int .i64 d.s, .int .i64 d.d, .int .i64 d.m, .int .i64 s.k, .int .i64 s.r, .int .i64 s.b, .int .i64 s.i, .int .i64 s.s, .int .i64 s.d, .int .i64 s.m, .int .i64 ln] (0, 0) _ R0.out Tryz.underlying33 rfl (by kernel_rfl) ?_)
            refine (CC.out _ B0.out).mono ?_
            rintro e w1 ⟨rfl, hb⟩
            have R1 := Lib.hid ((hb.block _ (lt_of_blk R0.out)).trans R0.out)
            have B1 := Lib.hid (B0.out.trans (hb.mono B0.out.size))
            clear hb
            go_wp2_with (first | refine wpList_load_row rfl 33 (.tmp 1) rfl w.heap.size rfl 33 #[.int .i64 op, .int .i64 sz, .int .i64 cd, .int .i64 fr, .int .i64 d.k, .int .i64 d.r, .int .i64 d.b, .int .i64 d.i, .int .i64 d.s, .int .i64 d.d, .int .i64 d.m, .int .i64 s.k, .int .i64 s.r, .int .i64 s.b, .int .i64 s.i, .int .i64 s.s, .int .i64 s.d, .int .i64 s.m, .int .i64 ln] (0, 0) _ R1.out Tryz.underlying33 rfl (by kernel_rfl) ?_ | refine load_rowG (by rfl) 33 (.tmp 1) rfl w.heap.size rfl 33 #[.int .i64 op, .int .i64 sz, .int .i64 cd, .int .i64 fr, .int .i64 d.k, .int .i64 d.r, .int .i64 d.b, .int .i64 d.i, .int .i64 d.s, .int .i64 d.d, .int .i64 d.m, .int .i64 s.k, .int .i64 s.r, .int .i64 s.b, .int .i64 s.i, .int .i64 s.s, .int .i64 s.d, .int .i64 s.m, .int .i64 ln] (0, 0) _ R1.out Tryz.underlying33 rfl (by kernel_rfl) ?_)
            refine (CF.out _).mono ?_
            rintro e w2 ⟨rfl, hb⟩
            have R2 := Lib.hid ((hb.block _ (lt_of_blk R1.out)).trans R1.out)
            have B2 := Lib.hid (B1.out.trans (hb.mono B1.out.size))
            clear hb
            go_wp2_with (first | refine wpList_load_row rfl 33 (.tmp 1) rfl w.heap.size rfl 33 #[.int .i64 op, .int .i64 sz, .int .i64 cd, .int .i64 fr, .int .i64 d.k, .int .i64 d.r, .int .i64 d.b, .int .i64 d.i, .int .i64 d.s, .int .i64 d.d, .int .i64 d.m, .int .i64 s.k, .int .i64 s.r, .int .i64 s.b, .int .i64 s.i, .int .i64 s.s, .int .i64 s.d, .int .i64 s.m, .int .i64 ln] (0, 0) _ R2.out Tryz.underlying33 rfl (by kernel_rfl) ?_ | refine load_rowG (by rfl) 33 (.tmp 1) rfl w.heap.size rfl 33 #[.int .i64 op, .int .i64 sz, .int .i64 cd, .int .i64 fr, .int .i64 d.k, .int .i64 d.r, .int .i64 d.b, .int .i64 d.i, .int .i64 d.s, .int .i64 d.d, .int .i64 d.m, .int .i64 s.k, .int .i64 s.r, .int .i64 s.b, .int .i64 s.i, .int .i64 s.s, .int .i64 s.d, .int .i64 s.m, .int .i64 ln] (0, 0) _ R2.out Tryz.underlying33 rfl (by kernel_rfl) ?_)
            refine (CO.out _ B2.out).mono ?_
            rintro e w3 ⟨rfl, hb⟩
            have R3 := Lib.hid ((hb.block _ (lt_of_blk R2.out)).trans R2.out)
            have B3 := Lib.hid (B2.out.trans (hb.mono B2.out.size))
            clear hb
            go_wp2_with (first | refine wpList_load_row rfl 33 (.tmp 1) rfl w.heap.size rfl 33 #[.int .i64 op, .int .i64 sz, .int .i64 cd, .int .i64 fr, .int .i64 d.k, .int .i64 d.r, .int .i64 d.b, .int .i64 d.i, .int .i64 d.s, .int .i64 d.d, .int .i64 d.m, .int .i64 s.k, .int .i64 s.r, .int .i64 s.b, .int .i64 s.i, .int .i64 s.s, .int .i64 s.d, .int .i64 s.m, .int .i64 ln] (0, 0) _ R3.out Tryz.underlying33 rfl (by kernel_rfl) ?_ | refine load_rowG (by rfl) 33 (.tmp 1) rfl w.heap.size rfl 33 #[.int .i64 op, .int .i64 sz, .int .i64 cd, .int .i64 fr, .int .i64 d.k, .int .i64 d.r, .int .i64 d.b, .int .i64 d.i, .int .i64 d.s, .int .i64 d.d, .int .i64 d.m, .int .i64 s.k, .int .i64 s.r, .int .i64 s.b, .int .i64 s.i, .int .i64 s.s, .int .i64 s.d, .int .i64 s.m, .int .i64 ln] (0, 0) _ R3.out Tryz.underlying33 rfl (by kernel_rfl) ?_)
            refine (CN.out _).mono ?_
            rintro e w4 ⟨rfl, hb⟩
            have R4 := Lib.hid ((hb.block _ (lt_of_blk R3.out)).trans R3.out)
            have B4 := Lib.hid (B3.out.trans (hb.mono B3.out.size))
            clear hb
            go_wp2
            go_ret
            exact ⟨rfl, B4.out⟩
          case true =>
            cases b5
            case false =>
              rw [show insK ⟨op, sz, cd, fr, d, s, ln⟩ = true from by rw [HA.out]; rfl]
              clear HA
              go_enter Tryz.func13, Tryz.ntmps13
              go_wp2_with (first | refine wpList_load_row rfl 33 (.tmp 1) rfl w.heap.size rfl 33 #[.int .i64 op, .int .i64 sz, .int .i64 cd, .int .i64 fr, .int .i64 d.k, .int .i64 d.r, .int .i64 d.b, .int .i64 d.i, .int .i64 d.s, .int .i64 d.d, .int .i64 d.m, .int .i64 s.k, .int .i64 s.r, .int .i64 s.b, .int .i64 s.i, .int .i64 s.s, .int .i64 s.d, .int .i64 s.m, .int .i64 ln] (0, 0) _ R0.out Tryz.underlying33 rfl (by kernel_rfl) ?_ | refine load_rowG (by rfl) 33 (.tmp 1) rfl w.heap.size rfl 33 #[.int .i64 op, .int .i64 sz, .int .i64 cd, .int .i64 fr, .int .i64 d.k, .int .i64 d.r, .int .i64 d.b, .int .i64 d.i, .int .i64 d.s, .int .i64 d.d, .int .i64 d.m, .int .i64 s.k, .int .i64 s.r, .int .i64 s.b, .int .i64 s.i, .int .i64 s.s, .int .i64 s.d, .int .i64 s.m, .int .i64 ln] (0, 0) _ R0.out Tryz.underlying33 rfl (by kernel_rfl) ?_)
              refine (CC.out _ B0.out).mono ?_
              rintro e w1 ⟨rfl, hb⟩
              have R1 := Lib.hid ((hb.block _ (lt_of_blk R0.out)).trans R0.out)
              have B1 := Lib.hid (B0.out.trans (hb.mono B0.out.size))
              clear hb
              go_wp2_with (first | refine wpList_load_row rfl 33 (.tmp 1) rfl w.heap.size rfl 33 #[.int .i64 op, .int .i64 sz, .int .i64 cd, .int .i64 fr, .int .i64 d.k, .int .i64 d.r, .int .i64 d.b, .int .i64 d.i, .int .i64 d.s, .int .i64 d.d, .int .i64 d.m, .int .i64 s.k, .int .i64 s.r, .int .i64 s.b, .int .i64 s.i, .int .i64 s.s, .int .i64 s.d, .int .i64 s.m, .int .i64 ln] (0, 0) _ R1.out Tryz.underlying33 rfl (by kernel_rfl) ?_ | refine load_rowG (by rfl) 33 (.tmp 1) rfl w.heap.size rfl 33 #[.int .i64 op, .int .i64 sz, .int .i64 cd, .int .i64 fr, .int .i64 d.k, .int .i64 d.r, .int .i64 d.b, .int .i64 d.i, .int .i64 d.s, .int .i64 d.d, .int .i64 d.m, .int .i64 s.k, .int .i64 s.r, .int .i64 s.b, .int .i64 s.i, .int .i64 s.s, .int .i64 s.d, .int .i64 s.m, .int .i64 ln] (0, 0) _ R1.out Tryz.underlying33 rfl (by kernel_rfl) ?_)
              refine (CF.out _).mono ?_
              rintro e w2 ⟨rfl, hb⟩
              have R2 := Lib.hid ((hb.block _ (lt_of_blk R1.out)).trans R1.out)
              have B2 := Lib.hid (B1.out.trans (hb.mono B1.out.size))
              clear hb
              go_wp2_with (first | refine wpList_load_row rfl 33 (.tmp 1) rfl w.heap.size rfl 33 #[.int .i64 op, .int .i64 sz, .int .i64 cd, .int .i64 fr, .int .i64 d.k, .int .i64 d.r, .int .i64 d.b, .int .i64 d.i, .int .i64 d.s, .int .i64 d.d, .int .i64 d.m, .int .i64 s.k, .int .i64 s.r, .int .i64 s.b, .int .i64 s.i, .int .i64 s.s, .int .i64 s.d, .int .i64 s.m, .int .i64 ln] (0, 0) _ R2.out Tryz.underlying33 rfl (by kernel_rfl) ?_ | refine load_rowG (by rfl) 33 (.tmp 1) rfl w.heap.size rfl 33 #[.int .i64 op, .int .i64 sz, .int .i64 cd, .int .i64 fr, .int .i64 d.k, .int .i64 d.r, .int .i64 d.b, .int .i64 d.i, .int .i64 d.s, .int .i64 d.d, .int .i64 d.m, .int .i64 s.k, .int .i64 s.r, .int .i64 s.b, .int .i64 s.i, .int .i64 s.s, .int .i64 s.d, .int .i64 s.m, .int .i64 ln] (0, 0) _ R2.out Tryz.underlying33 rfl (by kernel_rfl) ?_)
              refine (CO.out _ B2.out).mono ?_
              rintro e w3 ⟨rfl, hb⟩
              have R3 := Lib.hid ((hb.block _ (lt_of_blk R2.out)).trans R2.out)
              have B3 := Lib.hid (B2.out.trans (hb.mono B2.out.size))
              clear hb
              go_wp2_with (first | refine wpList_load_row rfl 33 (.tmp 1) rfl w.heap.size rfl 33 #[.int .i64 op, .int .i64 sz, .int .i64 cd, .int .i64 fr, .int .i64 d.k, .int .i64 d.r, .int .i64 d.b, .int .i64 d.i, .int .i64 d.s, .int .i64 d.d, .int .i64 d.m, .int .i64 s.k, .int .i64 s.r, .int .i64 s.b, .int .i64 s.i, .int .i64 s.s, .int .i64 s.d, .int .i64 s.m, .int .i64 ln] (0, 0) _ R3.out Tryz.underlying33 rfl (by kernel_rfl) ?_ | refine load_rowG (by rfl) 33 (.tmp 1) rfl w.heap.size rfl 33 #[.int .i64 op, .int .i64 sz, .int .i64 cd, .int .i64 fr, .int .i64 d.k, .int .i64 d.r, .int .i64 d.b, .int .i64 d.i, .int .i64 d.s, .int .i64 d.d, .int .i64 d.m, .int .i64 s.k, .int .i64 s.r, .int .i64 s.b, .int .i64 s.i, .int .i64 s.s, .int .i64 s.d, .int .i64 s.m, .int .i64 ln] (0, 0) _ R3.out Tryz.underlying33 rfl (by kernel_rfl) ?_)
              refine (CN.out _).mono ?_
              rintro e w4 ⟨rfl, hb⟩
              have R4 := Lib.hid ((hb.block _ (lt_of_blk R3.out)).trans R3.out)
              have B4 := Lib.hid (B3.out.trans (hb.mono B3.out.size))
              clear hb
              go_wp2_with (first | refine wpList_load_row rfl 33 (.tmp 1) rfl w.heap.size rfl 33 #[.int .i64 op, .int .i64 sz, .int .i64 cd, .int .i64 fr, .int .i64 d.k, .int .i64 d.r, .int .i64 d.b, .int .i64 d.i, .int .i64 d.s, .int .i64 d.d, .int .i64 d.m, .int .i64 s.k, .int .i64 s.r, .int .i64 s.b, .int .i64 s.i, .int .i64 s.s, .int .i64 s.d, .int .i64 s.m, .int .i64 ln] (0, 0) _ R4.out Tryz.underlying33 rfl (by kernel_rfl) ?_ | refine load_rowG (by rfl) 33 (.tmp 1) rfl w.heap.size rfl 33 #[.int .i64 op, .int .i64 sz, .int .i64 cd, .int .i64 fr, .int .i64 d.k, .int .i64 d.r, .int .i64 d.b, .int .i64 d.i, .int .i64 d.s, .int .i64 d.d, .int .i64 d.m, .int .i64 s.k, .int .i64 s.r, .int .i64 s.b, .int .i64 s.i, .int .i64 s.s, .int .i64 s.d, .int .i64 s.m, .int .i64 ln] (0, 0) _ R4.out Tryz.underlying33 rfl (by kernel_rfl) ?_)
              refine (CR.out _).mono ?_
              rintro e w5 ⟨rfl, hb⟩
              have R5 := Lib.hid ((hb.block _ (lt_of_blk R4.out)).trans R4.out)
              have B5 := Lib.hid (B4.out.trans (hb.mono B4.out.size))
              clear hb
              go_wp2
              go_ret
              exact ⟨rfl, B5.out⟩
            case true =>
              cases b6
              case true =>
                rw [show insK ⟨op, sz, cd, fr, d, s, ln⟩ = false from by rw [HA.out]; rfl]
                clear HA
                go_enter Tryz.func13, Tryz.ntmps13
                go_wp2_with (first | refine wpList_load_row rfl 33 (.tmp 1) rfl w.heap.size rfl 33 #[.int .i64 op, .int .i64 sz, .int .i64 cd, .int .i64 fr, .int .i64 d.k, .int .i64 d.r, .int .i64 d.b, .int .i64 d.i, .int .i64 d.s, .int .i64 d.d, .int .i64 d.m, .int .i64 s.k, .int .i64 s.r, .int .i64 s.b, .int .i64 s.i, .int .i64 s.s, .int .i64 s.d, .int .i64 s.m, .int .i64 ln] (0, 0) _ R0.out Tryz.underlying33 rfl (by kernel_rfl) ?_ | refine load_rowG (by rfl) 33 (.tmp 1) rfl w.heap.size rfl 33 #[.int .i64 op, .int .i64 sz, .int .i64 cd, .int .i64 fr, .int .i64 d.k, .int .i64 d.r, .int .i64 d.b, .int .i64 d.i, .int .i64 d.s, .int .i64 d.d, .int .i64 d.m, .int .i64 s.k, .int .i64 s.r, .int .i64 s.b, .int .i64 s.i, .int .i64 s.s, .int .i64 s.d, .int .i64 s.m, .int .i64 ln] (0, 0) _ R0.out Tryz.underlying33 rfl (by kernel_rfl) ?_)
                refine (CC.out _ B0.out).mono ?_
                rintro e w1 ⟨rfl, hb⟩
                have R1 := Lib.hid ((hb.block _ (lt_of_blk R0.out)).trans R0.out)
                have B1 := Lib.hid (B0.out.trans (hb.mono B0.out.size))
                clear hb
                go_wp2_with (first | refine wpList_load_row rfl 33 (.tmp 1) rfl w.heap.size rfl 33 #[.int .i64 op, .int .i64 sz, .int .i64 cd, .int .i64 fr, .int .i64 d.k, .int .i64 d.r, .int .i64 d.b, .int .i64 d.i, .int .i64 d.s, .int .i64 d.d, .int .i64 d.m, .int .i64 s.k, .int .i64 s.r, .int .i64 s.b, .int .i64 s.i, .int .i64 s.s, .int .i64 s.d, .int .i64 s.m, .int .i64 ln] (0, 0) _ R1.out Tryz.underlying33 rfl (by kernel_rfl) ?_ | refine load_rowG (by rfl) 33 (.tmp 1) rfl w.heap.size rfl 33 #[.int .i64 op, .int .i64 sz, .int .i64 cd, .int .i64 fr, .int .i64 d.k, .int .i64 d.r, .int .i64 d.b, .int .i64 d.i, .int .i64 d.s, .int .i64 d.d, .int .i64 d.m, .int .i64 s.k, .int .i64 s.r, .int .i64 s.b, .int .i64 s.i, .int .i64 s.s, .int .i64 s.d, .int .i64 s.m, .int .i64 ln] (0, 0) _ R1.out Tryz.underlying33 rfl (by kernel_rfl) ?_)
                refine (CF.out _).mono ?_
                rintro e w2 ⟨rfl, hb⟩
                have R2 := Lib.hid ((hb.block _ (lt_of_blk R1.out)).trans R1.out)
                have B2 := Lib.hid (B1.out.trans (hb.mono B1.out.size))
                clear hb
                go_wp2_with (first | refine wpList_load_row rfl 33 (.tmp 1) rfl w.heap.size rfl 33 #[.int .i64 op, .int .i64 sz, .int .i64 cd, .int .i64 fr, .int .i64 d.k, .int .i64 d.r, .int .i64 d.b, .int .i64 d.i, .int .i64 d.s, .int .i64 d.d, .int .i64 d.m, .int .i64 s.k, .int .i64 s.r, .int .i64 s.b, .int .i64 s.i, .int .i64 s.s, .int .i64 s.d, .int .i64 s.m, .int .i64 ln] (0, 0) _ R2.out Tryz.underlying33 rfl (by kernel_rfl) ?_ | refine load_rowG (by rfl) 33 (.tmp 1) rfl w.heap.size rfl 33 #[.int .i64 op, .int .i64 sz, .int .i64 cd, .int .i64 fr, .int .i64 d.k, .int .i64 d.r, .int .i64 d.b, .int .i64 d.i, .int .i64 d.s, .int .i64 d.d, .int .i64 d.m, .int .i64 s.k, .int .i64 s.r, .int .i64 s.b, .int .i64 s.i, .int .i64 s.s, .int .i64 s.d, .int .i64 s.m, .int .i64 ln] (0, 0) _ R2.out Tryz.underlying33 rfl (by kernel_rfl) ?_)
                refine (CO.out _ B2.out).mono ?_
                rintro e w3 ⟨rfl, hb⟩
                have R3 := Lib.hid ((hb.block _ (lt_of_blk R2.out)).trans R2.out)
                have B3 := Lib.hid (B2.out.trans (hb.mono B2.out.size))
                clear hb
                go_wp2_with (first | refine wpList_load_row rfl 33 (.tmp 1) rfl w.heap.size rfl 33 #[.int .i64 op, .int .i64 sz, .int .i64 cd, .int .i64 fr, .int .i64 d.k, .int .i64 d.r, .int .i64 d.b, .int .i64 d.i, .int .i64 d.s, .int .i64 d.d, .int .i64 d.m, .int .i64 s.k, .int .i64 s.r, .int .i64 s.b, .int .i64 s.i, .int .i64 s.s, .int .i64 s.d, .int .i64 s.m, .int .i64 ln] (0, 0) _ R3.out Tryz.underlying33 rfl (by kernel_rfl) ?_ | refine load_rowG (by rfl) 33 (.tmp 1) rfl w.heap.size rfl 33 #[.int .i64 op, .int .i64 sz, .int .i64 cd, .int .i64 fr, .int .i64 d.k, .int .i64 d.r, .int .i64 d.b, .int .i64 d.i, .int .i64 d.s, .int .i64 d.d, .int .i64 d.m, .int .i64 s.k, .int .i64 s.r, .int .i64 s.b, .int .i64 s.i, .int .i64 s.s, .int .i64 s.d, .int .i64 s.m, .int .i64 ln] (0, 0) _ R3.out Tryz.underlying33 rfl (by kernel_rfl) ?_)
                refine (CN.out _).mono ?_
                rintro e w4 ⟨rfl, hb⟩
                have R4 := Lib.hid ((hb.block _ (lt_of_blk R3.out)).trans R3.out)
                have B4 := Lib.hid (B3.out.trans (hb.mono B3.out.size))
                clear hb
                go_wp2_with (first | refine wpList_load_row rfl 33 (.tmp 1) rfl w.heap.size rfl 33 #[.int .i64 op, .int .i64 sz, .int .i64 cd, .int .i64 fr, .int .i64 d.k, .int .i64 d.r, .int .i64 d.b, .int .i64 d.i, .int .i64 d.s, .int .i64 d.d, .int .i64 d.m, .int .i64 s.k, .int .i64 s.r, .int .i64 s.b, .int .i64 s.i, .int .i64 s.s, .int .i64 s.d, .int .i64 s.m, .int .i64 ln] (0, 0) _ R4.out Tryz.underlying33 rfl (by kernel_rfl) ?_ | refine load_rowG (by rfl) 33 (.tmp 1) rfl w.heap.size rfl 33 #[.int .i64 op, .int .i64 sz, .int .i64 cd, .int .i64 fr, .int .i64 d.k, .int .i64 d.r, .int .i64 d.b, .int .i64 d.i, .int .i64 d.s, .int .i64 d.d, .int .i64 d.m, .int .i64 s.k, .int .i64 s.r, .int .i64 s.b, .int .i64 s.i, .int .i64 s.s, .int .i64 s.d, .int .i64 s.m, .int .i64 ln] (0, 0) _ R4.out Tryz.underlying33 rfl (by kernel_rfl) ?_)
                refine (CR.out _).mono ?_
                rintro e w5 ⟨rfl, hb⟩
                have R5 := Lib.hid ((hb.block _ (lt_of_blk R4.out)).trans R4.out)
                have B5 := Lib.hid (B4.out.trans (hb.mono B4.out.size))
                clear hb
                have c4 := cell_of_row _ _ 4 _ _ _ R5.out
                have c5 := cell_of_row _ _ 5 _ _ _ R5.out
                have c6 := cell_of_row _ _ 6 _ _ _ R5.out
                have c7 := cell_of_row _ _ 7 _ _ _ R5.out
                have c8 := cell_of_row _ _ 8 _ _ _ R5.out
                have c9 := cell_of_row _ _ 9 _ _ _ R5.out
                have c10 := cell_of_row _ _ 10 _ _ _ R5.out
                simp only [List.getElem?_toArray, List.getElem?_cons_zero, List.getElem?_cons_succ] at c4 c5 c6 c7 c8 c9 c10
                go_wp2_with fail
                refine (CD.out _).mono ?_
                rintro e w6 ⟨rfl, hb⟩
                have R6 := Lib.hid ((hb.block _ (lt_of_blk R5.out)).trans R5.out)
                have B6 := Lib.hid (B5.out.trans (hb.mono B5.out.size))
                clear hb
                clear c4 c5 c6 c7 c8 c9 c10
                go_wp2
                go_ret
                exact ⟨rfl, B6.out⟩
              case false =>
                rw [show insK ⟨op, sz, cd, fr, d, s, ln⟩ = !b7 from by rw [HA.out]; rfl]
                clear HA
                go_enter Tryz.func13, Tryz.ntmps13
                go_wp2_with (first | refine wpList_load_row rfl 33 (.tmp 1) rfl w.heap.size rfl 33 #[.int .i64 op, .int .i64 sz, .int .i64 cd, .int .i64 fr, .int .i64 d.k, .int .i64 d.r, .int .i64 d.b, .int .i64 d.i, .int .i64 d.s, .int .i64 d.d, .int .i64 d.m, .int .i64 s.k, .int .i64 s.r, .int .i64 s.b, .int .i64 s.i, .int .i64 s.s, .int .i64 s.d, .int .i64 s.m, .int .i64 ln] (0, 0) _ R0.out Tryz.underlying33 rfl (by kernel_rfl) ?_ | refine load_rowG (by rfl) 33 (.tmp 1) rfl w.heap.size rfl 33 #[.int .i64 op, .int .i64 sz, .int .i64 cd, .int .i64 fr, .int .i64 d.k, .int .i64 d.r, .int .i64 d.b, .int .i64 d.i, .int .i64 d.s, .int .i64 d.d, .int .i64 d.m, .int .i64 s.k, .int .i64 s.r, .int .i64 s.b, .int .i64 s.i, .int .i64 s.s, .int .i64 s.d, .int .i64 s.m, .int .i64 ln] (0, 0) _ R0.out Tryz.underlying33 rfl (by kernel_rfl) ?_)
                refine (CC.out _ B0.out).mono ?_
                rintro e w1 ⟨rfl, hb⟩
                have R1 := Lib.hid ((hb.block _ (lt_of_blk R0.out)).trans R0.out)
                have B1 := Lib.hid (B0.out.trans (hb.mono B0.out.size))
                clear hb
                go_wp2_with (first | refine wpList_load_row rfl 33 (.tmp 1) rfl w.heap.size rfl 33 #[.int .i64 op, .int .i64 sz, .int .i64 cd, .int .i64 fr, .int .i64 d.k, .int .i64 d.r, .int .i64 d.b, .int .i64 d.i, .int .i64 d.s, .int .i64 d.d, .int .i64 d.m, .int .i64 s.k, .int .i64 s.r, .int .i64 s.b, .int .i64 s.i, .int .i64 s.s, .int .i64 s.d, .int .i64 s.m, .int .i64 ln] (0, 0) _ R1.out Tryz.underlying33 rfl (by kernel_rfl) ?_ | refine load_rowG (by rfl) 33 (.tmp 1) rfl w.heap.size rfl 33 #[.int .i64 op, .int .i64 sz, .int .i64 cd, .int .i64 fr, .int .i64 d.k, .int .i64 d.r, .int .i64 d.b, .int .i64 d.i, .int .i64 d.s, .int .i64 d.d, .int .i64 d.m, .int .i64 s.k, .int .i64 s.r, .int .i64 s.b, .int .i64 s.i, .int .i64 s.s, .int .i64 s.d, .int .i64 s.m, .int .i64 ln] (0, 0) _ R1.out Tryz.underlying33 rfl (by kernel_rfl) ?_)
                refine (CF.out _).mono ?_
                rintro e w2 ⟨rfl, hb⟩
                have R2 := Lib.hid ((hb.block _ (lt_of_blk R1.out)).trans R1.out)
                have B2 := Lib.hid (B1.out.trans (hb.mono B1.out.size))
                clear hb
                go_wp2_with (first | refine wpList_load_row rfl 33 (.tmp 1) rfl w.heap.size rfl 33 #[.int .i64 op, .int .i64 sz, .int .i64 cd, .int .i64 fr, .int .i64 d.k, .int .i64 d.r, .int .i64 d.b, .int .i64 d.i, .int .i64 d.s, .int .i64 d.d, .int .i64 d.m, .int .i64 s.k, .int .i64 s.r, .int .i64 s.b, .int .i64 s.i, .int .i64 s.s, .int .i64 s.d, .int .i64 s.m, .int .i64 ln] (0, 0) _ R2.out Tryz.underlying33 rfl (by kernel_rfl) ?_ | refine load_rowG (by rfl) 33 (.tmp 1) rfl w.heap.size rfl 33 #[.int .i64 op, .int .i64 sz, .int .i64 cd, .int .i64 fr, .int .i64 d.k, .int .i64 d.r, .int .i64 d.b, .int .i64 d.i, .int .i64 d.s, .int .i64 d.d, .int .i64 d.m, .int .i64 s.k, .int .i64 s.r, .int .i64 s.b, .int .i64 s.i, .int .i64 s.s, .int .i64 s.d, .int .i64 s.m, .int .i64 ln] (0, 0) _ R2.out Tryz.underlying33 rfl (by kernel_rfl) ?_)
                refine (CO.out _ B2.out).mono ?_
                rintro e w3 ⟨rfl, hb⟩
                have R3 := Lib.hid ((hb.block _ (lt_of_blk R2.out)).trans R2.out)
                have B3 := Lib.hid (B2.out.trans (hb.mono B2.out.size))
                clear hb
                go_wp2_with (first | refine wpList_load_row rfl 33 (.tmp 1) rfl w.heap.size rfl 33 #[.int .i64 op, .int .i64 sz, .int .i64 cd, .int .i64 fr, .int .i64 d.k, .int .i64 d.r, .int .i64 d.b, .int .i64 d.i, .int .i64 d.s, .int .i64 d.d, .int .i64 d.m, .int .i64 s.k, .int .i64 s.r, .int .i64 s.b, .int .i64 s.i, .int .i64 s.s, .int .i64 s.d, .int .i64 s.m, .int .i64 ln] (0, 0) _ R3.out Tryz.underlying33 rfl (by kernel_rfl) ?_ | refine load_rowG (by rfl) 33 (.tmp 1) rfl w.heap.size rfl 33 #[.int .i64 op, .int .i64 sz, .int .i64 cd, .int .i64 fr, .int .i64 d.k, .int .i64 d.r, .int .i64 d.b, .int .i64 d.i, .int .i64 d.s, .int .i64 d.d, .int .i64 d.m, .int .i64 s.k, .int .i64 s.r, .int .i64 s.b, .int .i64 s.i, .int .i64 s.s, .int .i64 s.d, .int .i64 s.m, .int .i64 ln] (0, 0) _ R3.out Tryz.underlying33 rfl (by kernel_rfl) ?_)
                refine (CN.out _).mono ?_
                rintro e w4 ⟨rfl, hb⟩
                have R4 := Lib.hid ((hb.block _ (lt_of_blk R3.out)).trans R3.out)
                have B4 := Lib.hid (B3.out.trans (hb.mono B3.out.size))
                clear hb
                go_wp2_with (first | refine wpList_load_row rfl 33 (.tmp 1) rfl w.heap.size rfl 33 #[.int .i64 op, .int .i64 sz, .int .i64 cd, .int .i64 fr, .int .i64 d.k, .int .i64 d.r, .int .i64 d.b, .int .i64 d.i, .int .i64 d.s, .int .i64 d.d, .int .i64 d.m, .int .i64 s.k, .int .i64 s.r, .int .i64 s.b, .int .i64 s.i, .int .i64 s.s, .int .i64 s.d, .int .i64 s.m, .int .i64 ln] (0, 0) _ R4.out Tryz.underlying33 rfl (by kernel_rfl) ?_ | refine load_rowG (by rfl) 33 (.tmp 1) rfl w.heap.size rfl 33 #[.int .i64 op, .int .i64 sz, .int .i64 cd, .int .i64 fr, .int .i64 d.k, .int .i64 d.r, .int .i64 d.b, .int .i64 d.i, .int .i64 d.s, .int .i64 d.d, .int .i64 d.m, .int .i64 s.k, .int .i64 s.r, .int .i64 s.b, .int .i64 s.i, .int .i64 s.s, .int .i64 s.d, .int .i64 s.m, .int .i64 ln] (0, 0) _ R4.out Tryz.underlying33 rfl (by kernel_rfl) ?_)
                refine (CR.out _).mono ?_
                rintro e w5 ⟨rfl, hb⟩
                have R5 := Lib.hid ((hb.block _ (lt_of_blk R4.out)).trans R4.out)
                have B5 := Lib.hid (B4.out.trans (hb.mono B4.out.size))
                clear hb
                have c4 := cell_of_row _ _ 4 _ _ _ R5.out
                have c5 := cell_of_row _ _ 5 _ _ _ R5.out
                have c6 := cell_of_row _ _ 6 _ _ _ R5.out
                have c7 := cell_of_row _ _ 7 _ _ _ R5.out
                have c8 := cell_of_row _ _ 8 _ _ _ R5.out
                have c9 := cell_of_row _ _ 9 _ _ _ R5.out
                have c10 := cell_of_row _ _ 10 _ _ _ R5.out
                simp only [List.getElem?_toArray, List.getElem?_cons_zero, List.getElem?_cons_succ] at c4 c5 c6 c7 c8 c9 c10
                go_wp2_with fail
                refine (CD.out _).mono ?_
                rintro e w6 ⟨rfl, hb⟩
                have R6 := Lib.hid ((hb.block _ (lt_of_blk R5.out)).trans R5.out)
                have B6 := Lib.hid (B5.out.trans (hb.mono B5.out.size))
                clear hb
                clear c4 c5 c6 c7 c8 c9 c10
                have c11 := cell_of_row _ _ 11 _ _ _ R6.out
                have c12 := cell_of_row _ _ 12 _ _ _ R6.out
                have c13 := cell_of_row _ _ 13 _ _ _ R6.out
                have c14 := cell_of_row _ _ 14 _ _ _ R6.out
                have c15 := cell_of_row _ _ 15 _ _ _ R6.out
                have c16 := cell_of_row _ _ 16 _ _ _ R6.out
                have c17 := cell_of_row _ _ 17 _ _ _ R6.out
                simp only [List.getElem?_toArray, List.getElem?_cons_zero, List.getElem?_cons_succ] at c11 c12 c13 c14 c15 c16 c17
                go_wp2_with fail
                refine (CS.out _).mono ?_
                rintro e w7 ⟨rfl, hb⟩
                have R7 := Lib.hid ((hb.block _ (lt_of_blk R6.out)).trans R6.out)
                have B7 := Lib.hid (B6.out.trans (hb.mono B6.out.size))
                clear hb
                clear c11 c12 c13 c14 c15 c16 c17
                go_wp2
                go_ret
                exact ⟨rfl, B7.out⟩
end Go.Proofs.YtjnjlgaemmdkhaaGreatDoor
