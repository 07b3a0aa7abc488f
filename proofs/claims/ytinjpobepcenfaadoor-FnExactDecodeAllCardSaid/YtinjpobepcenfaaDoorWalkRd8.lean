/-
  What single, operands of the forms with one operand, and condition of impl's reader do; conditions: those in each head.
-/
import Derived.Test.YtinjpobepcenfaaDoorWalkRd6
namespace Go.Proofs.YtinjpobepcenfaaDoor
open Go.RowKit Go.Sort
set_option linter.unusedVariables false
theorem mkFuncD (fn : Fn) (first cap : Array Value) (w : World) : (Instr.makeFunc fn first cap).run Tryd.prog w = .ok (.func fn first cap) w := rfl
theorem opF {op : Int} (k : Int) (h : op ≠ k) : (op == k) = false := beq_eq_false_iff_ne.mpr h
set_option maxRecDepth 100000 in
set_option maxHeartbeats 4000000 in
theorem s6src (g : Nat) (R : Rd) (W0 w : World) (h : At W0 w g R) (hf : R.z.f = 6) (hop : srcOp R.op) (x : Opd) (n1 : Nat) (CP : Hid (∀ W, At W0 W g R → Calls Tryd.prog 97 #[.pointer (some ⟨g, 0, none⟩), .int .i64 R.sz] W fun e w' => e = .returned (V7 x) ∧ Wr W0 W w' g { R with n := n1 })) :
    Calls Tryd.prog 103 #[.pointer (some ⟨g, 0, none⟩)] w fun e w' => e = .returned (.tuple #[]) ∧ Wr W0 w w' g { R with n := n1, s := x } := by
  have c6 := h.rb.cell 6
  have c13 := h.rb.cell 13
  have c14 := h.rb.cell 14
  simp only [rdA, List.getElem?_toArray, List.getElem?_cons_zero, List.getElem?_cons_succ] at c6 c13 c14
  rw [hf] at c6
  rcases hop with hop | hop | hop | hop | hop | hop | hop
  all_goals
    rw [hop] at c13
    clear hop
    have hmf := mkFuncD
    have H := Lib.hid h
    clear h hf
    go_enter Tryd.func103, Tryd.ntmps103
    go_wp2_with fail
    refine Calls.mono (CP.out _ H.out) ?_
    rintro e w1 ⟨rfl, h1⟩
    obtain ⟨y17, y18, y19, y20, y21, y22, y23, y24, y25, y26, y27, y28, y29, y30, f17, f18, f19, f20, f21, f22, f23, f24, f25, f26, f27, f28, f29, f30⟩ := rd14 h1.1
    have H9 := Lib.hid h1
    clear h1
    try unfold V7
    go_wp2
    go_end0
    exact ⟨rfl, (H9.out.s x)⟩
set_option maxRecDepth 100000 in
set_option maxHeartbeats 4000000 in
theorem s6srcn (g : Nat) (R : Rd) (W0 w : World) (h : At W0 w g R) (hf : R.z.f = 6) (hop : srcOp R.op) (CP : Hid (∀ W, At W0 W g R → Calls Tryd.prog 97 #[.pointer (some ⟨g, 0, none⟩), .int .i64 R.sz] W fun e w' => e = endP ∧ Ch W w' g)) :
    Calls Tryd.prog 103 #[.pointer (some ⟨g, 0, none⟩)] w fun e w' => e = endP ∧ Ch w w' g := by
  have c6 := h.rb.cell 6
  have c13 := h.rb.cell 13
  have c14 := h.rb.cell 14
  simp only [rdA, List.getElem?_toArray, List.getElem?_cons_zero, List.getElem?_cons_succ] at c6 c13 c14
  rw [hf] at c6
  rcases hop with hop | hop | hop | hop | hop | hop | hop
  all_goals
    rw [hop] at c13
    clear hop
    have hmf := mkFuncD
    have H := Lib.hid h
    clear h hf
    go_enter Tryd.func103, Tryd.ntmps103
    unfold endP at *
    go_wp2_with fail
    refine Calls.mono (CP.out _ H.out) ?_
    rintro e w1 ⟨rfl, hc⟩
    go_wp2
    exact ⟨rfl, rfl, hc⟩
set_option maxRecDepth 100000 in
set_option maxHeartbeats 4000000 in
theorem s6dst (g : Nat) (R : Rd) (W0 w : World) (h : At W0 w g R) (hf : R.z.f = 6) (hop : ¬ srcOp R.op) (hop2 : R.op ≠ 10) (x : Opd) (n1 : Nat) (CP : Hid (∀ W, At W0 W g R → Calls Tryd.prog 97 #[.pointer (some ⟨g, 0, none⟩), .int .i64 R.sz] W fun e w' => e = .returned (V7 x) ∧ Wr W0 W w' g { R with n := n1 })) :
    Calls Tryd.prog 103 #[.pointer (some ⟨g, 0, none⟩)] w fun e w' => e = .returned (.tuple #[]) ∧ Wr W0 w w' g { R with n := n1, d := x } := by
  have c6 := h.rb.cell 6
  have c13 := h.rb.cell 13
  have c14 := h.rb.cell 14
  simp only [rdA, List.getElem?_toArray, List.getElem?_cons_zero, List.getElem?_cons_succ] at c6 c13 c14
  rw [hf] at c6
  have o1 := opF 13 (fun e => hop (.inl e)); have o2 := opF 14 (fun e => hop (.inr (.inl e))); have o3 := opF 15 (fun e => hop (.inr (.inr (.inl e)))); have o4 := opF 16 (fun e => hop (.inr (.inr (.inr (.inl e))))); have o5 := opF 31 (fun e => hop (.inr (.inr (.inr (.inr (.inl e)))))); have o6 := opF 32 (fun e => hop (.inr (.inr (.inr (.inr (.inr (.inl e))))))); have o7 := opF 29 (fun e => hop (.inr (.inr (.inr (.inr (.inr (.inr e))))))); have o8 := opF 10 hop2
  clear hop hop2
  have hmf := mkFuncD
  have H := Lib.hid h
  clear h hf
  go_enter Tryd.func103, Tryd.ntmps103
  go_wp2_with fail
  refine Calls.mono (CP.out _ H.out) ?_
  rintro e w1 ⟨rfl, h1⟩
  obtain ⟨y17, y18, y19, y20, y21, y22, y23, y24, y25, y26, y27, y28, y29, y30, f17, f18, f19, f20, f21, f22, f23, f24, f25, f26, f27, f28, f29, f30⟩ := rd14 h1.1
  have H9 := Lib.hid h1
  clear h1
  try unfold V7
  go_wp2
  go_end0
  exact ⟨rfl, (H9.out.d x)⟩
set_option maxRecDepth 100000 in
set_option maxHeartbeats 4000000 in
theorem s6dstn (g : Nat) (R : Rd) (W0 w : World) (h : At W0 w g R) (hf : R.z.f = 6) (hop : ¬ srcOp R.op) (hop2 : R.op ≠ 10) (CP : Hid (∀ W, At W0 W g R → Calls Tryd.prog 97 #[.pointer (some ⟨g, 0, none⟩), .int .i64 R.sz] W fun e w' => e = endP ∧ Ch W w' g)) :
    Calls Tryd.prog 103 #[.pointer (some ⟨g, 0, none⟩)] w fun e w' => e = endP ∧ Ch w w' g := by
  have c6 := h.rb.cell 6
  have c13 := h.rb.cell 13
  have c14 := h.rb.cell 14
  simp only [rdA, List.getElem?_toArray, List.getElem?_cons_zero, List.getElem?_cons_succ] at c6 c13 c14
  rw [hf] at c6
  have o1 := opF 13 (fun e => hop (.inl e)); have o2 := opF 14 (fun e => hop (.inr (.inl e))); have o3 := opF 15 (fun e => hop (.inr (.inr (.inl e)))); have o4 := opF 16 (fun e => hop (.inr (.inr (.inr (.inl e))))); have o5 := opF 31 (fun e => hop (.inr (.inr (.inr (.inr (.inl e)))))); have o6 := opF 32 (fun e => hop (.inr (.inr (.inr (.inr (.inr (.inl e))))))); have o7 := opF 29 (fun e => hop (.inr (.inr (.inr (.inr (.inr (.inr e))))))); have o8 := opF 10 hop2
  clear hop hop2
  have hmf := mkFuncD
  have H := Lib.hid h
  clear h hf
  go_enter Tryd.func103, Tryd.ntmps103
  unfold endP at *
  go_wp2_with fail
  refine Calls.mono (CP.out _ H.out) ?_
  rintro e w1 ⟨rfl, hc⟩
  go_wp2
  exact ⟨rfl, rfl, hc⟩
set_option maxRecDepth 100000 in
set_option maxHeartbeats 4000000 in
theorem s6test (g : Nat) (R : Rd) (W0 w : World) (h : At W0 w g R) (hf : R.z.f = 6) (hop : R.op = 10) (x : Opd) (n1 : Nat) (CP : Hid (∀ W, At W0 W g R → Calls Tryd.prog 97 #[.pointer (some ⟨g, 0, none⟩), .int .i64 R.sz] W fun e w' => e = .returned (V7 x) ∧ Wr W0 W w' g { R with n := n1 })) (y : Opd) (n2 : Nat) (CN : Hid (∀ W, At W0 W g { R with n := n1 } → Calls Tryd.prog 99 #[.pointer (some ⟨g, 0, none⟩)] W fun e w' => e = .returned (V7 y) ∧ Wr W0 W w' g { R with n := n2 })) :
    Calls Tryd.prog 103 #[.pointer (some ⟨g, 0, none⟩)] w fun e w' => e = .returned (.tuple #[]) ∧ Wr W0 w w' g { R with n := n2, d := x, s := y } := by
  have c6 := h.rb.cell 6
  have c13 := h.rb.cell 13
  have c14 := h.rb.cell 14
  simp only [rdA, List.getElem?_toArray, List.getElem?_cons_zero, List.getElem?_cons_succ] at c6 c13 c14
  rw [hf] at c6
  rw [hop] at c13
  clear hop
  have hmf := mkFuncD
  have H := Lib.hid h
  clear h hf
  go_enter Tryd.func103, Tryd.ntmps103
  go_wp2_with fail
  refine Calls.mono (CP.out _ H.out) ?_
  rintro e w1 ⟨rfl, h1⟩
  go_wp2_with fail
  refine Calls.mono (CN.out _ h1.1) ?_
  rintro e w2 ⟨rfl, hb⟩
  have h2 := h1.trans hb
  clear h1 hb
  obtain ⟨y17, y18, y19, y20, y21, y22, y23, y24, y25, y26, y27, y28, y29, y30, f17, f18, f19, f20, f21, f22, f23, f24, f25, f26, f27, f28, f29, f30⟩ := rd14 h2.1
  have H9 := Lib.hid h2
  clear h2
  try unfold V7
  go_wp2
  go_end0
  exact ⟨rfl, ((H9.out.d x).s y)⟩
set_option maxRecDepth 100000 in
set_option maxHeartbeats 4000000 in
theorem s6testn (g : Nat) (R : Rd) (W0 w : World) (h : At W0 w g R) (hf : R.z.f = 6) (hop : R.op = 10) (CP : Hid (∀ W, At W0 W g R → Calls Tryd.prog 97 #[.pointer (some ⟨g, 0, none⟩), .int .i64 R.sz] W fun e w' => e = endP ∧ Ch W w' g)) :
    Calls Tryd.prog 103 #[.pointer (some ⟨g, 0, none⟩)] w fun e w' => e = endP ∧ Ch w w' g := by
  have c6 := h.rb.cell 6
  have c13 := h.rb.cell 13
  have c14 := h.rb.cell 14
  simp only [rdA, List.getElem?_toArray, List.getElem?_cons_zero, List.getElem?_cons_succ] at c6 c13 c14
  rw [hf] at c6
  rw [hop] at c13
  clear hop
  have hmf := mkFuncD
  have H := Lib.hid h
  clear h hf
  go_enter Tryd.func103, Tryd.ntmps103
  unfold endP at *
  go_wp2_with fail
  refine Calls.mono (CP.out _ H.out) ?_
  rintro e w1 ⟨rfl, hc⟩
  go_wp2
  exact ⟨rfl, rfl, hc⟩
set_option maxRecDepth 100000 in
set_option maxHeartbeats 4000000 in
theorem s6testm (g : Nat) (R : Rd) (W0 w : World) (h : At W0 w g R) (hf : R.z.f = 6) (hop : R.op = 10) (x : Opd) (n1 : Nat) (CP : Hid (∀ W, At W0 W g R → Calls Tryd.prog 97 #[.pointer (some ⟨g, 0, none⟩), .int .i64 R.sz] W fun e w' => e = .returned (V7 x) ∧ Wr W0 W w' g { R with n := n1 })) (CN : Hid (∀ W, At W0 W g { R with n := n1 } → Calls Tryd.prog 99 #[.pointer (some ⟨g, 0, none⟩)] W fun e w' => e = endP ∧ Ch W w' g)) :
    Calls Tryd.prog 103 #[.pointer (some ⟨g, 0, none⟩)] w fun e w' => e = endP ∧ Ch w w' g := by
  have c6 := h.rb.cell 6
  have c13 := h.rb.cell 13
  have c14 := h.rb.cell 14
  simp only [rdA, List.getElem?_toArray, List.getElem?_cons_zero, List.getElem?_cons_succ] at c6 c13 c14
  rw [hf] at c6
  rw [hop] at c13
  clear hop
  have hmf := mkFuncD
  have H := Lib.hid h
  clear h hf
  go_enter Tryd.func103, Tryd.ntmps103
  go_wp2_with fail
  refine Calls.mono (CP.out _ H.out) ?_
  rintro e w1 ⟨rfl, h1⟩
  unfold endP at *
  go_wp2_with fail
  refine Calls.mono (CN.out _ h1.1) ?_
  rintro e w2 ⟨rfl, hc⟩
  go_wp2
  exact ⟨rfl, rfl, h1.2.trans hc⟩
set_option maxRecDepth 100000 in
set_option maxHeartbeats 4000000 in
theorem s7push (g : Nat) (R : Rd) (W0 w : World) (h : At W0 w g R) (hf : R.z.f = 7) (hop : R.op = 29) (z : Opd) (CP : Hid (∀ W, At W0 W g R → Calls Tryd.prog 101 #[.pointer (some ⟨g, 0, none⟩), .int .i64 R.sz] W fun e w' => e = .returned (V7 z) ∧ Below W.heap.size W w')) :
    Calls Tryd.prog 103 #[.pointer (some ⟨g, 0, none⟩)] w fun e w' => e = .returned (.tuple #[]) ∧ Wr W0 w w' g { R with s := z } := by
  have c6 := h.rb.cell 6
  have c13 := h.rb.cell 13
  have c14 := h.rb.cell 14
  simp only [rdA, List.getElem?_toArray, List.getElem?_cons_zero, List.getElem?_cons_succ] at c6 c13 c14
  rw [hf] at c6
  rw [hop] at c13
  clear hop
  have hmf := mkFuncD
  have H := Lib.hid h
  clear h hf
  go_enter Tryd.func103, Tryd.ntmps103
  go_wp2_with fail
  refine Calls.mono (CP.out _ H.out) ?_
  rintro e w1 ⟨rfl, hb⟩
  have h1 : Wr W0 w w1 g R := ⟨H.out.below hb, Ch.of_below hb⟩
  clear hb
  obtain ⟨y17, y18, y19, y20, y21, y22, y23, y24, y25, y26, y27, y28, y29, y30, f17, f18, f19, f20, f21, f22, f23, f24, f25, f26, f27, f28, f29, f30⟩ := rd14 h1.1
  have H9 := Lib.hid h1
  clear h1
  try unfold V7
  go_wp2
  go_end0
  exact ⟨rfl, (H9.out.s z)⟩
set_option maxRecDepth 100000 in
set_option maxHeartbeats 4000000 in
theorem s7dst (g : Nat) (R : Rd) (W0 w : World) (h : At W0 w g R) (hf : R.z.f = 7) (hop : ¬ srcOp R.op) (hop2 : R.op ≠ 10) (z : Opd) (CP : Hid (∀ W, At W0 W g R → Calls Tryd.prog 101 #[.pointer (some ⟨g, 0, none⟩), .int .i64 R.sz] W fun e w' => e = .returned (V7 z) ∧ Below W.heap.size W w')) :
    Calls Tryd.prog 103 #[.pointer (some ⟨g, 0, none⟩)] w fun e w' => e = .returned (.tuple #[]) ∧ Wr W0 w w' g { R with d := z } := by
  have c6 := h.rb.cell 6
  have c13 := h.rb.cell 13
  have c14 := h.rb.cell 14
  simp only [rdA, List.getElem?_toArray, List.getElem?_cons_zero, List.getElem?_cons_succ] at c6 c13 c14
  rw [hf] at c6
  have o1 := opF 13 (fun e => hop (.inl e)); have o2 := opF 14 (fun e => hop (.inr (.inl e))); have o3 := opF 15 (fun e => hop (.inr (.inr (.inl e)))); have o4 := opF 16 (fun e => hop (.inr (.inr (.inr (.inl e))))); have o5 := opF 31 (fun e => hop (.inr (.inr (.inr (.inr (.inl e)))))); have o6 := opF 32 (fun e => hop (.inr (.inr (.inr (.inr (.inr (.inl e))))))); have o7 := opF 29 (fun e => hop (.inr (.inr (.inr (.inr (.inr (.inr e))))))); have o8 := opF 10 hop2
  clear hop hop2
  have hmf := mkFuncD
  have H := Lib.hid h
  clear h hf
  go_enter Tryd.func103, Tryd.ntmps103
  go_wp2_with fail
  refine Calls.mono (CP.out _ H.out) ?_
  rintro e w1 ⟨rfl, hb⟩
  have h1 : Wr W0 w w1 g R := ⟨H.out.below hb, Ch.of_below hb⟩
  clear hb
  obtain ⟨y17, y18, y19, y20, y21, y22, y23, y24, y25, y26, y27, y28, y29, y30, f17, f18, f19, f20, f21, f22, f23, f24, f25, f26, f27, f28, f29, f30⟩ := rd14 h1.1
  have H9 := Lib.hid h1
  clear h1
  try unfold V7
  go_wp2
  go_end0
  exact ⟨rfl, (H9.out.d z)⟩
set_option maxRecDepth 100000 in
set_option maxHeartbeats 4000000 in
theorem op6 (g : Nat) (R : Rd) (W0 w : World) (h : At W0 w g R) (hf : R.z.f = 6) (R' : Rd) (C : Hid (Calls Tryd.prog 103 #[.pointer (some ⟨g, 0, none⟩)] w fun e w' => e = .returned (.tuple #[]) ∧ Wr W0 w w' g R')) :
    Calls Tryd.prog 60 #[.pointer (some ⟨g, 0, none⟩)] w fun e w' => e = .returned (.tuple #[]) ∧ Wr W0 w w' g R' := by
  have c6 := h.rb.cell 6
  simp only [rdA, List.getElem?_toArray, List.getElem?_cons_zero, List.getElem?_cons_succ] at c6
  rw [hf] at c6
  have H := Lib.hid h
  clear h hf
  go_enter Tryd.func60, Tryd.ntmps60
  go_wp2_with fail
  refine Calls.mono C.out ?_
  rintro e w1 ⟨rfl, h1⟩
  go_wp2
  go_end0
  exact ⟨rfl, h1⟩
set_option maxRecDepth 100000 in
set_option maxHeartbeats 4000000 in
theorem op7 (g : Nat) (R : Rd) (W0 w : World) (h : At W0 w g R) (hf : R.z.f = 7) (R' : Rd) (C : Hid (Calls Tryd.prog 103 #[.pointer (some ⟨g, 0, none⟩)] w fun e w' => e = .returned (.tuple #[]) ∧ Wr W0 w w' g R')) :
    Calls Tryd.prog 60 #[.pointer (some ⟨g, 0, none⟩)] w fun e w' => e = .returned (.tuple #[]) ∧ Wr W0 w w' g R' := by
  have c6 := h.rb.cell 6
  simp only [rdA, List.getElem?_toArray, List.getElem?_cons_zero, List.getElem?_cons_succ] at c6
  rw [hf] at c6
  have H := Lib.hid h
  clear h hf
  go_enter Tryd.func60, Tryd.ntmps60
  go_wp2_with fail
  refine Calls.mono C.out ?_
  rintro e w1 ⟨rfl, h1⟩
  go_wp2
  go_end0
  exact ⟨rfl, h1⟩
set_option maxRecDepth 100000 in
set_option maxHeartbeats 4000000 in
theorem op6n (g : Nat) (R : Rd) (W0 w : World) (h : At W0 w g R) (hf : R.z.f = 6) (C : Hid (Calls Tryd.prog 103 #[.pointer (some ⟨g, 0, none⟩)] w fun e w' => e = endP ∧ Ch w w' g)) :
    Calls Tryd.prog 60 #[.pointer (some ⟨g, 0, none⟩)] w fun e w' => e = endP ∧ Ch w w' g := by
  have c6 := h.rb.cell 6
  simp only [rdA, List.getElem?_toArray, List.getElem?_cons_zero, List.getElem?_cons_succ] at c6
  rw [hf] at c6
  have H := Lib.hid h
  clear h hf
  go_enter Tryd.func60, Tryd.ntmps60
  unfold endP at *
  go_wp2_with fail
  refine Calls.mono C.out ?_
  rintro e w1 ⟨rfl, h1⟩
  go_wp2
  exact ⟨rfl, rfl, h1⟩
/-- the condition that the operation's byte tells -/
def condD (op : Int) (b : Nat) : Int := if op = 33 ∨ op = 35 ∨ op = 36 then ((b % 16 : Nat) : Int) else 0
theorem and15 : ∀ b, b < 256 → bits .and .i64 ((b : Nat) : Int) 15 = ((b % 16 : Nat) : Int) := by decide +kernel
def condB (op : Int) : Bool := decide (op = 33 ∨ op = 35 ∨ op = 36)
theorem hasCondC (op : Int) (w : World) : Calls Tryd.prog 67 #[.int .i64 op] w fun e w' => e = .returned (.bool (condB op)) ∧ w' = w := by
  by_cases ho : op = 33 ∨ op = 35 ∨ op = 36
  · have HE : condB op = true := decide_eq_true ho
    rw [HE]
    clear HE
    rcases ho with rfl | rfl | rfl
    all_goals
      go_enter Tryd.func67, Tryd.ntmps67
      go_wp2
      go_ret
      exact ⟨rfl, rfl⟩
  · have HE : condB op = false := decide_eq_false ho
    rw [HE]
    have o1 := opF 33 (fun e => ho (.inl e)); have o2 := opF 35 (fun e => ho (.inr (.inl e))); have o3 := opF 36 (fun e => ho (.inr (.inr e)))
    clear ho HE
    go_enter Tryd.func67, Tryd.ntmps67
    go_wp2
    go_ret
    exact ⟨rfl, rfl⟩
set_option maxHeartbeats 1000000 in
theorem condC (g : Nat) (R : Rd) (W0 w : World) (h : At W0 w g R) (hb : R.ob < 256) (hc : R.cd = 0) :
    Calls Tryd.prog 61 #[.pointer (some ⟨g, 0, none⟩)] w fun e w' => e = .returned (.tuple #[]) ∧ Wr W0 w w' g { R with cd := condD R.op R.ob } := by
  have c4 := h.rb.cell 4
  have c13 := h.rb.cell 13
  have c15 := h.rb.cell 15
  simp only [rdA, List.getElem?_toArray, List.getElem?_cons_zero, List.getElem?_cons_succ] at c4 c13 c15
  have a15 := and15 R.ob hb
  have f15 := h.rb.free 15
  have H := Lib.hid h
  have C := hasCondC R.op
  by_cases ho : R.op = 33 ∨ R.op = 35 ∨ R.op = 36
  · have HE : Hid (condD R.op R.ob = ((R.ob % 16 : Nat) : Int)) := Lib.hid (by unfold condD; rw [if_pos ho])
    rw [show condB R.op = true from decide_eq_true ho] at C
    have HC := Lib.hid C
    clear ho h hb hc C
    go_enter Tryd.func61, Tryd.ntmps61
    go_wp2_with fail
    refine Calls.mono (HC.out _) ?_
    rintro e w1 ⟨rfl, rfl⟩
    go_wp2
    go_end0
    exact ⟨rfl, by rw [HE.out]; exact H.out.set1 15 _ rfl rfl rfl, (Ch.refl _ _).set 15 _⟩
  · have HE : Hid (condD R.op R.ob = R.cd) := Lib.hid (by unfold condD; rw [if_neg ho, hc])
    rw [show condB R.op = false from decide_eq_false ho] at C
    have HC := Lib.hid C
    clear ho h hb hc C
    go_enter Tryd.func61, Tryd.ntmps61
    go_wp2_with fail
    refine Calls.mono (HC.out _) ?_
    rintro e w1 ⟨rfl, rfl⟩
    go_wp2
    go_end0
    exact ⟨rfl, by rw [HE.out]; exact H.out, Ch.refl _ _⟩
end Go.Proofs.YtinjpobepcenfaaDoor
