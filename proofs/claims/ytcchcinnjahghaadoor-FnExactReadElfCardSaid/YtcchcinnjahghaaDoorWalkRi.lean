/-
  What impl.numbersFrom's reader and impl.readSegment answer; conditions: those in each head.
-/
import Derived.Test.YtcchcinnjahghaaDoorWalkRs
namespace Go.Proofs.YtcchcinnjahghaaDoor
open Go.RowKit
set_option linter.unusedVariables false
set_option linter.unusedSimpArgs false
/-- the two boxes of a reader of numbers: the text, and the place where it stands -/
structure NumB (W : World) (g : Nat) (t : ByteArray) (a : Int) : Prop where
  lt : g + 1 < W.heap.size
  c : W.cell? ⟨g, 0, none⟩ = some (.string t)
  d : W.cell? ⟨g + 1, 0, none⟩ = some (.int .i64 a)
  f : W.frozen? ⟨g + 1, 0, none⟩ = false
theorem numFrom (t : ByteArray) (a : Int) (w : World) : Calls Tryd.prog 71 #[.string t, .int .i64 a] w fun e w' => e = .returned (.func (.func 88) #[] #[.pointer (some ⟨w.heap.size, 0, none⟩), .pointer (some ⟨w.heap.size + 1, 0, none⟩)]) ∧ NumB w' w.heap.size t a ∧ Below w.heap.size w w' := by
  go_enter Tryd.func71, Tryd.ntmps71
  go_wp2
  go_ret
  exact ⟨rfl, ⟨by simp, by go_cell, by go_cell, by simp [go_sem]⟩, (belowA _ _).alloc (by simp) _⟩
theorem numNext (t : ByteArray) (g : Nat) (a n : Nat) (w : World) (h : NumB w g t (a : Int)) (hm : t.size ≤ 65536) (ha : a + n ≤ t.size) (hok : okSize (n : Int)) : Calls Tryd.prog 88 #[.int .i64 (n : Int), .pointer (some ⟨g, 0, none⟩), .pointer (some ⟨g + 1, 0, none⟩)] w fun e w' => e = .returned (.int .i64 (tkN t a n)) ∧ NumB w' g t ((a + n : Nat) : Int) ∧ Below g w w' := by
  have C := Lib.hid (implTakeYes t a n w hm ha hok)
  obtain ⟨h1, h2, h3, h4⟩ := h
  have hn8 : n ≤ 8 := by rcases hok with h | h | h | h <;> omega
  clear hok
  go_enter Tryd.func88, Tryd.ntmps88
  go_wp2_with fail
  refine (C.out).mono ?_
  rintro e w1 ⟨rfl, rfl⟩
  go_wp2
  go_ret
  refine ⟨rfl, ⟨by simpa using h1, (cellOther (by simp) _).trans h2, ?_, by simpa using h4⟩, (Below.refl _ _).setCell (by show g ≤ g + 1; omega) _⟩
  have := cellSame h3 (.int .i64 ((a : Int) + (n : Int)))
  simpa using this
theorem tkN_lo (t : ByteArray) (a n : Nat) : tkN t a n ≤ 9223372036854775807 := by unfold tkN wrap64; omega
theorem numNext4 (t : ByteArray) (g a b : Nat) (w : World) (h : NumB w g t (a : Int)) (hm : t.size ≤ 65536) (ha : a + 4 ≤ t.size) (hb : b = a + 4) : Calls Tryd.prog 88 #[.int .i64 4, .pointer (some ⟨g, 0, none⟩), .pointer (some ⟨g + 1, 0, none⟩)] w fun e w' => e = .returned (.int .i64 (tkN t a 4)) ∧ NumB w' g t (b : Int) ∧ Below g w w' := by
  subst hb; exact numNext t g a 4 w h hm ha (.inr (.inr (.inl rfl)))
theorem numNext8 (t : ByteArray) (g a b : Nat) (w : World) (h : NumB w g t (a : Int)) (hm : t.size ≤ 65536) (ha : a + 8 ≤ t.size) (hb : b = a + 8) : Calls Tryd.prog 88 #[.int .i64 8, .pointer (some ⟨g, 0, none⟩), .pointer (some ⟨g + 1, 0, none⟩)] w fun e w' => e = .returned (.int .i64 (tkN t a 8)) ∧ NumB w' g t (b : Int) ∧ Below g w w' := by
  subst hb; exact numNext t g a 8 w h hm ha (.inr (.inr (.inr rfl)))
set_option maxRecDepth 100000 in
set_option maxHeartbeats 4000000 in
theorem rsI (t : ByteArray) (a : Nat) (w : World) (hm : t.size ≤ 65536) (ha : a + 56 ≤ t.size) :
    Calls Tryd.prog 42 #[.string t, .int .i64 (a : Int)] w fun e w' => (∃ x : Sg, e = .returned (.tuple #[.agg #[.int .i64 x.f, .int .i64 x.v, .int .i64 x.m, .string x.d], imE (rsAt t a)]) ∧ (rsAt t a = 0 → x = sgAt t a)) ∧ Below w.heap.size w w' := by
  have c0 := Lib.hid (fun g w h => numNext4 t g a (a + 4) w h hm (by omega) (by omega))
  have c4 := Lib.hid (fun g w h => numNext4 t g (a + 4) (a + 8) w h hm (by omega) (by omega))
  have c8 := Lib.hid (fun g w h => numNext8 t g (a + 8) (a + 16) w h hm (by omega) (by omega))
  have c16 := Lib.hid (fun g w h => numNext8 t g (a + 16) (a + 24) w h hm (by omega) (by omega))
  have c24 := Lib.hid (fun g w h => numNext8 t g (a + 24) (a + 32) w h hm (by omega) (by omega))
  have c32 := Lib.hid (fun g w h => numNext8 t g (a + 32) (a + 40) w h hm (by omega) (by omega))
  have c40 := Lib.hid (fun g w h => numNext8 t g (a + 40) (a + 48) w h hm (by omega) (by omega))
  have c48 := Lib.hid (fun g w h => numNext8 t g (a + 48) (a + 56) w h hm (by omega) (by omega))
  have hW := rsC_ways (tkN t a 4) (tkN t (a + 16) 8) (tkN t (a + 24) 8) (tkN t (a + 48) 8) (tkN t (a + 8) 8) (tkN t (a + 32) 8) t.size
  have hR : rsAt t a = rsC (tkN t a 4) (tkN t (a + 16) 8) (tkN t (a + 24) 8) (tkN t (a + 48) 8) (tkN t (a + 8) 8) (tkN t (a + 32) 8) t.size := rfl
  have hG : sgAt t a = ⟨tkN t (a + 4) 4, tkN t (a + 16) 8, tkN t (a + 40) 8, subT t (tkN t (a + 8) 8).toNat (tkN t (a + 32) 8).toNat⟩ := rfl
  have hSh := tkN_lo t (a + 32) 8
  generalize tkN t a 4 = K at c0 hW hR
  generalize tkN t (a + 4) 4 = F at c4 hG
  generalize tkN t (a + 8) 8 = O at c8 hW hR hG
  generalize tkN t (a + 16) 8 = V at c16 hW hR hG
  generalize tkN t (a + 24) 8 = V2 at c24 hW hR
  generalize tkN t (a + 32) 8 = S at c32 hW hR hG hSh
  generalize tkN t (a + 40) 8 = M at c40 hG
  generalize tkN t (a + 48) 8 = AL at c48 hW hR
  generalize rsAt t a = rc at hR ⊢
  generalize sgAt t a = sg at hG ⊢
  have HW := Lib.hid hW; have HR := Lib.hid hR; have HG := Lib.hid hG
  clear hW hR hG
  obtain ⟨W, hW⟩ : ∃ W, W = w.alloc (.cells #[.int .i64 0, .int .i64 0, .int .i64 0, .string ⟨#[]⟩] 61) := ⟨_, rfl⟩
  have LW : Hid (Below w.heap.size w W) := Lib.hid (by rw [hW]; exact belowA _ _)
  have SW : Hid (SgAt W w.heap.size ⟨0, 0, 0, ⟨#[]⟩⟩) := Lib.hid (by rw [hW]; exact sgAlloc w ⟨0, 0, 0, ⟨#[]⟩⟩ _)
  have FW : Hid (∀ k, W.frozen? ⟨w.heap.size, k, none⟩ = false) := Lib.hid (by rw [hW]; intro k; simp [go_sem])
  have ZW : Hid (W.heap.size = w.heap.size + 1) := Lib.hid (by rw [hW]; simp)
  have HWW := Lib.hid hW
  clear hW
  go_enter Tryd.func42, Tryd.ntmps42
  go_wp2_with fail
  rw [← HWW.out]
  refine (numFrom t (a : Int) W).mono ?_
  rintro e w0 ⟨rfl, n0, b0⟩
  have N0 := Lib.hid n0
  have B0 := Lib.hid b0
  clear n0 b0
  go_wp2_with fail
  go_at_call 88
  refine (c0.out _ _ N0.out).mono ?_
  rintro e w1 ⟨rfl, n1, b1⟩
  have N1 := Lib.hid n1
  have B1 := Lib.hid (B0.out.trans b1)
  clear n1 b1
  go_wp2_with fail
  go_at_call 88
  refine (c4.out _ _ N1.out).mono ?_
  rintro e w2 ⟨rfl, n2, b2⟩
  have N2 := Lib.hid n2
  have B2 := Lib.hid (B1.out.trans b2)
  clear n2 b2
  go_wp2_with fail
  go_at_call 88
  refine (c8.out _ _ N2.out).mono ?_
  rintro e w3 ⟨rfl, n3, b3⟩
  have N3 := Lib.hid n3
  have B3 := Lib.hid (B2.out.trans b3)
  clear n3 b3
  go_wp2_with fail
  go_at_call 88
  refine (c16.out _ _ N3.out).mono ?_
  rintro e w4 ⟨rfl, n4, b4⟩
  have N4 := Lib.hid n4
  have B4 := Lib.hid (B3.out.trans b4)
  clear n4 b4
  go_wp2_with fail
  go_at_call 88
  refine (c24.out _ _ N4.out).mono ?_
  rintro e w5 ⟨rfl, n5, b5⟩
  have N5 := Lib.hid n5
  have B5 := Lib.hid (B4.out.trans b5)
  clear n5 b5
  go_wp2_with fail
  go_at_call 88
  refine (c32.out _ _ N5.out).mono ?_
  rintro e w6 ⟨rfl, n6, b6⟩
  have N6 := Lib.hid n6
  have B6 := Lib.hid (B5.out.trans b6)
  clear n6 b6
  go_wp2_with fail
  go_at_call 88
  refine (c40.out _ _ N6.out).mono ?_
  rintro e w7 ⟨rfl, n7, b7⟩
  have N7 := Lib.hid n7
  have B7 := Lib.hid (B6.out.trans b7)
  clear n7 b7
  go_wp2_with fail
  go_at_call 88
  refine (c48.out _ _ N7.out).mono ?_
  rintro e w8 ⟨rfl, n8, b8⟩
  have N8 := Lib.hid n8
  have B8 := Lib.hid (B7.out.trans b8)
  clear n8 b8
  have LB := Lib.hid (show Below w.heap.size w w8 from LW.out.trans (B8.out.mono (by have := ZW.out; omega)))
  have S8 := SW.out
  have hw1 : w.heap.size < W.heap.size := by have := ZW.out; omega
  have q0 : w8.cell? ⟨w.heap.size, 0, none⟩ = some (.int .i64 0) := (B8.out.cell (p := ⟨w.heap.size, 0, none⟩) hw1).trans S8.2.1
  have q1 : w8.cell? ⟨w.heap.size, 1, none⟩ = some (.int .i64 0) := (B8.out.cell (p := ⟨w.heap.size, 1, none⟩) hw1).trans S8.2.2.1
  have q2 : w8.cell? ⟨w.heap.size, 2, none⟩ = some (.int .i64 0) := (B8.out.cell (p := ⟨w.heap.size, 2, none⟩) hw1).trans S8.2.2.2.1
  have q3 : w8.cell? ⟨w.heap.size, 3, none⟩ = some (.string ⟨#[]⟩) := (B8.out.cell (p := ⟨w.heap.size, 3, none⟩) hw1).trans S8.2.2.2.2
  have f0 : w8.frozen? ⟨w.heap.size, 0, none⟩ = false := (B8.out.frozen (p := ⟨w.heap.size, 0, none⟩) hw1).trans (FW.out 0)
  have f1 : w8.frozen? ⟨w.heap.size, 1, none⟩ = false := (B8.out.frozen (p := ⟨w.heap.size, 1, none⟩) hw1).trans (FW.out 1)
  have f2 : w8.frozen? ⟨w.heap.size, 2, none⟩ = false := (B8.out.frozen (p := ⟨w.heap.size, 2, none⟩) hw1).trans (FW.out 2)
  have f3 : w8.frozen? ⟨w.heap.size, 3, none⟩ = false := (B8.out.frozen (p := ⟨w.heap.size, 3, none⟩) hw1).trans (FW.out 3)
  have hlt : w.heap.size < w8.heap.size := Nat.lt_of_lt_of_le hw1 B8.out.size
  clear c0 c4 c8 c16 c24 c32 c40 c48 B0 B1 B2 B3 B4 B5 B6 B7 N0 N1 N2 N3 N4 N5 N6 N7 S8
  rcases HW.out with ⟨h1, hc⟩ | ⟨h1, h2, hc⟩ | ⟨h1, h2, h3, hc⟩ | ⟨h1, h2, h3, h4, hc⟩ | ⟨h1, h2, h3, h4, hc⟩
  · have hK : (K != 1) = true := bne_iff_ne.2 h1
    clear h1
    have RB := Lib.hid (sgSet w8 w.heap.size ⟨0, 0, 0, ⟨#[]⟩⟩ hlt q0 q1 q2 q3)
    obtain rfl : rc = 31 := HR.out.trans hc
    clear hc
    go_wp2
    obtain ⟨_, r0, r1, r2, r3⟩ := RB.out
    simp only at r0 r1 r2 r3
    refine bodyPost_ret (v := .tuple #[.agg #[.int .i64 0, .int .i64 0, .int .i64 0, .string ⟨#[]⟩], .iface 83 (.int .i64 31)]) (by simp [results, Tryd.results42, go_sem, r0, r1, r2, r3]) rfl ?_
    exact ⟨⟨⟨0, 0, 0, ⟨#[]⟩⟩, rfl, fun h => by cases h⟩, below4 LB.out (Nat.le_refl _) _ _ _ _⟩
  · have hK : (K != 1) = false := by rw [h1]; rfl
    have hV : (V != V2) = true := bne_iff_ne.2 (Ne.symm h2)
    clear h1 h2
    have RB := Lib.hid (sgSet w8 w.heap.size ⟨0, 0, 0, ⟨#[]⟩⟩ hlt q0 q1 q2 q3)
    obtain rfl : rc = 31 := HR.out.trans hc
    clear hc
    go_wp2
    obtain ⟨_, r0, r1, r2, r3⟩ := RB.out
    simp only at r0 r1 r2 r3
    refine bodyPost_ret (v := .tuple #[.agg #[.int .i64 0, .int .i64 0, .int .i64 0, .string ⟨#[]⟩], .iface 83 (.int .i64 31)]) (by simp [results, Tryd.results42, go_sem, r0, r1, r2, r3]) rfl ?_
    exact ⟨⟨⟨0, 0, 0, ⟨#[]⟩⟩, rfl, fun h => by cases h⟩, below4 LB.out (Nat.le_refl _) _ _ _ _⟩
  · have hK : (K != 1) = false := by rw [h1]; rfl
    have hV : (V != V2) = false := by rw [h2]; simp
    have hA : (AL != 256) = true := bne_iff_ne.2 h3
    clear h1 h2 h3
    have RB := Lib.hid (sgSet w8 w.heap.size ⟨0, 0, 0, ⟨#[]⟩⟩ hlt q0 q1 q2 q3)
    obtain rfl : rc = 31 := HR.out.trans hc
    clear hc
    go_wp2
    obtain ⟨_, r0, r1, r2, r3⟩ := RB.out
    simp only at r0 r1 r2 r3
    refine bodyPost_ret (v := .tuple #[.agg #[.int .i64 0, .int .i64 0, .int .i64 0, .string ⟨#[]⟩], .iface 83 (.int .i64 31)]) (by simp [results, Tryd.results42, go_sem, r0, r1, r2, r3]) rfl ?_
    exact ⟨⟨⟨0, 0, 0, ⟨#[]⟩⟩, rfl, fun h => by cases h⟩, below4 LB.out (Nat.le_refl _) _ _ _ _⟩
  · have hK : (K != 1) = false := by rw [h1]; rfl
    have hV : (V != V2) = false := by rw [h2]; simp
    have hA : (AL != 256) = false := by rw [h3]; rfl
    clear h1 h2 h3
    have RB := Lib.hid (sgSet w8 w.heap.size ⟨0, 0, 0, ⟨#[]⟩⟩ hlt q0 q1 q2 q3)
    obtain rfl : rc = 9 := HR.out.trans hc
    clear hc
    have hw : O < 0 ∨ (0 ≤ O ∧ S < 0) ∨ (0 ≤ O ∧ 0 ≤ S ∧ (t.size : Int) - S < O) := by clear hlt hw1 ha; omega
    clear h4
    rcases hw with g1 | ⟨g1, g2⟩ | ⟨g1, g2, g3⟩
    · have e0 : decide (O < 0) = true := decide_eq_true g1
      clear g1
      go_wp2
      obtain ⟨_, r0, r1, r2, r3⟩ := RB.out
      simp only at r0 r1 r2 r3
      refine bodyPost_ret (v := .tuple #[.agg #[.int .i64 0, .int .i64 0, .int .i64 0, .string ⟨#[]⟩], .iface 83 (.int .i64 9)]) (by simp [results, Tryd.results42, go_sem, r0, r1, r2, r3]) rfl ?_
      exact ⟨⟨⟨0, 0, 0, ⟨#[]⟩⟩, rfl, fun h => by cases h⟩, below4 LB.out (Nat.le_refl _) _ _ _ _⟩
    · have e0 : decide (O < 0) = false := decide_eq_false (by omega)
      have e1 : decide (S < 0) = true := decide_eq_true g2
      clear g1 g2
      go_wp2
      obtain ⟨_, r0, r1, r2, r3⟩ := RB.out
      simp only at r0 r1 r2 r3
      refine bodyPost_ret (v := .tuple #[.agg #[.int .i64 0, .int .i64 0, .int .i64 0, .string ⟨#[]⟩], .iface 83 (.int .i64 9)]) (by simp [results, Tryd.results42, go_sem, r0, r1, r2, r3]) rfl ?_
      exact ⟨⟨⟨0, 0, 0, ⟨#[]⟩⟩, rfl, fun h => by cases h⟩, below4 LB.out (Nat.le_refl _) _ _ _ _⟩
    · have e0 : decide (O < 0) = false := decide_eq_false (by omega)
      have e1 : decide (S < 0) = false := decide_eq_false (by omega)
      have e2 : decide ((t.size : Int) - S < O) = true := decide_eq_true g3
      have e3 : wrap64 ((t.size : Int) - S) = (t.size : Int) - S := IntWalk.wrap64_in _ (by clear hlt hw1 ha e0 e1 e2; omega)
      clear g1 g3
      go_wp2
      obtain ⟨_, r0, r1, r2, r3⟩ := RB.out
      simp only at r0 r1 r2 r3
      refine bodyPost_ret (v := .tuple #[.agg #[.int .i64 0, .int .i64 0, .int .i64 0, .string ⟨#[]⟩], .iface 83 (.int .i64 9)]) (by simp [results, Tryd.results42, go_sem, r0, r1, r2, r3]) rfl ?_
      exact ⟨⟨⟨0, 0, 0, ⟨#[]⟩⟩, rfl, fun h => by cases h⟩, below4 LB.out (Nat.le_refl _) _ _ _ _⟩
  · have hK : (K != 1) = false := by rw [h1]; rfl
    have hV : (V != V2) = false := by rw [h2]; simp
    have hA : (AL != 256) = false := by rw [h3]; rfl
    obtain ⟨o, rfl⟩ := Int.eq_ofNat_of_zero_le h4.1
    obtain ⟨s, rfl⟩ := Int.eq_ofNat_of_zero_le h4.2.1
    have h5 : o + s ≤ t.size := by clear hlt hw1 ha; omega
    have e0 : decide ((o : Int) < 0) = false := decide_eq_false (by omega)
    have e1 : decide ((s : Int) < 0) = false := decide_eq_false (by omega)
    have e2 : decide ((t.size : Int) - (s : Int) < (o : Int)) = false := decide_eq_false (by omega)
    have o1 : (0 : Int) ≤ (o : Int) := by omega
    have o2 : (o : Int) ≤ (o : Int) + (s : Int) := by omega
    have o3 : (o : Int) + (s : Int) ≤ (t.size : Int) := by omega
    obtain rfl : rc = 0 := HR.out.trans hc
    have RB := Lib.hid (sgSet w8 w.heap.size ⟨F, V, M, t.extract o (o + s)⟩ hlt q0 q1 q2 q3)
    clear h1 h2 h3 h4 hc
    go_wp2
    obtain ⟨_, r0, r1, r2, r3⟩ := RB.out
    simp only at r0 r1 r2 r3
    refine bodyPost_ret (v := .tuple #[.agg #[.int .i64 F, .int .i64 V, .int .i64 M, .string (t.extract o (o + s))], .nilIface]) (by simp [results, Tryd.results42, go_sem, r0, r1, r2, r3]) rfl ?_
    first | exact ⟨⟨⟨F, V, M, t.extract o (o + s)⟩, rfl, fun _ => HG.out.symm⟩, below4 LB.out (Nat.le_refl _) _ _ _ _⟩ | exact ⟨by rw [HG.out]; rfl, below4 LB.out (Nat.le_refl _) _ _ _ _⟩
end Go.Proofs.YtcchcinnjahghaaDoor
