/-
  What spec.l10Segment answers: the segment whose head stands at a place of a text that has all of that head; conditions: those in each head.
-/
import Derived.Test.YtcchcinnjahghaaDoorWalkTake
import Derived.Test.YtcchcinnjahghaaDoorWalkTx
namespace Go.Proofs.YtcchcinnjahghaaDoor
open Go.RowKit
set_option linter.unusedVariables false
set_option linter.unusedSimpArgs false
/-- the number that n bytes of t are from a on -/
def tkN (t : ByteArray) (a n : Nat) : Int := wrap64 (takeN t a n : Int)
theorem tkS (t : ByteArray) (a n : Nat) (w : World) (hm : t.size ≤ 65536) (ha : a + n ≤ t.size) (hn : n ≤ 8) : Calls Tryd.prog 39 #[.string t, .int .i64 (a : Int), .int .i64 (n : Int)] w fun e w' => e = .returned (.int .i64 (tkN t a n)) ∧ w' = w :=
  (specTakeL t a n w hm ha hn).mono fun e w' h => ⟨h.1, h.2.symm⟩
theorem tkS0 (t : ByteArray) (a : Nat) (w : World) (hm : t.size ≤ 65536) (ha : a + 56 ≤ t.size) : Calls Tryd.prog 39 #[.string t, .int .i64 (a : Int), .int .i64 4] w fun e w' => e = .returned (.int .i64 (tkN t a 4)) ∧ w' = w := tkS t a 4 w hm (by omega) (by decide)
theorem tkS4 (t : ByteArray) (a : Nat) (w : World) (hm : t.size ≤ 65536) (ha : a + 56 ≤ t.size) : Calls Tryd.prog 39 #[.string t, .int .i64 ((a : Int) + 4), .int .i64 4] w fun e w' => e = .returned (.int .i64 (tkN t (a + 4) 4)) ∧ w' = w := tkS t (a + 4) 4 w hm (by omega) (by decide)
theorem tkS8 (t : ByteArray) (a : Nat) (w : World) (hm : t.size ≤ 65536) (ha : a + 56 ≤ t.size) : Calls Tryd.prog 39 #[.string t, .int .i64 ((a : Int) + 8), .int .i64 8] w fun e w' => e = .returned (.int .i64 (tkN t (a + 8) 8)) ∧ w' = w := tkS t (a + 8) 8 w hm (by omega) (by decide)
theorem tkS16 (t : ByteArray) (a : Nat) (w : World) (hm : t.size ≤ 65536) (ha : a + 56 ≤ t.size) : Calls Tryd.prog 39 #[.string t, .int .i64 ((a : Int) + 16), .int .i64 8] w fun e w' => e = .returned (.int .i64 (tkN t (a + 16) 8)) ∧ w' = w := tkS t (a + 16) 8 w hm (by omega) (by decide)
theorem tkS24 (t : ByteArray) (a : Nat) (w : World) (hm : t.size ≤ 65536) (ha : a + 56 ≤ t.size) : Calls Tryd.prog 39 #[.string t, .int .i64 ((a : Int) + 24), .int .i64 8] w fun e w' => e = .returned (.int .i64 (tkN t (a + 24) 8)) ∧ w' = w := tkS t (a + 24) 8 w hm (by omega) (by decide)
theorem tkS32 (t : ByteArray) (a : Nat) (w : World) (hm : t.size ≤ 65536) (ha : a + 56 ≤ t.size) : Calls Tryd.prog 39 #[.string t, .int .i64 ((a : Int) + 32), .int .i64 8] w fun e w' => e = .returned (.int .i64 (tkN t (a + 32) 8)) ∧ w' = w := tkS t (a + 32) 8 w hm (by omega) (by decide)
theorem tkS40 (t : ByteArray) (a : Nat) (w : World) (hm : t.size ≤ 65536) (ha : a + 56 ≤ t.size) : Calls Tryd.prog 39 #[.string t, .int .i64 ((a : Int) + 40), .int .i64 8] w fun e w' => e = .returned (.int .i64 (tkN t (a + 40) 8)) ∧ w' = w := tkS t (a + 40) 8 w hm (by omega) (by decide)
theorem tkS48 (t : ByteArray) (a : Nat) (w : World) (hm : t.size ≤ 65536) (ha : a + 56 ≤ t.size) : Calls Tryd.prog 39 #[.string t, .int .i64 ((a : Int) + 48), .int .i64 8] w fun e w' => e = .returned (.int .i64 (tkN t (a + 48) 8)) ∧ w' = w := tkS t (a + 48) 8 w hm (by omega) (by decide)
/-- the bytes of t from 'from' on, so many -/
def subT (t : ByteArray) (a n : Nat) : ByteArray := t.extract a (a + n)
/-- the code with which a segment's head is refused -/
def rsC (K V V2 AL O S : Int) (len : Nat) : Int := if K ≠ 1 ∨ V2 ≠ V ∨ AL ≠ 256 then 31 else if 0 ≤ O ∧ 0 ≤ S ∧ O + S ≤ len then 0 else 9
theorem rsC_ways (K V V2 AL O S : Int) (len : Nat) : (K ≠ 1 ∧ rsC K V V2 AL O S len = 31) ∨ (K = 1 ∧ V2 ≠ V ∧ rsC K V V2 AL O S len = 31) ∨ (K = 1 ∧ V2 = V ∧ AL ≠ 256 ∧ rsC K V V2 AL O S len = 31) ∨ (K = 1 ∧ V2 = V ∧ AL = 256 ∧ ¬ (0 ≤ O ∧ 0 ≤ S ∧ O + S ≤ len) ∧ rsC K V V2 AL O S len = 9) ∨ (K = 1 ∧ V2 = V ∧ AL = 256 ∧ (0 ≤ O ∧ 0 ≤ S ∧ O + S ≤ len) ∧ rsC K V V2 AL O S len = 0) := by
  unfold rsC
  by_cases h1 : K = 1
  · by_cases h2 : V2 = V
    · by_cases h3 : AL = 256
      · by_cases h4 : 0 ≤ O ∧ 0 ≤ S ∧ O + S ≤ len
        · exact .inr (.inr (.inr (.inr ⟨h1, h2, h3, h4, by simp [h1, h2, h3, h4]⟩)))
        · exact .inr (.inr (.inr (.inl ⟨h1, h2, h3, h4, by simp [h1, h2, h3]; omega⟩)))
      · exact .inr (.inr (.inl ⟨h1, h2, h3, by simp [h3]⟩))
    · exact .inr (.inl ⟨h1, h2, by simp [h2]⟩)
  · exact .inl ⟨h1, by simp [h1]⟩
theorem end_ways {O S : Int} {n : Nat} (h : ¬ (0 ≤ O ∧ 0 ≤ S ∧ O + S ≤ n)) : O < 0 ∨ (0 ≤ O ∧ (n : Int) < O) ∨ (0 ≤ O ∧ O ≤ n ∧ S < 0) ∨ (0 ≤ O ∧ O ≤ n ∧ 0 ≤ S ∧ (n : Int) - O < S) := by omega
def rsAt (t : ByteArray) (a : Nat) : Int := rsC (tkN t a 4) (tkN t (a + 16) 8) (tkN t (a + 24) 8) (tkN t (a + 48) 8) (tkN t (a + 8) 8) (tkN t (a + 32) 8) t.size
def sgAt (t : ByteArray) (a : Nat) : Sg := ⟨tkN t (a + 4) 4, tkN t (a + 16) 8, tkN t (a + 40) 8, subT t (tkN t (a + 8) 8).toNat (tkN t (a + 32) 8).toNat⟩
/-- what a reader of a segment's head answers beside a code -/
def RsOut (t : ByteArray) (a : Nat) (V : Value) (c : Int) : Prop := c = rsAt t a ∧ (∃ x : Sg, V = .agg #[.int .i64 x.f, .int .i64 x.v, .int .i64 x.m, .string x.d]) ∧ (c = 0 → V = .agg #[.int .i64 (sgAt t a).f, .int .i64 (sgAt t a).v, .int .i64 (sgAt t a).m, .string (sgAt t a).d])
theorem belowNr {n : Nat} {w W : World} (h : Below n w W) (k : Nat) : Below n w (W.drewN k) := ⟨h.os, h.tape, h.output, h.size, h.block⟩
/-- the world behind the reader's two variables: the answer's (noughts) and the segment's -/
structure TwoB (w W : World) (x : Sg) : Prop where
  b : Below w.heap.size w W
  s : SgAt W (w.heap.size + 1) x
  c0 : W.cell? ⟨w.heap.size, 0, none⟩ = some (.int .i64 0)
  c1 : W.cell? ⟨w.heap.size, 1, none⟩ = some (.int .i64 0)
  c2 : W.cell? ⟨w.heap.size, 2, none⟩ = some (.int .i64 0)
  c3 : W.cell? ⟨w.heap.size, 3, none⟩ = some (.string ⟨#[]⟩)
  f0 : W.frozen? ⟨w.heap.size, 0, none⟩ = false
  f1 : W.frozen? ⟨w.heap.size, 1, none⟩ = false
  f2 : W.frozen? ⟨w.heap.size, 2, none⟩ = false
  f3 : W.frozen? ⟨w.heap.size, 3, none⟩ = false
  g3 : W.frozen? ⟨w.heap.size + 1, 3, none⟩ = false
theorem twoB (w : World) (x : Sg) (t : TypeId) (n : Nat) : TwoB w (((w.alloc (.cells #[.int .i64 0, .int .i64 0, .int .i64 0, .string ⟨#[]⟩] t)).alloc (.cells #[.int .i64 x.f, .int .i64 x.v, .int .i64 x.m, .string x.d] t)).drewN n) x := by
  refine ⟨belowNr ((belowA _ _).alloc (by simp) _) _, ?_, ?_, ?_, ?_, ?_, ?_, ?_, ?_, ?_, ?_⟩
  · refine ⟨by simp, ?_, ?_, ?_, ?_⟩ <;> go_cell
  all_goals first | (go_cell; done) | (simp [go_sem]; done)
theorem TwoB.drewN {w W : World} {x : Sg} (h : TwoB w W x) (n : Nat) : TwoB w (W.drewN n) x := ⟨belowNr h.b n, h.s, h.c0, h.c1, h.c2, h.c3, h.f0, h.f1, h.f2, h.f3, h.g3⟩
theorem twoB0 (w : World) (x : Sg) (t : TypeId) : TwoB w ((w.alloc (.cells #[.int .i64 0, .int .i64 0, .int .i64 0, .string ⟨#[]⟩] t)).alloc (.cells #[.int .i64 x.f, .int .i64 x.v, .int .i64 x.m, .string x.d] t)) x := twoB w x t 0
set_option maxRecDepth 100000 in
set_option maxHeartbeats 4000000 in
theorem rsS (t : ByteArray) (a : Nat) (w : World) (hm : t.size ≤ 65536) (ha : a + 56 ≤ t.size) :
    Calls Tryd.prog 40 #[.string t, .int .i64 (a : Int)] w fun e w' => (∃ V c, e = .returned (.tuple #[V, .int .i64 c]) ∧ RsOut t a V c) ∧ Below w.heap.size w w' := by
  have c0 := Lib.hid (fun w => tkS0 t a w hm ha)
  have c4 := Lib.hid (fun w => tkS4 t a w hm ha)
  have c8 := Lib.hid (fun w => tkS8 t a w hm ha)
  have c16 := Lib.hid (fun w => tkS16 t a w hm ha)
  have c24 := Lib.hid (fun w => tkS24 t a w hm ha)
  have c32 := Lib.hid (fun w => tkS32 t a w hm ha)
  have c40 := Lib.hid (fun w => tkS40 t a w hm ha)
  have c48 := Lib.hid (fun w => tkS48 t a w hm ha)
  have hW := rsC_ways (tkN t a 4) (tkN t (a + 16) 8) (tkN t (a + 24) 8) (tkN t (a + 48) 8) (tkN t (a + 8) 8) (tkN t (a + 32) 8) t.size
  have hR : rsAt t a = rsC (tkN t a 4) (tkN t (a + 16) 8) (tkN t (a + 24) 8) (tkN t (a + 48) 8) (tkN t (a + 8) 8) (tkN t (a + 32) 8) t.size := rfl
  have hG : sgAt t a = ⟨tkN t (a + 4) 4, tkN t (a + 16) 8, tkN t (a + 40) 8, subT t (tkN t (a + 8) 8).toNat (tkN t (a + 32) 8).toNat⟩ := rfl
  generalize tkN t a 4 = K at c0 hW hR
  generalize tkN t (a + 4) 4 = F at c4 hG
  generalize tkN t (a + 8) 8 = O at c8 hW hR hG
  generalize tkN t (a + 16) 8 = V at c16 hW hR hG
  generalize tkN t (a + 24) 8 = V2 at c24 hW hR
  generalize tkN t (a + 32) 8 = S at c32 hW hR hG
  generalize tkN t (a + 40) 8 = M at c40 hG
  generalize tkN t (a + 48) 8 = AL at c48 hW hR
  have HW := Lib.hid hW; have HR := Lib.hid hR; have HG := Lib.hid hG
  clear hW hR hG
  have hm' := mixedS
  go_enter Tryd.func40, Tryd.ntmps40
  go_wp2_with fail
  refine (c4.out _).mono ?_
  rintro e w1 ⟨rfl, rfl⟩
  go_wp2_with fail
  refine (c16.out _).mono ?_
  rintro e w1 ⟨rfl, rfl⟩
  go_wp2_with fail
  refine (c40.out _).mono ?_
  rintro e w1 ⟨rfl, rfl⟩
  go_wp2_with fail
  refine (c8.out _).mono ?_
  rintro e w1 ⟨rfl, rfl⟩
  go_wp2_with fail
  refine (c32.out _).mono ?_
  rintro e w1 ⟨rfl, rfl⟩
  go_wp2_with fail
  obtain ⟨W, hW⟩ : ∃ W, W = (w.alloc (.cells #[.int .i64 0, .int .i64 0, .int .i64 0, .string ⟨#[]⟩] 61)).alloc (.cells #[.int .i64 F, .int .i64 V, .int .i64 M, .string ⟨#[]⟩] 61) := ⟨_, rfl⟩
  have T0 : TwoB w W ⟨F, V, M, ⟨#[]⟩⟩ := by rw [hW]; exact twoB0 w ⟨F, V, M, ⟨#[]⟩⟩ _
  have HT := Lib.hid T0
  rw [← hW]
  clear hW
  have y1 : W.cell? ⟨w.heap.size + 1, 1, none⟩ = some (.int .i64 V) := T0.s.2.2.1
  clear T0
  have q24 : IntKind.i64.wrap ((a : Int) + 24) = (a : Int) + 24 := IntWalk.i64_in _ (by omega)
  have q48 : IntKind.i64.wrap ((a : Int) + 48) = (a : Int) + 48 := IntWalk.i64_in _ (by omega)
  rcases HW.out with ⟨h1, hc⟩ | ⟨h1, h2, hc⟩ | ⟨h1, h2, h3, hc⟩ | ⟨h1, h2, h3, h4, hc⟩ | ⟨h1, h2, h3, h4, hc⟩
  · have hK : (K != 1) = true := bne_iff_ne.2 h1
    have HC := Lib.hid hc
    clear h1 hc
    go_quiet (first | (go_at_call 39; first | (with_reducible exact Calls.quiet_of_same (c0.out _))))
    clear y1
    have T := HT.out.drewN nq
    generalize W.drewN nq = Wq at T ⊢
    obtain ⟨tb, ⟨s0, s1, s2, s3, s4⟩, q0, q1, q2, q3, f0, f1, f2, f3, g3⟩ := T
    simp only at s1 s2 s3 s4
    have R := sgSet Wq w.heap.size ⟨F, V, M, ⟨#[]⟩⟩ (by omega) q0 q1 q2 q3
    have LB := Lib.hid tb; have RB := Lib.hid R
    clear tb R
    go_wp2
    obtain ⟨_, r0, r1, r2, r3⟩ := RB.out
    refine bodyPost_ret (v := .tuple #[.agg #[.int .i64 F, .int .i64 V, .int .i64 M, .string ⟨#[]⟩], .int .i64 31]) (by simp [results, Tryd.results40, go_sem, r0, r1, r2, r3]) rfl ?_
    exact ⟨⟨_, _, rfl, by rw [HR.out, HC.out], ⟨⟨F, V, M, ⟨#[]⟩⟩, rfl⟩, fun h => by cases h⟩, below4 LB.out (Nat.le_refl _) _ _ _ _⟩
  · have hK : (K != 1) = false := by rw [h1]; rfl
    have hV : (V2 != V) = true := bne_iff_ne.2 h2
    have HC := Lib.hid hc
    clear h1 h2 hc
    go_quiet (first | (go_at_call 39; first | (with_reducible exact Calls.quiet_of_same (c0.out _)) | (with_reducible exact Calls.quiet_of_same (c24.out _))))
    clear y1
    have T := HT.out.drewN nq
    generalize W.drewN nq = Wq at T ⊢
    obtain ⟨tb, ⟨s0, s1, s2, s3, s4⟩, q0, q1, q2, q3, f0, f1, f2, f3, g3⟩ := T
    simp only at s1 s2 s3 s4
    have R := sgSet Wq w.heap.size ⟨F, V, M, ⟨#[]⟩⟩ (by omega) q0 q1 q2 q3
    have LB := Lib.hid tb; have RB := Lib.hid R
    clear tb R
    go_wp2
    obtain ⟨_, r0, r1, r2, r3⟩ := RB.out
    refine bodyPost_ret (v := .tuple #[.agg #[.int .i64 F, .int .i64 V, .int .i64 M, .string ⟨#[]⟩], .int .i64 31]) (by simp [results, Tryd.results40, go_sem, r0, r1, r2, r3]) rfl ?_
    exact ⟨⟨_, _, rfl, by rw [HR.out, HC.out], ⟨⟨F, V, M, ⟨#[]⟩⟩, rfl⟩, fun h => by cases h⟩, below4 LB.out (Nat.le_refl _) _ _ _ _⟩
  · have hK : (K != 1) = false := by rw [h1]; rfl
    have hV : (V2 != V) = false := by rw [h2]; simp
    have hA : (AL != 256) = true := bne_iff_ne.2 h3
    have HC := Lib.hid hc
    clear h1 h2 h3 hc
    go_quiet (first | (go_at_call 39; first | (with_reducible exact Calls.quiet_of_same (c0.out _)) | (with_reducible exact Calls.quiet_of_same (c24.out _)) | (with_reducible exact Calls.quiet_of_same (c48.out _))))
    clear y1
    have T := HT.out.drewN nq
    generalize W.drewN nq = Wq at T ⊢
    obtain ⟨tb, ⟨s0, s1, s2, s3, s4⟩, q0, q1, q2, q3, f0, f1, f2, f3, g3⟩ := T
    simp only at s1 s2 s3 s4
    have R := sgSet Wq w.heap.size ⟨F, V, M, ⟨#[]⟩⟩ (by omega) q0 q1 q2 q3
    have LB := Lib.hid tb; have RB := Lib.hid R
    clear tb R
    go_wp2
    obtain ⟨_, r0, r1, r2, r3⟩ := RB.out
    refine bodyPost_ret (v := .tuple #[.agg #[.int .i64 F, .int .i64 V, .int .i64 M, .string ⟨#[]⟩], .int .i64 31]) (by simp [results, Tryd.results40, go_sem, r0, r1, r2, r3]) rfl ?_
    exact ⟨⟨_, _, rfl, by rw [HR.out, HC.out], ⟨⟨F, V, M, ⟨#[]⟩⟩, rfl⟩, fun h => by cases h⟩, below4 LB.out (Nat.le_refl _) _ _ _ _⟩
  · have hK : (K != 1) = false := by rw [h1]; rfl
    have hV : (V2 != V) = false := by rw [h2]; simp
    have hA : (AL != 256) = false := by rw [h3]; rfl
    have HC := Lib.hid hc
    clear h1 h2 h3 hc
    go_quiet (first | (go_at_call 39; first | (with_reducible exact Calls.quiet_of_same (c0.out _)) | (with_reducible exact Calls.quiet_of_same (c24.out _)) | (with_reducible exact Calls.quiet_of_same (c48.out _))))
    clear y1
    have T := HT.out.drewN nq
    generalize W.drewN nq = Wq at T ⊢
    obtain ⟨tb, ⟨s0, s1, s2, s3, s4⟩, q0, q1, q2, q3, f0, f1, f2, f3, g3⟩ := T
    simp only at s1 s2 s3 s4
    have R := sgSet Wq w.heap.size ⟨F, V, M, ⟨#[]⟩⟩ (by omega) q0 q1 q2 q3
    have LB := Lib.hid tb; have RB := Lib.hid R
    clear tb R
    have hw := end_ways h4
    clear q24 q48 ha
    clear h4
    rcases hw with g1 | ⟨g1, g2⟩ | ⟨g1, g2, g3⟩ | ⟨g1, g2, g3, g4⟩
    · have e0 : decide (O < 0) = true := decide_eq_true g1
      clear g1
      go_wp2
      obtain ⟨_, r0, r1, r2, r3⟩ := RB.out
      refine bodyPost_ret (v := .tuple #[.agg #[.int .i64 F, .int .i64 V, .int .i64 M, .string ⟨#[]⟩], .int .i64 9]) (by simp [results, Tryd.results40, go_sem, r0, r1, r2, r3]) rfl ?_
      exact ⟨⟨_, _, rfl, by rw [HR.out, HC.out], ⟨⟨F, V, M, ⟨#[]⟩⟩, rfl⟩, fun h => by cases h⟩, below4 LB.out (Nat.le_refl _) _ _ _ _⟩
    · have e0 : decide (O < 0) = false := decide_eq_false (by omega)
      have e1 : decide ((t.size : Int) < O) = true := decide_eq_true g2
      clear g1 g2
      go_wp2
      obtain ⟨_, r0, r1, r2, r3⟩ := RB.out
      refine bodyPost_ret (v := .tuple #[.agg #[.int .i64 F, .int .i64 V, .int .i64 M, .string ⟨#[]⟩], .int .i64 9]) (by simp [results, Tryd.results40, go_sem, r0, r1, r2, r3]) rfl ?_
      exact ⟨⟨_, _, rfl, by rw [HR.out, HC.out], ⟨⟨F, V, M, ⟨#[]⟩⟩, rfl⟩, fun h => by cases h⟩, below4 LB.out (Nat.le_refl _) _ _ _ _⟩
    · have e0 : decide (O < 0) = false := decide_eq_false (by omega)
      have e1 : decide ((t.size : Int) < O) = false := decide_eq_false (by omega)
      have e2 : decide (S < 0) = true := decide_eq_true g3
      clear g1 g2 g3
      go_wp2
      obtain ⟨_, r0, r1, r2, r3⟩ := RB.out
      refine bodyPost_ret (v := .tuple #[.agg #[.int .i64 F, .int .i64 V, .int .i64 M, .string ⟨#[]⟩], .int .i64 9]) (by simp [results, Tryd.results40, go_sem, r0, r1, r2, r3]) rfl ?_
      exact ⟨⟨_, _, rfl, by rw [HR.out, HC.out], ⟨⟨F, V, M, ⟨#[]⟩⟩, rfl⟩, fun h => by cases h⟩, below4 LB.out (Nat.le_refl _) _ _ _ _⟩
    · have e0 : decide (O < 0) = false := decide_eq_false (by omega)
      have e1 : decide ((t.size : Int) < O) = false := decide_eq_false (by omega)
      have e2 : decide (S < 0) = false := decide_eq_false (by omega)
      have e3 : IntKind.i64.wrap ((t.size : Int) - O) = (t.size : Int) - O := IntWalk.i64_in _ (by omega)
      have e4 : decide ((t.size : Int) - O < S) = true := decide_eq_true g4
      clear g1 g2 g3 g4
      go_wp2
      obtain ⟨_, r0, r1, r2, r3⟩ := RB.out
      refine bodyPost_ret (v := .tuple #[.agg #[.int .i64 F, .int .i64 V, .int .i64 M, .string ⟨#[]⟩], .int .i64 9]) (by simp [results, Tryd.results40, go_sem, r0, r1, r2, r3]) rfl ?_
      exact ⟨⟨_, _, rfl, by rw [HR.out, HC.out], ⟨⟨F, V, M, ⟨#[]⟩⟩, rfl⟩, fun h => by cases h⟩, below4 LB.out (Nat.le_refl _) _ _ _ _⟩
  · have hK : (K != 1) = false := by rw [h1]; rfl
    have hV : (V2 != V) = false := by rw [h2]; simp
    have hA : (AL != 256) = false := by rw [h3]; rfl
    have HC := Lib.hid hc
    obtain ⟨o, rfl⟩ := Int.eq_ofNat_of_zero_le h4.1
    obtain ⟨s, rfl⟩ := Int.eq_ofNat_of_zero_le h4.2.1
    have h5 : o + s ≤ t.size := by omega
    clear h1 h2 h3 h4 hc
    go_quiet (first | (go_at_call 39; first | (with_reducible exact Calls.quiet_of_same (c0.out _)) | (with_reducible exact Calls.quiet_of_same (c24.out _)) | (with_reducible exact Calls.quiet_of_same (c48.out _))))
    clear y1
    have T := HT.out.drewN nq
    generalize W.drewN nq = Wq at T ⊢
    obtain ⟨tb, ⟨s0, s1, s2, s3, s4⟩, q0, q1, q2, q3, f0, f1, f2, f3, g3⟩ := T
    simp only at s1 s2 s3 s4
    have R := sgSet Wq w.heap.size ⟨F, V, M, ⟨#[]⟩⟩ (by omega) q0 q1 q2 q3
    have LB := Lib.hid tb; have RB := Lib.hid R
    clear tb R
    have hsub : subT t ((o : Int)).toNat ((s : Int)).toNat = t.extract o (o + s) := rfl
    have hG := HG.out
    rw [hsub] at hG
    have HG2 := Lib.hid hG
    clear hG hsub
    have R2 := sgSet (Wq.setCell ⟨w.heap.size + 1, 3, none⟩ (.string (t.extract o (o + s)))) w.heap.size ⟨F, V, M, t.extract o (o + s)⟩ (by simp; omega) ((cellOther (by simp) _).trans q0) ((cellOther (by simp) _).trans q1) ((cellOther (by simp) _).trans q2) ((cellOther (by simp) _).trans q3)
    have RC := Lib.hid R2
    have o1 : (0 : Int) ≤ (o : Int) := by omega
    have o2 : (o : Int) ≤ (o : Int) + (s : Int) := by omega
    have o3 : (o : Int) + (s : Int) ≤ (t.size : Int) := by omega
    clear R2 RB
    go_wp2
    obtain ⟨_, r0, r1, r2, r3⟩ := RC.out
    simp only at r0 r1 r2 r3
    refine bodyPost_ret (v := .tuple #[.agg #[.int .i64 F, .int .i64 V, .int .i64 M, .string (t.extract o (o + s))], .int .i64 0]) (by simp [results, Tryd.results40, go_sem, r0, r1, r2, r3]) rfl ?_
    exact ⟨⟨_, _, rfl, by rw [HR.out, HC.out], ⟨⟨F, V, M, _⟩, rfl⟩, fun _ => by rw [HG2.out]⟩, below4 (LB.out.setCell (by show w.heap.size ≤ w.heap.size + 1; omega) _) (Nat.le_refl _) _ _ _ _⟩
end Go.Proofs.YtcchcinnjahghaaDoor
