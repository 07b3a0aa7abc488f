/-
  What impl.ElfText and spec.ElfText answer of an image: its text, if it is right; conditions: those in each head.
-/
import Derived.Test.YtcchcinnjahghaaDoorWalkTx
import Derived.Test.YtcchcinnjahghaaDoorWalkPut
import Derived.Test.YtcchcinnjahghaaDoorWalkImT
namespace Go.Proofs.YtcchcinnjahghaaDoor
open Go.RowKit
set_option linter.unusedVariables false
set_option linter.unusedSimpArgs false
theorem numC (v : Int) (n : Nat) (w : World) (h : okSize (n : Int)) : Calls Tryd.prog 90 #[.int .i64 v, .int .i64 (n : Int)] w fun e w' => e = .returned (.string (litS v n)) ∧ Below w.heap.size w w' := by
  have C := Lib.hid (implPutYes v (IntKind.u64.wrap v).toNat n w (by have := wrapUL v; omega) h)
  have e : (⟨(leB (IntKind.u64.wrap v).toNat n).toArray⟩ : ByteArray) = litS v n := rfl
  rw [e] at C
  clear h e
  go_enter Tryd.func90, Tryd.ntmps90
  go_wp2_with fail
  refine (C.out).mono ?_
  rintro e w1 ⟨rfl, b⟩
  go_wp2
  go_ret
  exact ⟨rfl, b⟩
theorem num2 (v : Int) (w : World) : Calls Tryd.prog 90 #[.int .i64 v, .int .i64 2] w fun e w' => e = .returned (.string (litS v 2)) ∧ Below w.heap.size w w' := numC v 2 w (.inr (.inl rfl))
theorem num4 (v : Int) (w : World) : Calls Tryd.prog 90 #[.int .i64 v, .int .i64 4] w fun e w' => e = .returned (.string (litS v 4)) ∧ Below w.heap.size w w' := numC v 4 w (.inr (.inr (.inl rfl)))
theorem num8 (v : Int) (w : World) : Calls Tryd.prog 90 #[.int .i64 v, .int .i64 8] w fun e w' => e = .returned (.string (litS v 8)) ∧ Below w.heap.size w w' := numC v 8 w (.inr (.inr (.inr rfl)))
def b24 : ByteArray := ⟨#[127, 69, 76, 70, 2, 1, 1, 0, 0, 0, 0, 0, 0, 0, 0, 0, 2, 0, 62, 0, 1, 0, 0, 0]⟩
theorem b24_is : (((((⟨#[127, 69, 76, 70, 2, 1, 1, 0]⟩ : ByteArray) ++ z8) ++ litS 2 2) ++ litS 62 2) ++ litS 1 4) = b24 := by decide +kernel
theorem z6_is : litS 0 2 ++ litS 0 4 = z6 := by decide +kernel
theorem head_is (n many : Int) : ((((((((b24 ++ litS n 8) ++ litS 64 8) ++ litS 0 8) ++ litS 0 4) ++ litS 64 2) ++ litS 56 2) ++ litS many 2) ++ litS 0 2) ++ litS 0 4 = headT n many := by
  unfold headT
  rw [b24_is, ← z6_is]
  simp only [ByteArray.append_assoc]
set_option maxRecDepth 100000 in
set_option maxHeartbeats 1000000 in
theorem headI (n many : Int) (w : World) : Calls Tryd.prog 72 #[.int .i64 n, .int .i64 many] w fun e w' => e = .returned (.string (headT n many)) ∧ Below w.heap.size w w' := by
  have HI := head_is n many
  have c0 := num8 n
  have z0 := litS_size n 8
  have c1 := num8 64
  have z1 := litS_size 64 8
  have c2 := num8 0
  have z2 := litS_size 0 8
  have c3 := num4 0
  have z3 := litS_size 0 4
  have c4 := num2 64
  have z4 := litS_size 64 2
  have c5 := num2 56
  have z5 := litS_size 56 2
  have c6 := num2 many
  have z6 := litS_size many 2
  have c7 := num2 0
  have z7 := litS_size 0 2
  have c8 := num4 0
  have z8 := litS_size 0 4
  generalize litS n 8 = S0 at HI c0 z0
  generalize litS 64 8 = S1 at HI c1 z1
  generalize litS 0 8 = S2 at HI c2 z2
  generalize litS 0 4 = S3 at HI c3 z3 c8 z8
  generalize litS 64 2 = S4 at HI c4 z4
  generalize litS 56 2 = S5 at HI c5 z5
  generalize litS many 2 = S6 at HI c6 z6
  generalize litS 0 2 = S7 at HI c7 z7
  clear c8 z8
  generalize headT n many = H at HI ⊢
  have HH := Lib.hid HI
  clear HI
  have C0 := Lib.hid c0
  have C1 := Lib.hid c1
  have C2 := Lib.hid c2
  have C3 := Lib.hid c3
  have C4 := Lib.hid c4
  have C5 := Lib.hid c5
  have C6 := Lib.hid c6
  have C7 := Lib.hid c7
  clear c0 c1 c2 c3 c4 c5 c6 c7
  go_enter Tryd.func72, Tryd.ntmps72
  go_wp2_with fail
  refine (C0.out _).mono ?_
  rintro e w1 ⟨rfl, b1⟩
  have L1 := b1
  go_wp2_with fail
  refine (C1.out _).mono ?_
  rintro e w2 ⟨rfl, b2⟩
  have L2 := bthenS L1 b2
  go_wp2_with fail
  refine (C2.out _).mono ?_
  rintro e w3 ⟨rfl, b3⟩
  have L3 := bthenS L2 b3
  go_wp2_with fail
  refine (C3.out _).mono ?_
  rintro e w4 ⟨rfl, b4⟩
  have L4 := bthenS L3 b4
  go_wp2_with fail
  refine (C4.out _).mono ?_
  rintro e w5 ⟨rfl, b5⟩
  have L5 := bthenS L4 b5
  go_wp2_with fail
  refine (C5.out _).mono ?_
  rintro e w6 ⟨rfl, b6⟩
  have L6 := bthenS L5 b6
  go_wp2_with fail
  refine (C6.out _).mono ?_
  rintro e w7 ⟨rfl, b7⟩
  have L7 := bthenS L6 b7
  go_wp2_with fail
  refine (C7.out _).mono ?_
  rintro e w8 ⟨rfl, b8⟩
  have L8 := bthenS L7 b8
  go_wp2_with fail
  refine (C3.out _).mono ?_
  rintro e w9 ⟨rfl, b9⟩
  have L9 := bthenS L8 b9
  go_wp2
  go_ret
  exact ⟨by rw [← HH.out]; rfl, L9⟩
/-- block g holds a segment's head -/
def HdAt (W : World) (g : Nat) (f a v s m : Int) : Prop := g < W.heap.size ∧ W.cell? ⟨g, 0, none⟩ = some (.int .i64 f) ∧ W.cell? ⟨g, 1, none⟩ = some (.int .i64 a) ∧ W.cell? ⟨g, 2, none⟩ = some (.int .i64 v) ∧ W.cell? ⟨g, 3, none⟩ = some (.int .i64 s) ∧ W.cell? ⟨g, 4, none⟩ = some (.int .i64 m)
theorem HdAt.next {W W' : World} {g : Nat} {f a v s m : Int} (h : HdAt W g f a v s m) (hb : Below W.heap.size W W') : HdAt W' g f a v s m :=
  ⟨by have := hb.size; have := h.1; omega, (hb.cell (p := ⟨g, 0, none⟩) h.1).trans h.2.1, (hb.cell (p := ⟨g, 1, none⟩) h.1).trans h.2.2.1, (hb.cell (p := ⟨g, 2, none⟩) h.1).trans h.2.2.2.1, (hb.cell (p := ⟨g, 3, none⟩) h.1).trans h.2.2.2.2.1, (hb.cell (p := ⟨g, 4, none⟩) h.1).trans h.2.2.2.2.2⟩
structure CH (W : World) (g : Nat) (f a v s m : Int) where
  u : World
  b : Below W.heap.size W u
  s : HdAt u g f a v s m
theorem CH.calls {P : Program} {fn : FuncId} {args : Array Value} {val : Value} {W : World} {g : Nat} {f a v s m : Int} (p : CH W g f a v s m) (h : Calls P fn args p.u fun e w' => e = .returned val ∧ Below p.u.heap.size p.u w') : Calls P fn args p.u fun e w'' => e = .returned val ∧ ∃ q : CH W g f a v s m, w'' = q.u :=
  h.mono fun e w' ⟨he, hb⟩ => ⟨he, ⟨w', p.b.trans (hb.mono p.b.size), p.s.next hb⟩, rfl⟩
/-- what ElfText answers -/
def ElfIs (n : Int) (l : List Sg) (c : Int) (e : Ending) : Prop := (c ≠ 0 ∧ e = .returned (.tuple #[.string ⟨#[]⟩, .int .i64 1])) ∨ (c = 0 ∧ e = .returned (.tuple #[.string (textT n l), .int .i64 0]))
theorem ElfIs.one {n : Int} {l : List Sg} {c : Int} {e e' : Ending} (h : ElfIs n l c e) (h' : ElfIs n l c e') : e = e' := by
  rcases h with ⟨h1, rfl⟩ | ⟨h1, rfl⟩ <;> rcases h' with ⟨h2, rfl⟩ | ⟨h2, rfl⟩
  · rfl
  · exact absurd h2 h1
  · exact absurd h1 h2
  · rfl
theorem chk_four {n : Int} {l : List Sg} {k : Nat} (h : Chk n l k 0) : l.length ≤ 4 := by
  generalize hc : (0 : Int) = c at h
  cases h with
  | none h => cases hc
  | many h => cases hc
  | seg _ y _ hk hy hb => exact absurd hc.symm hb
  | norun _ _ _ h => cases hc
  | entry j x _ _ hf he => cases hc
  | ok j x h4 ho hf he => exact h4
end Go.Proofs.YtcchcinnjahghaaDoor
