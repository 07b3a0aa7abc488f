/-
  What impl.ElfText and spec.ElfText answer of an image: its text, if it is right; conditions: those in each head.
-/
import Derived.Test.YtmoemhnmiabppaaDoorWalkTx
import Derived.Test.YtmoemhnmiabppaaDoorWalkPut
import Derived.Test.YtmoemhnmiabppaaDoorWalkImT
namespace Go.Proofs.YtmoemhnmiabppaaDoor
open Go.RowKit
set_option linter.unusedVariables false
set_option linter.unusedSimpArgs false
theorem numC (v : Int) (n : Nat) (w : World) (h : okSize (n : Int)) : Calls Tryd.prog 44 #[.int .i64 v, .int .i64 (n : Int)] w fun e w' => e = .returned (.string (litS v n)) ∧ Below w.heap.size w w' := by
  have C := Lib.hid (implPutYes v (IntKind.u64.wrap v).toNat n w (by have := wrapUL v; omega) h)
  have e : (⟨(leB (IntKind.u64.wrap v).toNat n).toArray⟩ : ByteArray) = litS v n := rfl
  rw [e] at C
  clear h e
  go_enter Tryd.func44, Tryd.ntmps44
  go_wp2_with fail
  refine (C.out).mono ?_
  rintro e w1 ⟨rfl, b⟩
  go_wp2
  go_ret
  exact ⟨rfl, b⟩
theorem num2 (v : Int) (w : World) : Calls Tryd.prog 44 #[.int .i64 v, .int .i64 2] w fun e w' => e = .returned (.string (litS v 2)) ∧ Below w.heap.size w w' := numC v 2 w (.inr (.inl rfl))
theorem num4 (v : Int) (w : World) : Calls Tryd.prog 44 #[.int .i64 v, .int .i64 4] w fun e w' => e = .returned (.string (litS v 4)) ∧ Below w.heap.size w w' := numC v 4 w (.inr (.inr (.inl rfl)))
theorem num8 (v : Int) (w : World) : Calls Tryd.prog 44 #[.int .i64 v, .int .i64 8] w fun e w' => e = .returned (.string (litS v 8)) ∧ Below w.heap.size w w' := numC v 8 w (.inr (.inr (.inr rfl)))
def b24 : ByteArray := ⟨#[127, 69, 76, 70, 2, 1, 1, 0, 0, 0, 0, 0, 0, 0, 0, 0, 2, 0, 62, 0, 1, 0, 0, 0]⟩
theorem b24_is : (((((⟨#[127, 69, 76, 70, 2, 1, 1, 0]⟩ : ByteArray) ++ z8) ++ litS 2 2) ++ litS 62 2) ++ litS 1 4) = b24 := by decide +kernel
theorem z6_is : litS 0 2 ++ litS 0 4 = z6 := by decide +kernel
theorem head_is (n many : Int) : ((((((((b24 ++ litS n 8) ++ litS 64 8) ++ litS 0 8) ++ litS 0 4) ++ litS 64 2) ++ litS 56 2) ++ litS many 2) ++ litS 0 2) ++ litS 0 4 = headT n many := by
  unfold headT
  rw [b24_is, ← z6_is]
  simp only [ByteArray.append_assoc]
set_option maxRecDepth 100000 in
set_option maxHeartbeats 1000000 in
theorem headI (n many : Int) (w : World) : Calls Tryd.prog 26 #[.int .i64 n, .int .i64 many] w fun e w' => e = .returned (.string (headT n many)) ∧ Below w.heap.size w w' := by
  have HI := head_is n many
  have c0 := num8 n
  have z0 := litS_size n 8
  have c1 := num8 64
  have z1 := litS_size 64 8
  have c2 := num8 0
  have z2 := litS_size 0 8
  have c3 := num4 0
  have z3 := litS_size 0 4
  have c4 := num2 64
  have z4 := litS_size 64 2
  have c5 := num2 56
  have z5 := litS_size 56 2
  have c6 := num2 many
  have z6 := litS_size many 2
  have c7 := num2 0
  have z7 := litS_size 0 2
  have c8 := num4 0
  have z8 := litS_size 0 4
  generalize litS n 8 = S0 at HI c0 z0
  generalize litS 64 8 = S1 at HI c1 z1
  generalize litS 0 8 = S2 at HI c2 z2
  generalize litS 0 4 = S3 at HI c3 z3 c8 z8
  generalize litS 64 2 = S4 at HI c4 z4
  generalize litS 56 2 = S5 at HI c5 z5
  generalize litS many 2 = S6 at HI c6 z6
  generalize litS 0 2 = S7 at HI c7 z7
  clear c8 z8
  generalize headT n many = H at HI ⊢
  have HH := Lib.hid HI
  clear HI
  have C0 := Lib.hid c0
  have C1 := Lib.hid c1
  have C2 := Lib.hid c2
  have C3 := Lib.hid c3
  have C4 := Lib.hid c4
  have C5 := Lib.hid c5
  have C6 := Lib.hid c6
  have C7 := Lib.hid c7
  clear c0 c1 c2 c3 c4 c5 c6 c7
  go_enter Tryd.func26, Tryd.ntmps26
  go_wp2_with fail
  refine (C0.out _).mono ?_
  rintro e w1 ⟨rfl, b1⟩
  have L1 := b1
  go_wp2_with fail
  refine (C1.out _).mono ?_
  rintro e w2 ⟨rfl, b2⟩
  have L2 := bthenS L1 b2
  go_wp2_with fail
  refine (C2.out _).mono ?_
  rintro e w3 ⟨rfl, b3⟩
  have L3 := bthenS L2 b3
  go_wp2_with fail
  refine (C3.out _).mono ?_
  rintro e w4 ⟨rfl, b4⟩
  have L4 := bthenS L3 b4
  go_wp2_with fail
  refine (C4.out _).mono ?_
  rintro e w5 ⟨rfl, b5⟩
  have L5 := bthenS L4 b5
  go_wp2_with fail
  refine (C5.out _).mono ?_
  rintro e w6 ⟨rfl, b6⟩
  have L6 := bthenS L5 b6
  go_wp2_with fail
  refine (C6.out _).mono ?_
  rintro e w7 ⟨rfl, b7⟩
  have L7 := bthenS L6 b7
  go_wp2_with fail
  refine (C7.out _).mono ?_
  rintro e w8 ⟨rfl, b8⟩
  have L8 := bthenS L7 b8
  go_wp2_with fail
  refine (C3.out _).mono ?_
  rintro e w9 ⟨rfl, b9⟩
  have L9 := bthenS L8 b9
  go_wp2
  go_ret
  exact ⟨by rw [← HH.out]; rfl, L9⟩
/-- block g holds a segment's head -/
def HdAt (W : World) (g : Nat) (f a v s m : Int) : Prop := g < W.heap.size ∧ W.cell? ⟨g, 0, none⟩ = some (.int .i64 f) ∧ W.cell? ⟨g, 1, none⟩ = some (.int .i64 a) ∧ W.cell? ⟨g, 2, none⟩ = some (.int .i64 v) ∧ W.cell? ⟨g, 3, none⟩ = some (.int .i64 s) ∧ W.cell? ⟨g, 4, none⟩ = some (.int .i64 m)
theorem HdAt.next {W W' : World} {g : Nat} {f a v s m : Int} (h : HdAt W g f a v s m) (hb : Below W.heap.size W W') : HdAt W' g f a v s m :=
  ⟨by have := hb.size; have := h.1; omega, (hb.cell (p := ⟨g, 0, none⟩) h.1).trans h.2.1, (hb.cell (p := ⟨g, 1, none⟩) h.1).trans h.2.2.1, (hb.cell (p := ⟨g, 2, none⟩) h.1).trans h.2.2.2.1, (hb.cell (p := ⟨g, 3, none⟩) h.1).trans h.2.2.2.2.1, (hb.cell (p := ⟨g, 4, none⟩) h.1).trans h.2.2.2.2.2⟩
structure CH (W : World) (g : Nat) (f a v s m : Int) where
  u : World
  b : Below W.heap.size W u
  s : HdAt u g f a v s m
theorem CH.calls {P : Program} {fn : FuncId} {args : Array Value} {val : Value} {W : World} {g : Nat} {f a v s m : Int} (p : CH W g f a v s m) (h : Calls P fn args p.u fun e w' => e = .returned val ∧ Below p.u.heap.size p.u w') : Calls P fn args p.u fun e w'' => e = .returned val ∧ ∃ q : CH W g f a v s m, w'' = q.u :=
  h.mono fun e w' ⟨he, hb⟩ => ⟨he, ⟨w', p.b.trans (hb.mono p.b.size), p.s.next hb⟩, rfl⟩
set_option maxRecDepth 100000 in
set_option maxHeartbeats 4000000 in
theorem segI (a : Int) (x : Sg) (w : World) : Calls Tryd.prog 27 #[.agg #[.int .i64 x.f, .int .i64 a, .int .i64 x.v, .int .i64 (x.d.size : Int), .int .i64 x.m]] w fun e w' => e = .returned (.string (segT a x)) ∧ Below w.heap.size w w' := by
  obtain ⟨s, hs⟩ : ∃ s, s = (x.d.size : Int) := ⟨_, rfl⟩
  have hT : segT a x = ((((((litS 1 4 ++ litS x.f 4) ++ litS a 8) ++ litS x.v 8) ++ litS x.v 8) ++ litS s 8) ++ litS x.m 8) ++ litS 256 8 := by rw [hs]; rfl
  rw [← hs, hT]
  clear hT hs
  obtain ⟨W, hW⟩ : ∃ W, W = w.alloc (.cells #[.int .i64 x.f, .int .i64 a, .int .i64 x.v, .int .i64 s, .int .i64 x.m] 53) := ⟨_, rfl⟩
  have LW : Hid (Below w.heap.size w W) := Lib.hid (by rw [hW]; exact belowA _ _)
  have SW : Hid (HdAt W w.heap.size x.f a x.v s x.m) := Lib.hid (by rw [hW]; exact ⟨by simp, by go_cell, by go_cell, by go_cell, by go_cell, by go_cell⟩)
  have HW := Lib.hid hW
  clear hW
  have hne : Nonempty (CH W w.heap.size x.f a x.v s x.m) := ⟨⟨W, Below.refl _ _, SW.out⟩⟩
  have y0 : ∀ q : CH W w.heap.size x.f a x.v s x.m, q.u.cell? ⟨w.heap.size, 0, none⟩ = some (.int .i64 x.f) := fun q => q.s.2.1
  have y1 : ∀ q : CH W w.heap.size x.f a x.v s x.m, q.u.cell? ⟨w.heap.size, 1, none⟩ = some (.int .i64 a) := fun q => q.s.2.2.1
  have y2 : ∀ q : CH W w.heap.size x.f a x.v s x.m, q.u.cell? ⟨w.heap.size, 2, none⟩ = some (.int .i64 x.v) := fun q => q.s.2.2.2.1
  have y3 : ∀ q : CH W w.heap.size x.f a x.v s x.m, q.u.cell? ⟨w.heap.size, 3, none⟩ = some (.int .i64 s) := fun q => q.s.2.2.2.2.1
  have y4 : ∀ q : CH W w.heap.size x.f a x.v s x.m, q.u.cell? ⟨w.heap.size, 4, none⟩ = some (.int .i64 x.m) := fun q => q.s.2.2.2.2.2
  have c1 := Lib.hid (num4 1); have c2 := Lib.hid (num4 x.f); have c3 := Lib.hid (num8 a); have c4 := Lib.hid (num8 x.v); have c5 := Lib.hid (num8 s); have c6 := Lib.hid (num8 x.m); have c7 := Lib.hid (num8 256)
  have z1 := litS_size 1 4; have z2 := litS_size x.f 4; have z3 := litS_size a 8; have z4 := litS_size x.v 8; have z5 := litS_size s 8; have z6' := litS_size x.m 8; have z7 := litS_size 256 8
  go_enter Tryd.func27, Tryd.ntmps27
  go_upto_region 1 with fail
  rw [← HW.out]
  clear HW
  refine wp_region_quietC (C := fun w' => ∃ q : CH W w.heap.size x.f a x.v s x.m, w' = q.u) (by kernel_rfl) (by kernel_rfl) ⟨⟨W.drew, belowD W, SW.out.next (belowD W)⟩, rfl⟩ ?_
  repeat (quiet_step (first | (go_at_call 44; first | (with_reducible exact CH.calls _ (c1.out _)) | (with_reducible exact CH.calls _ (c2.out _)) | (with_reducible exact CH.calls _ (c3.out _)) | (with_reducible exact CH.calls _ (c4.out _)) | (with_reducible exact CH.calls _ (c5.out _)) | (with_reducible exact CH.calls _ (c6.out _)) | (with_reducible exact CH.calls _ (c7.out _)))))
  refine wpQuiet_nil ?_
  rintro _ ⟨q, rfl⟩
  have B2 := LW.out.trans (q.b.mono LW.out.size)
  clear y0 y1 y2 y3 y4 c1 c2 c3 c4 c5 c6 c7 z1 z2 z3 z4 z5 z6' z7 hne LW SW
  go_wp2
  go_ret
  exact ⟨rfl, B2⟩
/-- what ElfText answers -/
def ElfIs (n : Int) (l : List Sg) (c : Int) (e : Ending) : Prop := (c ≠ 0 ∧ e = .returned (.tuple #[.string ⟨#[]⟩, .int .i64 1])) ∨ (c = 0 ∧ e = .returned (.tuple #[.string (textT n l), .int .i64 0]))
theorem ElfIs.one {n : Int} {l : List Sg} {c : Int} {e e' : Ending} (h : ElfIs n l c e) (h' : ElfIs n l c e') : e = e' := by
  rcases h with ⟨h1, rfl⟩ | ⟨h1, rfl⟩ <;> rcases h' with ⟨h2, rfl⟩ | ⟨h2, rfl⟩
  · rfl
  · exact absurd h2 h1
  · exact absurd h1 h2
  · rfl
theorem chk_four {n : Int} {l : List Sg} {k : Nat} (h : Chk n l k 0) : l.length ≤ 4 := by
  generalize hc : (0 : Int) = c at h
  cases h with
  | none h => cases hc
  | many h => cases hc
  | seg _ y _ hk hy hb => exact absurd hc.symm hb
  | norun _ _ _ h => cases hc
  | entry j x _ _ hf he => cases hc
  | ok j x h4 ho hf he => exact h4
theorem elfS (n : Int) (p : Option Addr) (cap : Nat) (l : List Sg) (w : World) (hr : RdS w p l) (hs : SmallS l) (hwf : WfS l) (k : Nat) (c : Int) (hc : Chk n l k c) :
    Calls Tryd.prog 11 #[.agg #[.int .i64 n, .slice p l.length cap]] w fun e w' => ElfIs n l c e ∧ Below w.heap.size w w' := by
  have b0 := Lib.hid (belowA w (.cells #[.int .i64 n, .slice p l.length cap] 30))
  have I0 := Lib.hid (ImAt.new w n p l.length cap 30)
  have C := Lib.hid (okS n p cap l _ (hr.below b0.out) hs hwf k c hc)
  have HR := Lib.hid (hr.below b0.out)
  by_cases h0 : c = 0
  · subst h0
    have h4 := chk_four hc
    have D := Lib.hid (fun W (h : RdS W p l) => textC n p cap l W h4 h hs)
    rw [show ((0 : Int) == 0) = true from rfl] at C
    clear hr hs hc
    go_enter Tryd.func11, Tryd.ntmps11
    go_wp2_with fail
    refine (C.out).mono ?_
    rintro e w1 ⟨rfl, b1⟩
    obtain ⟨i0, i1, i2⟩ := I0.out.next b1
    have L := b0.out.trans (b1.mono b0.out.size)
    have R1 := Lib.hid (HR.out.below b1)
    clear b1 C
    go_wp2_with fail
    refine (D.out _ R1.out).mono ?_
    rintro e w2 ⟨rfl, b2⟩
    go_wp2
    go_returns
    exact ⟨.inr ⟨rfl, rfl⟩, L.trans (b2.mono L.size)⟩
  · rw [show (c == 0) = false from beq_eq_false_iff_ne.2 h0] at C
    have HN := Lib.hid h0
    clear h0 hr hs hc
    go_enter Tryd.func11, Tryd.ntmps11
    go_wp2_with fail
    refine (C.out).mono ?_
    rintro e w1 ⟨rfl, b1⟩
    have L := b0.out.trans (b1.mono b0.out.size)
    go_wp2
    go_returns
    exact ⟨.inl ⟨HN.out, rfl⟩, L⟩
end Go.Proofs.YtmoemhnmiabppaaDoor
