/-
  What impl.SameImage and spec.SameImage answer of two images: whether both are right and alike; conditions: those in each head.
-/
import Derived.Test.YtmoemhnmiabppaaMathSame
import Derived.Test.YtmoemhnmiabppaaWalkEq4
namespace Go.Proofs.Ytmoemhnmiabppaa
open Go.RowKit
set_option linter.unusedVariables false
set_option linter.unusedSimpArgs false
set_option maxHeartbeats 2000000 in
theorem sameI (n m : Int) (p q : Option Addr) (ca cb : Nat) (l r : List Sg) (w : World) (hca : l.length ≤ ca) (hcb : r.length ≤ cb) (hr : RdS w p l) (hq : RdS w q r) (hs : SmallS l) (ht : SmallS r) (k j : Nat) (c d : Int) (hc : Chk n l k c) (hd : Chk m r j d) (B : Bool) (hB : B = true ↔ c = 0 ∧ d = 0 ∧ n = m ∧ l = r) :
    Calls Try.prog 17 #[.agg #[.int .i64 n, .slice p l.length ca], .agg #[.int .i64 m, .slice q r.length cb]] w fun e w' => e = .returned (.bool B) ∧ Below w.heap.size w w' := by
  obtain ⟨W, hW⟩ : ∃ W, W = (w.alloc (.cells #[.int .i64 n, .slice p l.length ca] 32)).alloc (.cells #[.int .i64 m, .slice q r.length cb] 32) := ⟨_, rfl⟩
  have LW : Hid (Below w.heap.size w W) := Lib.hid (by rw [hW]; exact (belowA _ _).alloc (by simp) _)
  have I0 : Hid (ImAt W w.heap.size n p l.length ca) := Lib.hid (by rw [hW]; exact (ImAt.new _ _ _ _ _ _).next (belowA _ _))
  have J0 : Hid (ImAt W (w.heap.size + 1) m q r.length cb) := Lib.hid (by rw [hW]; have := ImAt.new (w.alloc (.cells #[.int .i64 n, .slice p l.length ca] 32)) m q r.length cb 32; simpa using this)
  have RA := Lib.hid hr; have RB := Lib.hid hq
  have C := Lib.hid (fun b => okI n p ca l W hca (hr.below LW.out) hs k c hc b)
  have D := Lib.hid (fun b w (h : RdS w q r) => okI m q cb r w hcb h ht j d hd b)
  have HC := Lib.hid hc; have HD := Lib.hid hd; have HB := Lib.hid hB; have HW := Lib.hid hW
  clear hr hq hs ht hc hd hB hW
  by_cases c0 : c = 0
  · have e0 : (c == 0) = true := beq_iff_eq.2 c0
    have C1 := Lib.hid (C.out true e0)
    by_cases d0 : d = 0
    · have e1 : (d == 0) = true := beq_iff_eq.2 d0
      have D1 := Lib.hid (fun w h => D.out true w h e1)
      have lz : l.length ≤ 4 := by have := HC.out; rw [c0] at this; exact (okB_all this).1
      have rz : r.length ≤ 4 := by have := HD.out; rw [d0] at this; exact (okB_all this).1
      by_cases nm : n = m
      · have hnm : (n == m) = true := beq_iff_eq.2 nm
        have E := Lib.hid (fun w (h1 : RdS w p l) (h2 : RdS w q r) => equalC p q ca cb l r w lz rz h1 h2 B (by rw [HB.out]; simp [c0, d0, nm]))
        have NM := Lib.hid nm
        clear c0 d0 e0 e1 nm C D lz rz
        go_enter Try.func17, Try.ntmps17
        go_wp2_with fail
        rw [← HW.out]
        refine (C1.out).mono ?_
        rintro e w1 ⟨rfl, b1⟩
        have L1 := Lib.hid (LW.out.trans (b1.mono LW.out.size)); have I1 := Lib.hid (I0.out.next b1); have J1 := Lib.hid (J0.out.next b1)
        obtain ⟨x0, x1, x2⟩ := I1.out; obtain ⟨y0, y1, y2⟩ := J1.out
        clear b1 I0 J0 C1
        go_wp2_with fail
        refine (D1.out _ (RB.out.below L1.out)).mono ?_
        rintro e w2 ⟨rfl, b2⟩
        clear x0 x1 x2 y0 y1 y2
        have L2 := Lib.hid (L1.out.trans (b2.mono L1.out.size)); have I2 := Lib.hid (I1.out.next b2); have J2 := Lib.hid (J1.out.next b2)
        obtain ⟨x0, x1, x2⟩ := I2.out; obtain ⟨y0, y1, y2⟩ := J2.out
        clear b2 I1 J1 D1 L1
        go_wp2_with fail
        refine (E.out _ (RA.out.below L2.out) (RB.out.below L2.out)).mono ?_
        rintro e w3 ⟨rfl, b3⟩
        have L3 := L2.out.trans (b3.mono L2.out.size)
        clear x0 x1 x2 y0 y1 y2 b3
        go_wp2
        go_ret
        exact ⟨rfl, L3⟩
      · obtain rfl : B = false := by
          cases B with
          | false => rfl
          | true => exact absurd (HB.out.1 rfl).2.2.1 nm
        have hnm : (n == m) = false := beq_eq_false_iff_ne.2 nm
        clear c0 d0 e0 e1 nm C D lz rz
        go_enter Try.func17, Try.ntmps17
        go_wp2_with fail
        rw [← HW.out]
        refine (C1.out).mono ?_
        rintro e w1 ⟨rfl, b1⟩
        have L1 := Lib.hid (LW.out.trans (b1.mono LW.out.size)); have I1 := Lib.hid (I0.out.next b1); have J1 := Lib.hid (J0.out.next b1)
        obtain ⟨x0, x1, x2⟩ := I1.out; obtain ⟨y0, y1, y2⟩ := J1.out
        clear b1 I0 J0 C1
        go_wp2_with fail
        refine (D1.out _ (RB.out.below L1.out)).mono ?_
        rintro e w2 ⟨rfl, b2⟩
        clear x0 x1 x2 y0 y1 y2
        have L2 := Lib.hid (L1.out.trans (b2.mono L1.out.size)); have I2 := Lib.hid (I1.out.next b2); have J2 := Lib.hid (J1.out.next b2)
        obtain ⟨x0, x1, x2⟩ := I2.out; obtain ⟨y0, y1, y2⟩ := J2.out
        clear b2 I1 J1 D1 L1
        go_wp2
        go_ret
        exact ⟨rfl, L2.out⟩
    · obtain rfl : B = false := by
        cases B with
        | false => rfl
        | true => exact absurd (HB.out.1 rfl).2.1 d0
      have e1 : (d == 0) = false := beq_eq_false_iff_ne.2 d0
      have D1 := Lib.hid (fun w h => D.out false w h e1)
      clear c0 d0 e0 e1 C D
      go_enter Try.func17, Try.ntmps17
      go_wp2_with fail
      rw [← HW.out]
      refine (C1.out).mono ?_
      rintro e w1 ⟨rfl, b1⟩
      have L1 := Lib.hid (LW.out.trans (b1.mono LW.out.size)); have J1 := Lib.hid (J0.out.next b1)
      obtain ⟨y0, y1, y2⟩ := J1.out
      clear b1 I0 J0 C1
      go_wp2_with fail
      refine (D1.out _ (RB.out.below L1.out)).mono ?_
      rintro e w2 ⟨rfl, b2⟩
      have L2 := L1.out.trans (b2.mono L1.out.size)
      clear y0 y1 y2 b2
      go_wp2
      go_ret
      exact ⟨rfl, L2⟩
  · obtain rfl : B = false := by
      cases B with
      | false => rfl
      | true => exact absurd (HB.out.1 rfl).1 c0
    have e0 : (c == 0) = false := beq_eq_false_iff_ne.2 c0
    have C1 := Lib.hid (C.out false e0)
    clear c0 e0 C D
    go_enter Try.func17, Try.ntmps17
    go_wp2_with fail
    rw [← HW.out]
    refine (C1.out).mono ?_
    rintro e w1 ⟨rfl, b1⟩
    have L1 := LW.out.trans (b1.mono LW.out.size)
    clear b1
    go_wp2
    go_ret
    exact ⟨rfl, L1⟩
/-- a world of the class that spec.SameImage keeps to -/
structure CB (W : World) (g h : Nat) (n m : Int) (p q : Option Addr) (a b ca cb : Nat) where
  u : World
  b0 : Below W.heap.size W u
  i : ImAt u g n p a ca
  j : ImAt u h m q b cb
theorem CB.calls {P : Program} {f : FuncId} {args : Array Value} {v : Value} {W : World} {g h : Nat} {n m : Int} {p q : Option Addr} {a b ca cb : Nat} (x : CB W g h n m p q a b ca cb) (hc : Calls P f args x.u fun e w' => e = .returned v ∧ Below x.u.heap.size x.u w') : Calls P f args x.u fun e w'' => e = .returned v ∧ ∃ y : CB W g h n m p q a b ca cb, w'' = y.u :=
  hc.mono fun e w' ⟨he, hb⟩ => ⟨he, ⟨w', x.b0.trans (hb.mono x.b0.size), x.i.next hb, x.j.next hb⟩, rfl⟩
set_option maxHeartbeats 2000000 in
theorem sameS (n m : Int) (p q : Option Addr) (ca cb : Nat) (l r : List Sg) (w : World) (hn : (Lit.int .i64 n).wf = true) (hm : (Lit.int .i64 m).wf = true) (hr : RdS w p l) (hq : RdS w q r) (hs : SmallS l) (ht : SmallS r) (hy : WfS l) (hz : WfS r) (k j : Nat) (c d : Int) (hc : Chk n l k c) (hd : Chk m r j d) (B : Bool) (hB : B = true ↔ c = 0 ∧ d = 0 ∧ n = m ∧ l = r) :
    Calls Try.prog 16 #[.agg #[.int .i64 n, .slice p l.length ca], .agg #[.int .i64 m, .slice q r.length cb]] w fun e w' => e = .returned (.bool B) ∧ Below w.heap.size w w' := by
  obtain ⟨W, hW⟩ : ∃ W, W = (w.alloc (.cells #[.int .i64 n, .slice p l.length ca] 32)).alloc (.cells #[.int .i64 m, .slice q r.length cb] 32) := ⟨_, rfl⟩
  have LW : Hid (Below w.heap.size w W) := Lib.hid (by rw [hW]; exact (belowA _ _).alloc (by simp) _)
  have I0 : Hid (ImAt W w.heap.size n p l.length ca) := Lib.hid (by rw [hW]; exact (ImAt.new _ _ _ _ _ _).next (belowA _ _))
  have J0 : Hid (ImAt W (w.heap.size + 1) m q r.length cb) := Lib.hid (by rw [hW]; have := ImAt.new (w.alloc (.cells #[.int .i64 n, .slice p l.length ca] 32)) m q r.length cb 32; simpa using this)
  have RA := Lib.hid (hr.below LW.out); have RB := Lib.hid (hq.below LW.out)
  have C := Lib.hid (fun (x : CB W w.heap.size (w.heap.size + 1) n m p q l.length r.length ca cb) => okS n p ca l x.u (RA.out.below x.b0) hs hy k c hc)
  have D := Lib.hid (fun (x : CB W w.heap.size (w.heap.size + 1) n m p q l.length r.length ca cb) => okS m q cb r x.u (RB.out.below x.b0) ht hz j d hd)
  have HC := Lib.hid hc; have HD := Lib.hid hd; have HB := Lib.hid hB; have HW := Lib.hid hW; have HS := Lib.hid hs; have HT := Lib.hid ht
  clear hr hq hs ht hc hd hB hW
  have hne : Nonempty (CB W w.heap.size (w.heap.size + 1) n m p q l.length r.length ca cb) := ⟨⟨W, Below.refl _ _, I0.out, J0.out⟩⟩
  have y0 : ∀ x : CB W w.heap.size (w.heap.size + 1) n m p q l.length r.length ca cb, x.u.cell? ⟨w.heap.size, 0, none⟩ = some (.int .i64 n) := fun x => x.i.2.1
  have y1 : ∀ x : CB W w.heap.size (w.heap.size + 1) n m p q l.length r.length ca cb, x.u.cell? ⟨w.heap.size, 1, none⟩ = some (.slice p l.length ca) := fun x => x.i.2.2
  have y2 : ∀ x : CB W w.heap.size (w.heap.size + 1) n m p q l.length r.length ca cb, x.u.cell? ⟨w.heap.size + 1, 0, none⟩ = some (.int .i64 m) := fun x => x.j.2.1
  have y3 : ∀ x : CB W w.heap.size (w.heap.size + 1) n m p q l.length r.length ca cb, x.u.cell? ⟨w.heap.size + 1, 1, none⟩ = some (.slice q r.length cb) := fun x => x.j.2.2
  by_cases c0 : c = 0
  · rw [show (c == 0) = true from beq_iff_eq.2 c0] at C
    by_cases d0 : d = 0
    · rw [show (d == 0) = true from beq_iff_eq.2 d0] at D
      have K1 := HC.out; have K2 := HD.out
      rw [c0] at K1; rw [d0] at K2
      have lz := (okB_all K1).1; have rz := (okB_all K2).1
      have E := Lib.hid (fun (x : CB W w.heap.size (w.heap.size + 1) n m p q l.length r.length ca cb) => textC n p ca l x.u lz (RA.out.below x.b0) HS.out)
      have F := Lib.hid (fun (x : CB W w.heap.size (w.heap.size + 1) n m p q l.length r.length ca cb) => textC m q cb r x.u rz (RB.out.below x.b0) HT.out)
      have hE : ((textT n l).toList == (textT m r).toList) = B := by
        rw [Bool.eq_iff_iff, byt_eq, text_inj K1 K2 hn hm, HB.out]
        simp [c0, d0]
      generalize textT n l = T at E hE
      generalize textT m r = U at F hE
      clear c0 d0 K1 K2 lz rz
      go_enter Try.func16, Try.ntmps16
      go_wp2_with fail
      rw [← HW.out]
      refine wp_region_quietC (C := fun w' => ∃ x : CB W w.heap.size (w.heap.size + 1) n m p q l.length r.length ca cb, w' = x.u) (by kernel_rfl) (by kernel_rfl) ⟨⟨W.drew, belowD W, I0.out.next (belowD W), J0.out.next (belowD W)⟩, rfl⟩ ?_
      repeat (quiet_step (first | (go_at_call 10; first | (with_reducible exact CB.calls _ (C.out _)) | (with_reducible exact CB.calls _ (D.out _))) | (go_at_call 27; first | (with_reducible exact CB.calls _ (E.out _)) | (with_reducible exact CB.calls _ (F.out _)))))
      refine wpQuiet_nil ?_
      rintro _ ⟨x, rfl⟩
      have B2 := LW.out.trans (x.b0.mono LW.out.size)
      clear y0 y1 y2 y3 hne
      go_wp2
      go_ret
      exact ⟨rfl, B2⟩
    · rw [show (d == 0) = false from beq_eq_false_iff_ne.2 d0] at D
      obtain rfl : B = false := by
        cases B with
        | false => rfl
        | true => exact absurd (HB.out.1 rfl).2.1 d0
      clear c0 d0
      go_enter Try.func16, Try.ntmps16
      go_wp2_with fail
      rw [← HW.out]
      refine wp_region_quietC (C := fun w' => ∃ x : CB W w.heap.size (w.heap.size + 1) n m p q l.length r.length ca cb, w' = x.u) (by kernel_rfl) (by kernel_rfl) ⟨⟨W.drew, belowD W, I0.out.next (belowD W), J0.out.next (belowD W)⟩, rfl⟩ ?_
      repeat (quiet_step (first | (go_at_call 10; first | (with_reducible exact CB.calls _ (C.out _)) | (with_reducible exact CB.calls _ (D.out _)))))
      refine wpQuiet_nil ?_
      rintro _ ⟨x, rfl⟩
      have B2 := LW.out.trans (x.b0.mono LW.out.size)
      clear y0 y1 y2 y3 hne
      go_wp2
      go_ret
      exact ⟨rfl, B2⟩
  · rw [show (c == 0) = false from beq_eq_false_iff_ne.2 c0] at C
    obtain rfl : B = false := by
      cases B with
      | false => rfl
      | true => exact absurd (HB.out.1 rfl).1 c0
    clear c0
    go_enter Try.func16, Try.ntmps16
    go_wp2_with fail
    rw [← HW.out]
    refine wp_region_quietC (C := fun w' => ∃ x : CB W w.heap.size (w.heap.size + 1) n m p q l.length r.length ca cb, w' = x.u) (by kernel_rfl) (by kernel_rfl) ⟨⟨W.drew, belowD W, I0.out.next (belowD W), J0.out.next (belowD W)⟩, rfl⟩ ?_
    repeat (quiet_step (first | (go_at_call 10; first | (with_reducible exact CB.calls _ (C.out _)))))
    refine wpQuiet_nil ?_
    rintro _ ⟨x, rfl⟩
    have B2 := LW.out.trans (x.b0.mono LW.out.size)
    clear y0 y1 y2 y3 hne
    go_wp2
    go_ret
    exact ⟨rfl, B2⟩
end Go.Proofs.Ytmoemhnmiabppaa
