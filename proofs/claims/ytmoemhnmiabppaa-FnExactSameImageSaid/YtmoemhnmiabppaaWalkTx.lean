/-
  What spec.l10Text answers: an image's text, in memory of its own; conditions: those in each head.
-/
import Derived.Test.YtmoemhnmiabppaaWalkHd
import Derived.Test.YtmoemhnmiabppaaWalkImJ
import Derived.Deep.QuietTactic
namespace Go.Proofs.Ytmoemhnmiabppaa
open Go.RowKit
set_option linter.unusedVariables false
set_option linter.unusedSimpArgs false
/-- the head of a segment whose bytes begin at 'at' -/
def segT (at_ : Int) (x : Sg) : ByteArray := ((((((litS 1 4 ++ litS x.f 4) ++ litS at_ 8) ++ litS x.v 8) ++ litS x.v 8) ++ litS (x.d.size : Int) 8) ++ litS x.m 8) ++ litS 256 8
theorem segT_size (a : Int) (x : Sg) : (segT a x).size = 56 := by simp only [segT, ByteArray.size_append, litS_size]
def segsT : List Sg → Int → ByteArray
  | [], _ => ⟨#[]⟩
  | x :: l, a => segT a x ++ segsT l (a + x.d.size)
/-- how many bytes the segments have -/
def dlen : List Sg → Int
  | [] => 0
  | x :: l => x.d.size + dlen l
def dataT : List Sg → ByteArray
  | [] => ⟨#[]⟩
  | x :: l => x.d ++ dataT l
theorem nil_app (b : ByteArray) : (⟨#[]⟩ : ByteArray) ++ b = b := by apply ByteArray.ext; simp
theorem app_nil (b : ByteArray) : b ++ (⟨#[]⟩ : ByteArray) = b := by apply ByteArray.ext; simp
theorem dlen_snoc (l : List Sg) (x : Sg) : dlen (l ++ [x]) = dlen l + x.d.size := by
  induction l with
  | nil => simp [dlen]
  | cons y l ih => simp only [List.cons_append, dlen, ih]; omega
theorem segsT_snoc (l : List Sg) (x : Sg) (a : Int) : segsT (l ++ [x]) a = segsT l a ++ segT (a + dlen l) x := by
  induction l generalizing a with
  | nil => simp only [List.nil_append, segsT, dlen, nil_app, app_nil, Int.add_zero]
  | cons y l ih => simp only [List.cons_append, segsT, dlen, ih, ByteArray.append_assoc]; rw [show a + y.d.size + dlen l = a + (y.d.size + dlen l) by omega]
theorem dataT_snoc (l : List Sg) (x : Sg) : dataT (l ++ [x]) = dataT l ++ x.d := by
  induction l with
  | nil => simp only [List.nil_append, dataT, nil_app, app_nil]
  | cons y l ih => simp only [List.cons_append, dataT, ih, ByteArray.append_assoc]
theorem segsT_size (l : List Sg) (a : Int) : (segsT l a).size = 56 * l.length := by
  induction l generalizing a with
  | nil => rfl
  | cons y l ih => simp only [segsT, ByteArray.size_append, segT_size, ih, List.length_cons]; omega
theorem dataT_size (l : List Sg) : ((dataT l).size : Int) = dlen l := by
  induction l with
  | nil => rfl
  | cons y l ih => simp only [dataT, ByteArray.size_append, dlen]; omega
/-- an image's text -/
def textT (n : Int) (l : List Sg) : ByteArray := (headT n l.length ++ segsT l (64 + 56 * l.length)) ++ dataT l
theorem dlen_hi {l : List Sg} (h : SmallS l) (k : Nat) (hk : k ≤ l.length) : 0 ≤ dlen (l.take k) ∧ dlen (l.take k) ≤ 1048576 * k := by
  induction k with
  | zero => simp [dlen]
  | succ k ih =>
    have hx : l[k]? = some (l[k]'(by omega)) := List.getElem?_eq_getElem (by omega)
    have i := ih (by omega)
    have s := h.2 k _ hx
    rw [take_snoc hx, dlen_snoc]
    omega
/-- a world of the class that the region of a segment's head keeps to -/
structure CS (W : World) (g : Nat) (x : Sg) where
  u : World
  b : Below W.heap.size W u
  s : SgAt u g x
theorem CS.calls {P : Program} {f : FuncId} {args : Array Value} {v : Value} {W : World} {g : Nat} {x : Sg} (p : CS W g x) (h : Calls P f args p.u fun e w' => e = .returned v ∧ Below p.u.heap.size p.u w') : Calls P f args p.u fun e w'' => e = .returned v ∧ ∃ q : CS W g x, w'' = q.u :=
  h.mono fun e w' ⟨he, hb⟩ => ⟨he, ⟨w', p.b.trans (hb.mono p.b.size), p.s.next hb⟩, rfl⟩
theorem lit4 (v : Int) (w : World) : Calls Try.prog 45 #[.int .i64 v, .int .i64 4] w fun e w' => e = .returned (.string (litS v 4)) ∧ Below w.heap.size w w' := litC v 4 w (by decide)
theorem lit8 (v : Int) (w : World) : Calls Try.prog 45 #[.int .i64 v, .int .i64 8] w fun e w' => e = .returned (.string (litS v 8)) ∧ Below w.heap.size w w' := litC v 8 w (by decide)
theorem wp_region_quietC {P : Program} {C : World → Prop} {id : Nat} {Q : Exit → Act → World → Prop} {a : Act} {w : World} {l : List Oper} (hm : P.follows .mixedOrders = true) (hB : Region.lexB .any l.toArray = true) (hC : C { w with drawn := w.drawn + 1 })
    (h : wpQuiet P l.toArray C (fun a' => ∀ w', C w' → Q .normal a' w') l a) : (Code.region id l.toArray true).wp P Q a w :=
  wp_region_quiet hm hB hC (by simpa using h)
set_option maxRecDepth 100000 in
set_option maxHeartbeats 4000000 in
theorem textC (n : Int) (p : Option Addr) (cap : Nat) (l : List Sg) (w : World) (h4 : l.length ≤ 4) (hr : RdS w p l) (hs : SmallS l) :
    Calls Try.prog 27 #[.agg #[.int .i64 n, .slice p l.length cap]] w fun e w' => e = .returned (.string (textT n l)) ∧ Below w.heap.size w w' := by
  have HR := Lib.hid hr; have HS := Lib.hid hs
  have B0 := Lib.hid (belowA w (.cells #[.int .i64 n, .slice p l.length cap] 32))
  have I0 := Lib.hid (ImAt.new w n p l.length cap 32)
  clear hr hs
  go_enter Try.func27, Try.ntmps27
  go_wp2_with fail
  refine (headC n (l.length : Int) _).mono ?_
  rintro e w1 ⟨rfl, b1⟩
  have I1 := Lib.hid (I0.out.next b1)
  have L1 := Lib.hid (B0.out.trans (b1.mono B0.out.size))
  have i1 := I1.out.2.2; have i0 := I1.out.1
  clear b1 I0 B0
  obtain ⟨H, hH⟩ : ∃ H, H = headT n (l.length : Int) := ⟨_, rfl⟩
  have hHs : H.size = 64 := by rw [hH]; exact headT_size _ _
  have HH := Lib.hid hH
  rw [← hH]
  clear hH
  go_wp2
  go_loopw [3, 4, 5] (fun t at_ i wr => ∃ (k : Nat) (T : ByteArray) (A : Int), k ≤ l.length ∧ i = .int .i64 k ∧ t = .string T ∧ at_ = .int .i64 A ∧ Hid (T = H ++ segsT (l.take k) (64 + 56 * l.length)) ∧ Hid (A = 64 + 56 * l.length + dlen (l.take k)) ∧ Hid (ImAt wr w.heap.size n p l.length cap) ∧ Hid (Below w.heap.size w wr)) (fun _ _ i _ => l.length - (intOf i).toNat)
  case atStart => exact ⟨0, _, _, Nat.zero_le _, rfl, rfl, rfl, Lib.hid (by simp only [List.take_zero, segsT, app_nil]), Lib.hid (by simp only [List.take_zero, dlen]; omega), I1, L1⟩
  case round =>
    obtain ⟨k, T, A, hk, rfl, rfl, rfl, HT, HA, HI, HB⟩ := hrel
    clear i1 i0
    have i1 := HI.out.2.2; have i0 := HI.out.1
    have hTs : T.size = 64 + 56 * k := by rw [HT.out]; simp only [ByteArray.size_append, segsT_size, hHs, List.length_take]; omega
    have hA := dlen_hi HS.out k hk
    have hA1 : 64 ≤ A ∧ A ≤ 4195000 := by have := HA.out; omega
    by_cases hlt : k < l.length
    · obtain ⟨x, hx⟩ : ∃ x, l[k]? = some x := ⟨_, List.getElem?_eq_getElem hlt⟩
      obtain ⟨b, off, rfl, h0, q0, q1, q2, q3⟩ := HR.out k x hx
      have hb := HB.out
      have g0 := (hb.cell (p := ⟨b, off + k * 4, none⟩) h0).trans q0
      have g1 := (hb.cell (p := ⟨b, off + k * 4 + 1, none⟩) h0).trans q1
      have g2 := (hb.cell (p := ⟨b, off + k * 4 + 2, none⟩) h0).trans q2
      have g3 := (hb.cell (p := ⟨b, off + k * 4 + 3, none⟩) h0).trans q3
      have hxd := HS.out.2 k x hx
      have HX := Lib.hid hx
      obtain ⟨W, hW⟩ : ∃ W, W = wr.alloc (.cells #[.int .i64 x.f, .int .i64 x.v, .int .i64 x.m, .string x.d] 51) := ⟨_, rfl⟩
      have LW : Hid (Below w.heap.size w W) := Lib.hid (by rw [hW]; exact hb.alloc hb.size _)
      have IW : Hid (ImAt W w.heap.size n (some ⟨b, off, none⟩) l.length cap) := Lib.hid (by rw [hW]; exact HI.out.next (belowA _ _))
      have SW : Hid (SgAt W wr.heap.size x) := Lib.hid (by rw [hW]; exact sgAlloc _ _ _)
      have HW := Lib.hid hW
      clear hx q0 q1 q2 q3 h0 hW hb
      go_upto_region 7 with fail
      clear g0 g1 g2 g3 i1 i0
      rw [← HW.out]
      clear HW HI HB
      have hne : Nonempty (CS W wr.heap.size x) := ⟨⟨W, Below.refl _ _, SW.out⟩⟩
      have y0 : ∀ q : CS W wr.heap.size x, q.u.cell? ⟨wr.heap.size, 0, none⟩ = some (.int .i64 x.f) := fun q => q.s.2.1
      have y1 : ∀ q : CS W wr.heap.size x, q.u.cell? ⟨wr.heap.size, 1, none⟩ = some (.int .i64 x.v) := fun q => q.s.2.2.1
      have y2 : ∀ q : CS W wr.heap.size x, q.u.cell? ⟨wr.heap.size, 2, none⟩ = some (.int .i64 x.m) := fun q => q.s.2.2.2.1
      have y3 : ∀ q : CS W wr.heap.size x, q.u.cell? ⟨wr.heap.size, 3, none⟩ = some (.string x.d) := fun q => q.s.2.2.2.2
      have c1 := Lib.hid (lit4 1); have c2 := Lib.hid (lit4 x.f); have c3 := Lib.hid (lit8 A); have c4 := Lib.hid (lit8 x.v); have c5 := Lib.hid (lit8 (x.d.size : Int)); have c6 := Lib.hid (lit8 x.m); have c7 := Lib.hid (lit8 256)
      have z1 := litS_size 1 4; have z2 := litS_size x.f 4; have z3 := litS_size A 8; have z4 := litS_size x.v 8; have z5 := litS_size (x.d.size : Int) 8; have z6' := litS_size x.m 8; have z7 := litS_size 256 8
      have hbT : ¬ 9223372036854775807 < T.size + 56 := by omega
      have HTs := Lib.hid hTs
      have hbT2 : ¬ 9223372036854775807 < T.size + (4 + 4 + 8 + 8 + 8 + 8 + 8 + 8) := by omega
      clear hTs
      refine wp_region_quietC (C := fun w' => ∃ q : CS W wr.heap.size x, w' = q.u) (by kernel_rfl) (by kernel_rfl) ⟨⟨W.drew, belowD W, SW.out.next (belowD W)⟩, rfl⟩ ?_
      repeat (quiet_step (first | (go_at_call 45; first | (with_reducible exact CS.calls _ (c1.out _)) | (with_reducible exact CS.calls _ (c2.out _)) | (with_reducible exact CS.calls _ (c3.out _)) | (with_reducible exact CS.calls _ (c4.out _)) | (with_reducible exact CS.calls _ (c5.out _)) | (with_reducible exact CS.calls _ (c6.out _)) | (with_reducible exact CS.calls _ (c7.out _)))))
      refine wpQuiet_nil ?_
      rintro _ ⟨q, rfl⟩
      have B2 := Lib.hid (LW.out.trans (q.b.mono LW.out.size))
      have I2 := Lib.hid (IW.out.next q.b)
      have y3' := y3 q
      clear y0 y1 y2 y3 c1 c2 c3 c4 c5 c6 c7 z1 z2 z3 z4 z5 z6' z7 hbT hbT2 hne IW LW SW
      have hxd' : (x.d.size : Int) ≤ 1048576 := by omega
      go_wp2
      go_roundw
      case rel =>
        refine ⟨k + 1, _, _, by omega, by go_num, rfl, rfl, Lib.hid ?_, Lib.hid ?_, I2, B2⟩
        · rw [take_snoc HX.out, segsT_snoc, ← HA.out]
          have e := HT.out
          generalize segsT (l.take k) (64 + 56 * l.length) = Z at e ⊢
          rw [e]
          simp only [segT, ByteArray.append_assoc]
        · rw [take_snoc HX.out, dlen_snoc, HA.out]; omega
      case measure => simp [intOf]; omega
    · obtain rfl : k = l.length := by omega
      have HTs := Lib.hid hTs
      have HT' : Hid (T = H ++ segsT l (64 + 56 * l.length)) := by rw [List.take_length] at HT; exact HT
      have hz : T.size ≤ 1000 := by omega
      have I2 := HI; have B2 := HB
      clear hTs hA hA1 HT HA HI HB
      go_wp2
      go_loopw [3, 7] (fun t i wr => ∃ (j : Nat) (U : ByteArray), j ≤ l.length ∧ i = .int .i64 j ∧ t = .string U ∧ Hid (U = T ++ dataT (l.take j)) ∧ Hid (ImAt wr w.heap.size n p l.length cap) ∧ Hid (Below w.heap.size w wr)) (fun _ i _ => l.length - (intOf i).toNat)
      case atStart => exact ⟨0, _, Nat.zero_le _, rfl, rfl, Lib.hid (by simp only [List.take_zero, dataT, app_nil]), I2, B2⟩
      case round =>
        obtain ⟨j, U, hj, rfl, rfl, HU, HI, HB⟩ := hrel
        clear i1 i0
        have i1 := HI.out.2.2; have i0 := HI.out.1
        have hUs : U.size ≤ 4200000 := by
          rw [HU.out]
          have h1 := dlen_hi HS.out j hj
          have h2 := dataT_size (l.take j)
          simp only [ByteArray.size_append]
          omega
        by_cases hlt : j < l.length
        · obtain ⟨x, hx⟩ : ∃ x, l[j]? = some x := ⟨_, List.getElem?_eq_getElem hlt⟩
          obtain ⟨b, off, rfl, h0, q0, q1, q2, q3⟩ := HR.out j x hx
          have g3 := (HB.out.cell (p := ⟨b, off + j * 4 + 3, none⟩) h0).trans q3
          have hxd := HS.out.2 j x hx
          have hbU : ¬ 9223372036854775807 < U.size + x.d.size := by omega
          have HX := Lib.hid hx
          clear hx q0 q1 q2 q3 h0
          go_wp2
          go_roundw
          case rel =>
            refine ⟨j + 1, _, by omega, by go_num, rfl, Lib.hid ?_, HI, HB⟩
            rw [take_snoc HX.out, dataT_snoc, ← ByteArray.append_assoc, ← HU.out]
          case measure => simp [intOf]; omega
        · obtain rfl : j = l.length := by omega
          have hfin : textT n l = U := by
            have := HU.out
            rw [List.take_length] at this
            rw [this, HT'.out, HH.out]; rfl
          have HF := Lib.hid hfin
          clear hfin
          go_wp2
          go_ret
          exact ⟨by rw [HF.out]; rfl, HB.out⟩
end Go.Proofs.Ytmoemhnmiabppaa
