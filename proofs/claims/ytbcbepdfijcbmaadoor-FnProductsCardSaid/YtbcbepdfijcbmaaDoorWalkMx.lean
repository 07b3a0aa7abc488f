/-
  Multiply: both answer alike; conditions: those in each head.
-/
import Derived.Test.YtbcbepdfijcbmaaDoorMathMu
namespace Go.Proofs.YtbcbepdfijcbmaaDoor
open Go.RowKit
set_option linter.unusedVariables false
theorem zeroW (h x y : Int) : wrap64 (wrap64 (wrap64 h + wrap64 (0 * y)) + wrap64 (x * 0)) = wrap64 h := by
  rw [Int.zero_mul, Int.mul_zero]; unfold wrap64; omega
theorem uns_lt {X K : Nat} {x : Int} (hK : 0 < K) (h64 : K ≤ 18446744073709551616) (hx : x = wrap64 ((X % K : Nat) : Int)) : IntKind.u64.wrap x = ((X % K : Nat) : Int) := by
  have := Nat.mod_lt X hK
  rw [hx]; exact u64_w64 (by omega)
theorem prod_lt {A B K : Nat} (ha : A < K) (hb : B < K) : (0 : Int) ≤ (A : Int) * (B : Int) ∧ (A : Int) * (B : Int) < ((K * K : Nat) : Int) := by
  rw [← Int.natCast_mul]
  refine ⟨by omega, ?_⟩
  have := Nat.mul_lt_mul'' ha hb
  omega
theorem prodS_le {x y H : Int} (hx : -H ≤ x ∧ x ≤ H) (hy : -H ≤ y ∧ y ≤ H) : -(H * H) ≤ x * y ∧ x * y ≤ H * H := by
  have h0 : 0 ≤ H := by omega
  have e : ((x * y).natAbs : Int) ≤ H * H := by
    rw [Int.natAbs_mul, Int.natCast_mul]
    exact Int.mul_le_mul (by omega) (by omega) (by omega) h0
  omega
theorem mulB13_1 (a b : Int) (c p zf sf o : Bool) : ∃ lo hi g, (∀ w, Calls Tryd.prog 26 #[.int .i64 13, .int .i64 1, .int .i64 a, .int .i64 b, .int .i64 (flV c p zf sf o)] w fun e w' => e = .returned (.tuple #[.int .i64 lo, .int .i64 hi, .int .i64 g, .int .i64 0]) ∧ Below w.heap.size w w') ∧
    (∀ w, Calls Tryd.prog 27 #[.int .i64 13, .int .i64 1, .int .i64 a, .int .i64 b, .int .i64 (flV c p zf sf o)] w fun e w' => e = .returned (.tuple #[.int .i64 lo, .int .i64 hi, .int .i64 g, .int .i64 0]) ∧ w = w') := by
  obtain ⟨X, hX⟩ := natU a
  obtain ⟨Y, hY⟩ := natU b
  have hn : okSize (1 : Int) := by unfold okSize; omega
  have un (v : Int) (V : Nat) (hV : IntKind.u64.wrap v = (V : Int)) (w : World) : Calls Tryd.prog 46 #[.int .i64 v, .int .i64 1] w fun e w' => e = .returned (.tuple #[.int .i64 (wrap64 ((V % 2 ^ (8 * 1) : Nat) : Int)), .nilIface]) ∧ w = w' := by
    rw [eqZ1 hV]; exact unsigned1 v w
  have zr (v : Int) (V : Nat) (hV : IntKind.u64.wrap v = (V : Int)) (w : World) := specZeroL v V 1 w hV (by decide) (by decide)
  obtain ⟨xa, hxa⟩ : ∃ xa : Int, xa = wrap64 ((X % 2 ^ (8 * 1) : Nat) : Int) := ⟨_, rfl⟩
  obtain ⟨xb, hxb⟩ : ∃ xb : Int, xb = wrap64 ((Y % 2 ^ (8 * 1) : Nat) : Int) := ⟨_, rfl⟩
  obtain ⟨h, hh⟩ : ∃ h : Int, h = hiW (IntKind.u64.wrap xa) (IntKind.u64.wrap xb) := ⟨_, rfl⟩
  obtain ⟨l, hl⟩ : ∃ l : Int, l = loW (IntKind.u64.wrap xa) (IntKind.u64.wrap xb) := ⟨_, rfl⟩
  have lw : mulLo xa xb = wrap64 l := by unfold mulLo; rw [hl]
  have hw : mulHi xa xb = wrap64 h := by unfold mulHi; rw [hh]
  have wA := widUx a 1 xa (fun w => by rw [hxa]; exact un a X hX w)
  have wB := widUx b 1 xb (fun w => by rw [hxb]; exact un b Y hY w)
  have wT := timesX 0 xa 0 xb _ _ (implMulWide xa xb)
  rw [hw, zeroW, lw] at wT
  have pr := fun w => specProdU xa xb w
  rw [← hh, ← hl] at pr
  have l0 : 0 ≤ l ∧ l < 18446744073709551616 := by rw [hl]; unfold loW; omega
  obtain ⟨XL, eL⟩ := natU (wrap64 l)
  have wL := widUx (wrap64 l) 1 _ (un (wrap64 l) XL eL)
  obtain ⟨X2, e2⟩ := natU (wrap64 l / 256)
  obtain ⟨X3, e3⟩ := natU (wrap64 (l / 256))
  have wU := widUx (wrap64 l / 256) 1 _ (un (wrap64 l / 256) X2 e2)
  rw [hi1 l0.1 l0.2 e2 e3] at wU
  have wH := halvesX1 (wrap64 h) (wrap64 l) _ _ _ _ wL wU
  have wF := fitsX (wrap64 h) (wrap64 l) 1 _ _ false wL
  have hm : (wrap64 ((X3 % 2 ^ (8 * 1) : Nat) : Int) != 0) = !(wrap64 h == 0 && wrap64 l == wrap64 ((XL % 2 ^ (8 * 1) : Nat) : Int)) := by
    have ux := uns_lt (K := 256) (by decide) (by decide) (show xa = wrap64 ((X % 256 : Nat) : Int) from hxa)
    have uy := uns_lt (K := 256) (by decide) (by decide) (show xb = wrap64 ((Y % 256 : Nat) : Int) from hxb)
    have pb := prod_lt (Nat.mod_lt X (show 0 < 256 by decide)) (Nat.mod_lt Y (show 0 < 256 by decide))
    unfold hiW at hh; unfold loW at hl
    rw [ux, uy] at hh hl
    rw [hl] at e3 eL
    rw [hh, hl]
    exact moreU1 pb.1 (by have := pb.2; omega) e3 eL
  have sp := mulS13_1 a b (flV c p zf sf o) xa xb 0 0 h l _ _ 0 0 _ hm (fun w => by rw [hxa]; exact zr a X hX w) (fun w => by rw [hxb]; exact zr b Y hY w) pr (zr _ XL eL) (zr _ X3 e3)
  have im := mulI13 1 a b (flV c p zf sf o) _ _ _ _ _ _ _ _ _ hn (flagsYesI c p zf sf o) wA wB wT wH wF
  rw [wCar_eq] at im
  rw [keep_both] at sp
  exact ⟨_, _, _, im, MulSYes 13 1 a b _ _ _ c p zf sf o (by omega) hn (Lib.hid sp)⟩
theorem mulB13_2 (a b : Int) (c p zf sf o : Bool) : ∃ lo hi g, (∀ w, Calls Tryd.prog 26 #[.int .i64 13, .int .i64 2, .int .i64 a, .int .i64 b, .int .i64 (flV c p zf sf o)] w fun e w' => e = .returned (.tuple #[.int .i64 lo, .int .i64 hi, .int .i64 g, .int .i64 0]) ∧ Below w.heap.size w w') ∧
    (∀ w, Calls Tryd.prog 27 #[.int .i64 13, .int .i64 2, .int .i64 a, .int .i64 b, .int .i64 (flV c p zf sf o)] w fun e w' => e = .returned (.tuple #[.int .i64 lo, .int .i64 hi, .int .i64 g, .int .i64 0]) ∧ w = w') := by
  obtain ⟨X, hX⟩ := natU a
  obtain ⟨Y, hY⟩ := natU b
  have hn : okSize (2 : Int) := by unfold okSize; omega
  have un (v : Int) (V : Nat) (hV : IntKind.u64.wrap v = (V : Int)) (w : World) : Calls Tryd.prog 46 #[.int .i64 v, .int .i64 2] w fun e w' => e = .returned (.tuple #[.int .i64 (wrap64 ((V % 2 ^ (8 * 2) : Nat) : Int)), .nilIface]) ∧ w = w' := by
    rw [eqZ2 hV]; exact unsigned2 v w
  have zr (v : Int) (V : Nat) (hV : IntKind.u64.wrap v = (V : Int)) (w : World) := specZeroL v V 2 w hV (by decide) (by decide)
  obtain ⟨xa, hxa⟩ : ∃ xa : Int, xa = wrap64 ((X % 2 ^ (8 * 2) : Nat) : Int) := ⟨_, rfl⟩
  obtain ⟨xb, hxb⟩ : ∃ xb : Int, xb = wrap64 ((Y % 2 ^ (8 * 2) : Nat) : Int) := ⟨_, rfl⟩
  obtain ⟨h, hh⟩ : ∃ h : Int, h = hiW (IntKind.u64.wrap xa) (IntKind.u64.wrap xb) := ⟨_, rfl⟩
  obtain ⟨l, hl⟩ : ∃ l : Int, l = loW (IntKind.u64.wrap xa) (IntKind.u64.wrap xb) := ⟨_, rfl⟩
  have lw : mulLo xa xb = wrap64 l := by unfold mulLo; rw [hl]
  have hw : mulHi xa xb = wrap64 h := by unfold mulHi; rw [hh]
  have wA := widUx a 2 xa (fun w => by rw [hxa]; exact un a X hX w)
  have wB := widUx b 2 xb (fun w => by rw [hxb]; exact un b Y hY w)
  have wT := timesX 0 xa 0 xb _ _ (implMulWide xa xb)
  rw [hw, zeroW, lw] at wT
  have pr := fun w => specProdU xa xb w
  rw [← hh, ← hl] at pr
  have l0 : 0 ≤ l ∧ l < 18446744073709551616 := by rw [hl]; unfold loW; omega
  obtain ⟨XL, eL⟩ := natU (wrap64 l)
  have wL := widUx (wrap64 l) 2 _ (un (wrap64 l) XL eL)
  obtain ⟨X2, e2⟩ := natU (wrap64 l / 65536)
  obtain ⟨X3, e3⟩ := natU (wrap64 (l / 65536))
  have wU := widUx (wrap64 l / 65536) 2 _ (un (wrap64 l / 65536) X2 e2)
  rw [hi2 l0.1 l0.2 e2 e3] at wU
  have wH := halvesX2 (wrap64 h) (wrap64 l) _ _ _ _ wL wU
  have wF := fitsX (wrap64 h) (wrap64 l) 2 _ _ false wL
  have hm : (wrap64 ((X3 % 2 ^ (8 * 2) : Nat) : Int) != 0) = !(wrap64 h == 0 && wrap64 l == wrap64 ((XL % 2 ^ (8 * 2) : Nat) : Int)) := by
    have ux := uns_lt (K := 65536) (by decide) (by decide) (show xa = wrap64 ((X % 65536 : Nat) : Int) from hxa)
    have uy := uns_lt (K := 65536) (by decide) (by decide) (show xb = wrap64 ((Y % 65536 : Nat) : Int) from hxb)
    have pb := prod_lt (Nat.mod_lt X (show 0 < 65536 by decide)) (Nat.mod_lt Y (show 0 < 65536 by decide))
    unfold hiW at hh; unfold loW at hl
    rw [ux, uy] at hh hl
    rw [hl] at e3 eL
    rw [hh, hl]
    exact moreU2 pb.1 (by have := pb.2; omega) e3 eL
  have sp := mulS13_2 a b (flV c p zf sf o) xa xb 0 0 h l _ _ 0 0 _ hm (fun w => by rw [hxa]; exact zr a X hX w) (fun w => by rw [hxb]; exact zr b Y hY w) pr (zr _ XL eL) (zr _ X3 e3)
  have im := mulI13 2 a b (flV c p zf sf o) _ _ _ _ _ _ _ _ _ hn (flagsYesI c p zf sf o) wA wB wT wH wF
  rw [wCar_eq] at im
  rw [keep_both] at sp
  exact ⟨_, _, _, im, MulSYes 13 2 a b _ _ _ c p zf sf o (by omega) hn (Lib.hid sp)⟩
theorem mulB13_4 (a b : Int) (c p zf sf o : Bool) : ∃ lo hi g, (∀ w, Calls Tryd.prog 26 #[.int .i64 13, .int .i64 4, .int .i64 a, .int .i64 b, .int .i64 (flV c p zf sf o)] w fun e w' => e = .returned (.tuple #[.int .i64 lo, .int .i64 hi, .int .i64 g, .int .i64 0]) ∧ Below w.heap.size w w') ∧
    (∀ w, Calls Tryd.prog 27 #[.int .i64 13, .int .i64 4, .int .i64 a, .int .i64 b, .int .i64 (flV c p zf sf o)] w fun e w' => e = .returned (.tuple #[.int .i64 lo, .int .i64 hi, .int .i64 g, .int .i64 0]) ∧ w = w') := by
  obtain ⟨X, hX⟩ := natU a
  obtain ⟨Y, hY⟩ := natU b
  have hn : okSize (4 : Int) := by unfold okSize; omega
  have un (v : Int) (V : Nat) (hV : IntKind.u64.wrap v = (V : Int)) (w : World) : Calls Tryd.prog 46 #[.int .i64 v, .int .i64 4] w fun e w' => e = .returned (.tuple #[.int .i64 (wrap64 ((V % 2 ^ (8 * 4) : Nat) : Int)), .nilIface]) ∧ w = w' := by
    rw [eqZ4 hV]; exact unsigned4 v w
  have zr (v : Int) (V : Nat) (hV : IntKind.u64.wrap v = (V : Int)) (w : World) := specZeroL v V 4 w hV (by decide) (by decide)
  obtain ⟨xa, hxa⟩ : ∃ xa : Int, xa = wrap64 ((X % 2 ^ (8 * 4) : Nat) : Int) := ⟨_, rfl⟩
  obtain ⟨xb, hxb⟩ : ∃ xb : Int, xb = wrap64 ((Y % 2 ^ (8 * 4) : Nat) : Int) := ⟨_, rfl⟩
  obtain ⟨h, hh⟩ : ∃ h : Int, h = hiW (IntKind.u64.wrap xa) (IntKind.u64.wrap xb) := ⟨_, rfl⟩
  obtain ⟨l, hl⟩ : ∃ l : Int, l = loW (IntKind.u64.wrap xa) (IntKind.u64.wrap xb) := ⟨_, rfl⟩
  have lw : mulLo xa xb = wrap64 l := by unfold mulLo; rw [hl]
  have hw : mulHi xa xb = wrap64 h := by unfold mulHi; rw [hh]
  have wA := widUx a 4 xa (fun w => by rw [hxa]; exact un a X hX w)
  have wB := widUx b 4 xb (fun w => by rw [hxb]; exact un b Y hY w)
  have wT := timesX 0 xa 0 xb _ _ (implMulWide xa xb)
  rw [hw, zeroW, lw] at wT
  have pr := fun w => specProdU xa xb w
  rw [← hh, ← hl] at pr
  have l0 : 0 ≤ l ∧ l < 18446744073709551616 := by rw [hl]; unfold loW; omega
  obtain ⟨XL, eL⟩ := natU (wrap64 l)
  have wL := widUx (wrap64 l) 4 _ (un (wrap64 l) XL eL)
  obtain ⟨X2, e2⟩ := natU (wrap64 l / 4294967296)
  obtain ⟨X3, e3⟩ := natU (wrap64 (l / 4294967296))
  have wU := widUx (wrap64 l / 4294967296) 4 _ (un (wrap64 l / 4294967296) X2 e2)
  rw [hi4 l0.1 l0.2 e2 e3] at wU
  have wH := halvesX4 (wrap64 h) (wrap64 l) _ _ _ _ wL wU
  have wF := fitsX (wrap64 h) (wrap64 l) 4 _ _ false wL
  have hm : (wrap64 ((X3 % 2 ^ (8 * 4) : Nat) : Int) != 0) = !(wrap64 h == 0 && wrap64 l == wrap64 ((XL % 2 ^ (8 * 4) : Nat) : Int)) := by
    have ux := uns_lt (K := 4294967296) (by decide) (by decide) (show xa = wrap64 ((X % 4294967296 : Nat) : Int) from hxa)
    have uy := uns_lt (K := 4294967296) (by decide) (by decide) (show xb = wrap64 ((Y % 4294967296 : Nat) : Int) from hxb)
    have pb := prod_lt (Nat.mod_lt X (show 0 < 4294967296 by decide)) (Nat.mod_lt Y (show 0 < 4294967296 by decide))
    unfold hiW at hh; unfold loW at hl
    rw [ux, uy] at hh hl
    rw [hl] at e3 eL
    rw [hh, hl]
    exact moreU4 pb.1 (by have := pb.2; omega) e3 eL
  have sp := mulS13_4 a b (flV c p zf sf o) xa xb 0 0 h l _ _ 0 0 _ hm (fun w => by rw [hxa]; exact zr a X hX w) (fun w => by rw [hxb]; exact zr b Y hY w) pr (zr _ XL eL) (zr _ X3 e3)
  have im := mulI13 4 a b (flV c p zf sf o) _ _ _ _ _ _ _ _ _ hn (flagsYesI c p zf sf o) wA wB wT wH wF
  rw [wCar_eq] at im
  rw [keep_both] at sp
  exact ⟨_, _, _, im, MulSYes 13 4 a b _ _ _ c p zf sf o (by omega) hn (Lib.hid sp)⟩
theorem mulB13_8 (a b : Int) (c p zf sf o : Bool) : ∃ lo hi g, (∀ w, Calls Tryd.prog 26 #[.int .i64 13, .int .i64 8, .int .i64 a, .int .i64 b, .int .i64 (flV c p zf sf o)] w fun e w' => e = .returned (.tuple #[.int .i64 lo, .int .i64 hi, .int .i64 g, .int .i64 0]) ∧ Below w.heap.size w w') ∧
    (∀ w, Calls Tryd.prog 27 #[.int .i64 13, .int .i64 8, .int .i64 a, .int .i64 b, .int .i64 (flV c p zf sf o)] w fun e w' => e = .returned (.tuple #[.int .i64 lo, .int .i64 hi, .int .i64 g, .int .i64 0]) ∧ w = w') := by
  obtain ⟨X, hX⟩ := natU a
  obtain ⟨Y, hY⟩ := natU b
  have hn : okSize (8 : Int) := by unfold okSize; omega
  have un (v : Int) (V : Nat) (hV : IntKind.u64.wrap v = (V : Int)) (w : World) : Calls Tryd.prog 46 #[.int .i64 v, .int .i64 8] w fun e w' => e = .returned (.tuple #[.int .i64 (wrap64 ((V % 2 ^ (8 * 8) : Nat) : Int)), .nilIface]) ∧ w = w' := by
    rw [eqZ8 hV]; exact unsigned8 v w
  have zr (v : Int) (V : Nat) (hV : IntKind.u64.wrap v = (V : Int)) (w : World) := specZeroL v V 8 w hV (by decide) (by decide)
  obtain ⟨xa, hxa⟩ : ∃ xa : Int, xa = wrap64 ((X % 2 ^ (8 * 8) : Nat) : Int) := ⟨_, rfl⟩
  obtain ⟨xb, hxb⟩ : ∃ xb : Int, xb = wrap64 ((Y % 2 ^ (8 * 8) : Nat) : Int) := ⟨_, rfl⟩
  obtain ⟨h, hh⟩ : ∃ h : Int, h = hiW (IntKind.u64.wrap xa) (IntKind.u64.wrap xb) := ⟨_, rfl⟩
  obtain ⟨l, hl⟩ : ∃ l : Int, l = loW (IntKind.u64.wrap xa) (IntKind.u64.wrap xb) := ⟨_, rfl⟩
  have lw : mulLo xa xb = wrap64 l := by unfold mulLo; rw [hl]
  have hw : mulHi xa xb = wrap64 h := by unfold mulHi; rw [hh]
  have wA := widUx a 8 xa (fun w => by rw [hxa]; exact un a X hX w)
  have wB := widUx b 8 xb (fun w => by rw [hxb]; exact un b Y hY w)
  have wT := timesX 0 xa 0 xb _ _ (implMulWide xa xb)
  rw [hw, zeroW, lw] at wT
  have pr := fun w => specProdU xa xb w
  rw [← hh, ← hl] at pr
  have l0 : 0 ≤ l ∧ l < 18446744073709551616 := by rw [hl]; unfold loW; omega
  obtain ⟨XL, eL⟩ := natU (wrap64 l)
  have wL := widUx (wrap64 l) 8 _ (un (wrap64 l) XL eL)
  obtain ⟨X2, e2⟩ := natU (wrap64 h)
  have wU := widUx (wrap64 h) 8 _ (un (wrap64 h) X2 e2)
  rw [hi8 e2] at wU
  have wH := halvesX8 (wrap64 h) (wrap64 l) _ _ _ _ wL wU
  have wF := fitsX (wrap64 h) (wrap64 l) 8 _ _ false wL
  have hm : (wrap64 h != 0) = !(wrap64 h == 0 && wrap64 l == wrap64 ((XL % 2 ^ (8 * 8) : Nat) : Int)) := by
    rw [hi8 eL]
    cases hq : (wrap64 h == 0) <;> simp [bne, hq]
  have sp := mulS13_8 a b (flV c p zf sf o) xa xb 0 0 h l _ 0 0 0 _ hm (fun w => by rw [hxa]; exact zr a X hX w) (fun w => by rw [hxb]; exact zr b Y hY w) pr (zr _ XL eL)
  have im := mulI13 8 a b (flV c p zf sf o) _ _ _ _ _ _ _ _ _ hn (flagsYesI c p zf sf o) wA wB wT wH wF
  rw [wCar_eq] at im
  rw [keep_both] at sp
  exact ⟨_, _, _, im, MulSYes 13 8 a b _ _ _ c p zf sf o (by omega) hn (Lib.hid sp)⟩
theorem mulB14_1 (a b : Int) (c p zf sf o : Bool) (ha : (Lit.int .i64 a).wf = true) (hb : (Lit.int .i64 b).wf = true) : ∃ lo hi g, (∀ w, Calls Tryd.prog 26 #[.int .i64 14, .int .i64 1, .int .i64 a, .int .i64 b, .int .i64 (flV c p zf sf o)] w fun e w' => e = .returned (.tuple #[.int .i64 lo, .int .i64 hi, .int .i64 g, .int .i64 0]) ∧ Below w.heap.size w w') ∧
    (∀ w, Calls Tryd.prog 27 #[.int .i64 14, .int .i64 1, .int .i64 a, .int .i64 b, .int .i64 (flV c p zf sf o)] w fun e w' => e = .returned (.tuple #[.int .i64 lo, .int .i64 hi, .int .i64 g, .int .i64 0]) ∧ w = w') := by
  obtain ⟨X, hX⟩ := natU a
  obtain ⟨Y, hY⟩ := natU b
  have hn : okSize (1 : Int) := by unfold okSize; omega
  have un (v : Int) (V : Nat) (hV : IntKind.u64.wrap v = (V : Int)) (w : World) : Calls Tryd.prog 46 #[.int .i64 v, .int .i64 1] w fun e w' => e = .returned (.tuple #[.int .i64 (wrap64 ((V % 2 ^ (8 * 1) : Nat) : Int)), .nilIface]) ∧ w = w' := by
    rw [eqZ1 hV]; exact unsigned1 v w
  have zr (v : Int) (V : Nat) (hV : IntKind.u64.wrap v = (V : Int)) (w : World) := specZeroL v V 1 w hV (by decide) (by decide)
  obtain ⟨xa, hxa⟩ : ∃ xa : Int, xa = wrap64 ((X % 2 ^ (8 * 1) : Nat) : Int) := ⟨_, rfl⟩
  obtain ⟨xb, hxb⟩ : ∃ xb : Int, xb = wrap64 ((Y % 2 ^ (8 * 1) : Nat) : Int) := ⟨_, rfl⟩
  have si (v : Int) (V : Nat) (hv : (Lit.int .i64 v).wf = true) (hV : IntKind.u64.wrap v = (V : Int)) (w : World) : Calls Tryd.prog 85 #[.int .i64 v, .int .i64 1] w fun e w' => e = .returned (.tuple #[.int .i64 (wrap64 (sgnU V 1 : Int)), .nilIface]) ∧ w = w' := by
    rw [eqS1 hV]; exact signed1 v w
  have sr (v : Int) (V : Nat) (hV : IntKind.u64.wrap v = (V : Int)) (w : World) := specSignL v V 1 w hV (by decide) (by decide)
  obtain ⟨sa, hsa⟩ : ∃ sa : Int, sa = wrap64 (sgnU X 1 : Int) := ⟨_, rfl⟩
  obtain ⟨sb, hsb⟩ : ∃ sb : Int, sb = wrap64 (sgnU Y 1 : Int) := ⟨_, rfl⟩
  have wsa : (Lit.int .i64 sa).wf = true := by rw [hsa]; exact wrap64_wf _
  have wsb : (Lit.int .i64 sb).wf = true := by rw [hsb]; exact wrap64_wf _
  obtain ⟨h, hh⟩ : ∃ h : Int, h = sa * sb / 18446744073709551616 % 18446744073709551616 := ⟨_, rfl⟩
  obtain ⟨l, hl⟩ : ∃ l : Int, l = sa * sb % 18446744073709551616 := ⟨_, rfl⟩
  have hw := highW (bounds_i64 wsa) (bounds_i64 wsb)
  have lw : mulLo sa sb = wrap64 l := by unfold mulLo; rw [lowW, hl]
  rw [← hh] at hw
  have wA := widSx a 1 sa (fun w => by rw [hsa]; exact si a X ha hX w)
  have wB := widSx b 1 sb (fun w => by rw [hsb]; exact si b Y hb hY w)
  have wT := timesX (sa / 9223372036854775808) sa (sb / 9223372036854775808) sb _ _ (implMulWide sa sb)
  rw [hw, lw] at wT
  have pr := fun w => specProdS sa sb w wsa wsb
  rw [← hh, ← hl] at pr
  have l0 : 0 ≤ l ∧ l < 18446744073709551616 := by rw [hl]; omega
  obtain ⟨XL, eL⟩ := natU (wrap64 l)
  have wL := widUx (wrap64 l) 1 _ (un (wrap64 l) XL eL)
  obtain ⟨X2, e2⟩ := natU (wrap64 l / 256)
  obtain ⟨X3, e3⟩ := natU (wrap64 (l / 256))
  have wU := widUx (wrap64 l / 256) 1 _ (un (wrap64 l / 256) X2 e2)
  rw [hi1 l0.1 l0.2 e2 e3] at wU
  have wH := halvesX1 (wrap64 h) (wrap64 l) _ _ _ _ wL wU
  have wF := fitsX (wrap64 h) (wrap64 l) 1 _ _ true (widSx (wrap64 l) 1 _ (si (wrap64 l) XL (wrap64_wf _) eL))
  obtain ⟨Xh, eh⟩ := natU (wrap64 ((X3 % 2 ^ (8 * 1) : Nat) : Int))
  obtain ⟨Xl, el⟩ := natU (wrap64 ((XL % 2 ^ (8 * 1) : Nat) : Int))
  have hm : (wrap64 (sgnU Xh 1 : Int) != wrap64 (sgnU Xl 1 : Int) / 9223372036854775808) = !(wrap64 h == wrap64 (sgnU XL 1 : Int) / 9223372036854775808 && wrap64 l == wrap64 (sgnU XL 1 : Int)) := by
    rw [hh, hl] at *
    have bx : -128 ≤ sa ∧ sa ≤ 128 := by rw [hsa, sgn_int X 1 (by decide), show ((2 ^ (8 * 1) : Nat)) = 256 from rfl, Int.bmod_def]; split <;> omega
    have by' : -128 ≤ sb ∧ sb ≤ 128 := by rw [hsb, sgn_int Y 1 (by decide), show ((2 ^ (8 * 1) : Nat)) = 256 from rfl, Int.bmod_def]; split <;> omega
    have pb := prodS_le bx by'
    exact moreS1 (by omega) (by omega) e3 eL eh el
  have sp := mulS14_1 a b (flV c p zf sf o) xa xb sa sb h l _ _ _ _ _ hm (fun w => by rw [hxa]; exact zr a X hX w) (fun w => by rw [hxb]; exact zr b Y hY w) (fun w => by rw [hsa]; exact sr a X hX w) (fun w => by rw [hsb]; exact sr b Y hY w) pr (zr _ XL eL) (zr _ X3 e3) (sr _ Xh eh) (sr _ Xl el)
  have im := mulI14 1 a b (flV c p zf sf o) _ _ _ _ _ _ _ _ _ hn (flagsYesI c p zf sf o) wA wB wT wH wF
  rw [wCar_eq] at im
  rw [keep_both] at sp
  exact ⟨_, _, _, im, MulSYes 14 1 a b _ _ _ c p zf sf o (by omega) hn (Lib.hid sp)⟩
theorem mulB14_2 (a b : Int) (c p zf sf o : Bool) (ha : (Lit.int .i64 a).wf = true) (hb : (Lit.int .i64 b).wf = true) : ∃ lo hi g, (∀ w, Calls Tryd.prog 26 #[.int .i64 14, .int .i64 2, .int .i64 a, .int .i64 b, .int .i64 (flV c p zf sf o)] w fun e w' => e = .returned (.tuple #[.int .i64 lo, .int .i64 hi, .int .i64 g, .int .i64 0]) ∧ Below w.heap.size w w') ∧
    (∀ w, Calls Tryd.prog 27 #[.int .i64 14, .int .i64 2, .int .i64 a, .int .i64 b, .int .i64 (flV c p zf sf o)] w fun e w' => e = .returned (.tuple #[.int .i64 lo, .int .i64 hi, .int .i64 g, .int .i64 0]) ∧ w = w') := by
  obtain ⟨X, hX⟩ := natU a
  obtain ⟨Y, hY⟩ := natU b
  have hn : okSize (2 : Int) := by unfold okSize; omega
  have un (v : Int) (V : Nat) (hV : IntKind.u64.wrap v = (V : Int)) (w : World) : Calls Tryd.prog 46 #[.int .i64 v, .int .i64 2] w fun e w' => e = .returned (.tuple #[.int .i64 (wrap64 ((V % 2 ^ (8 * 2) : Nat) : Int)), .nilIface]) ∧ w = w' := by
    rw [eqZ2 hV]; exact unsigned2 v w
  have zr (v : Int) (V : Nat) (hV : IntKind.u64.wrap v = (V : Int)) (w : World) := specZeroL v V 2 w hV (by decide) (by decide)
  obtain ⟨xa, hxa⟩ : ∃ xa : Int, xa = wrap64 ((X % 2 ^ (8 * 2) : Nat) : Int) := ⟨_, rfl⟩
  obtain ⟨xb, hxb⟩ : ∃ xb : Int, xb = wrap64 ((Y % 2 ^ (8 * 2) : Nat) : Int) := ⟨_, rfl⟩
  have si (v : Int) (V : Nat) (hv : (Lit.int .i64 v).wf = true) (hV : IntKind.u64.wrap v = (V : Int)) (w : World) : Calls Tryd.prog 85 #[.int .i64 v, .int .i64 2] w fun e w' => e = .returned (.tuple #[.int .i64 (wrap64 (sgnU V 2 : Int)), .nilIface]) ∧ w = w' := by
    rw [eqS2 hV]; exact signed2 v w
  have sr (v : Int) (V : Nat) (hV : IntKind.u64.wrap v = (V : Int)) (w : World) := specSignL v V 2 w hV (by decide) (by decide)
  obtain ⟨sa, hsa⟩ : ∃ sa : Int, sa = wrap64 (sgnU X 2 : Int) := ⟨_, rfl⟩
  obtain ⟨sb, hsb⟩ : ∃ sb : Int, sb = wrap64 (sgnU Y 2 : Int) := ⟨_, rfl⟩
  have wsa : (Lit.int .i64 sa).wf = true := by rw [hsa]; exact wrap64_wf _
  have wsb : (Lit.int .i64 sb).wf = true := by rw [hsb]; exact wrap64_wf _
  obtain ⟨h, hh⟩ : ∃ h : Int, h = sa * sb / 18446744073709551616 % 18446744073709551616 := ⟨_, rfl⟩
  obtain ⟨l, hl⟩ : ∃ l : Int, l = sa * sb % 18446744073709551616 := ⟨_, rfl⟩
  have hw := highW (bounds_i64 wsa) (bounds_i64 wsb)
  have lw : mulLo sa sb = wrap64 l := by unfold mulLo; rw [lowW, hl]
  rw [← hh] at hw
  have wA := widSx a 2 sa (fun w => by rw [hsa]; exact si a X ha hX w)
  have wB := widSx b 2 sb (fun w => by rw [hsb]; exact si b Y hb hY w)
  have wT := timesX (sa / 9223372036854775808) sa (sb / 9223372036854775808) sb _ _ (implMulWide sa sb)
  rw [hw, lw] at wT
  have pr := fun w => specProdS sa sb w wsa wsb
  rw [← hh, ← hl] at pr
  have l0 : 0 ≤ l ∧ l < 18446744073709551616 := by rw [hl]; omega
  obtain ⟨XL, eL⟩ := natU (wrap64 l)
  have wL := widUx (wrap64 l) 2 _ (un (wrap64 l) XL eL)
  obtain ⟨X2, e2⟩ := natU (wrap64 l / 65536)
  obtain ⟨X3, e3⟩ := natU (wrap64 (l / 65536))
  have wU := widUx (wrap64 l / 65536) 2 _ (un (wrap64 l / 65536) X2 e2)
  rw [hi2 l0.1 l0.2 e2 e3] at wU
  have wH := halvesX2 (wrap64 h) (wrap64 l) _ _ _ _ wL wU
  have wF := fitsX (wrap64 h) (wrap64 l) 2 _ _ true (widSx (wrap64 l) 2 _ (si (wrap64 l) XL (wrap64_wf _) eL))
  obtain ⟨Xh, eh⟩ := natU (wrap64 ((X3 % 2 ^ (8 * 2) : Nat) : Int))
  obtain ⟨Xl, el⟩ := natU (wrap64 ((XL % 2 ^ (8 * 2) : Nat) : Int))
  have hm : (wrap64 (sgnU Xh 2 : Int) != wrap64 (sgnU Xl 2 : Int) / 9223372036854775808) = !(wrap64 h == wrap64 (sgnU XL 2 : Int) / 9223372036854775808 && wrap64 l == wrap64 (sgnU XL 2 : Int)) := by
    rw [hh, hl] at *
    have bx : -32768 ≤ sa ∧ sa ≤ 32768 := by rw [hsa, sgn_int X 2 (by decide), show ((2 ^ (8 * 2) : Nat)) = 65536 from rfl, Int.bmod_def]; split <;> omega
    have by' : -32768 ≤ sb ∧ sb ≤ 32768 := by rw [hsb, sgn_int Y 2 (by decide), show ((2 ^ (8 * 2) : Nat)) = 65536 from rfl, Int.bmod_def]; split <;> omega
    have pb := prodS_le bx by'
    exact moreS2 (by omega) (by omega) e3 eL eh el
  have sp := mulS14_2 a b (flV c p zf sf o) xa xb sa sb h l _ _ _ _ _ hm (fun w => by rw [hxa]; exact zr a X hX w) (fun w => by rw [hxb]; exact zr b Y hY w) (fun w => by rw [hsa]; exact sr a X hX w) (fun w => by rw [hsb]; exact sr b Y hY w) pr (zr _ XL eL) (zr _ X3 e3) (sr _ Xh eh) (sr _ Xl el)
  have im := mulI14 2 a b (flV c p zf sf o) _ _ _ _ _ _ _ _ _ hn (flagsYesI c p zf sf o) wA wB wT wH wF
  rw [wCar_eq] at im
  rw [keep_both] at sp
  exact ⟨_, _, _, im, MulSYes 14 2 a b _ _ _ c p zf sf o (by omega) hn (Lib.hid sp)⟩
theorem mulB14_4 (a b : Int) (c p zf sf o : Bool) (ha : (Lit.int .i64 a).wf = true) (hb : (Lit.int .i64 b).wf = true) : ∃ lo hi g, (∀ w, Calls Tryd.prog 26 #[.int .i64 14, .int .i64 4, .int .i64 a, .int .i64 b, .int .i64 (flV c p zf sf o)] w fun e w' => e = .returned (.tuple #[.int .i64 lo, .int .i64 hi, .int .i64 g, .int .i64 0]) ∧ Below w.heap.size w w') ∧
    (∀ w, Calls Tryd.prog 27 #[.int .i64 14, .int .i64 4, .int .i64 a, .int .i64 b, .int .i64 (flV c p zf sf o)] w fun e w' => e = .returned (.tuple #[.int .i64 lo, .int .i64 hi, .int .i64 g, .int .i64 0]) ∧ w = w') := by
  obtain ⟨X, hX⟩ := natU a
  obtain ⟨Y, hY⟩ := natU b
  have hn : okSize (4 : Int) := by unfold okSize; omega
  have un (v : Int) (V : Nat) (hV : IntKind.u64.wrap v = (V : Int)) (w : World) : Calls Tryd.prog 46 #[.int .i64 v, .int .i64 4] w fun e w' => e = .returned (.tuple #[.int .i64 (wrap64 ((V % 2 ^ (8 * 4) : Nat) : Int)), .nilIface]) ∧ w = w' := by
    rw [eqZ4 hV]; exact unsigned4 v w
  have zr (v : Int) (V : Nat) (hV : IntKind.u64.wrap v = (V : Int)) (w : World) := specZeroL v V 4 w hV (by decide) (by decide)
  obtain ⟨xa, hxa⟩ : ∃ xa : Int, xa = wrap64 ((X % 2 ^ (8 * 4) : Nat) : Int) := ⟨_, rfl⟩
  obtain ⟨xb, hxb⟩ : ∃ xb : Int, xb = wrap64 ((Y % 2 ^ (8 * 4) : Nat) : Int) := ⟨_, rfl⟩
  have si (v : Int) (V : Nat) (hv : (Lit.int .i64 v).wf = true) (hV : IntKind.u64.wrap v = (V : Int)) (w : World) : Calls Tryd.prog 85 #[.int .i64 v, .int .i64 4] w fun e w' => e = .returned (.tuple #[.int .i64 (wrap64 (sgnU V 4 : Int)), .nilIface]) ∧ w = w' := by
    rw [eqS4 hV]; exact signed4 v w
  have sr (v : Int) (V : Nat) (hV : IntKind.u64.wrap v = (V : Int)) (w : World) := specSignL v V 4 w hV (by decide) (by decide)
  obtain ⟨sa, hsa⟩ : ∃ sa : Int, sa = wrap64 (sgnU X 4 : Int) := ⟨_, rfl⟩
  obtain ⟨sb, hsb⟩ : ∃ sb : Int, sb = wrap64 (sgnU Y 4 : Int) := ⟨_, rfl⟩
  have wsa : (Lit.int .i64 sa).wf = true := by rw [hsa]; exact wrap64_wf _
  have wsb : (Lit.int .i64 sb).wf = true := by rw [hsb]; exact wrap64_wf _
  obtain ⟨h, hh⟩ : ∃ h : Int, h = sa * sb / 18446744073709551616 % 18446744073709551616 := ⟨_, rfl⟩
  obtain ⟨l, hl⟩ : ∃ l : Int, l = sa * sb % 18446744073709551616 := ⟨_, rfl⟩
  have hw := highW (bounds_i64 wsa) (bounds_i64 wsb)
  have lw : mulLo sa sb = wrap64 l := by unfold mulLo; rw [lowW, hl]
  rw [← hh] at hw
  have wA := widSx a 4 sa (fun w => by rw [hsa]; exact si a X ha hX w)
  have wB := widSx b 4 sb (fun w => by rw [hsb]; exact si b Y hb hY w)
  have wT := timesX (sa / 9223372036854775808) sa (sb / 9223372036854775808) sb _ _ (implMulWide sa sb)
  rw [hw, lw] at wT
  have pr := fun w => specProdS sa sb w wsa wsb
  rw [← hh, ← hl] at pr
  have l0 : 0 ≤ l ∧ l < 18446744073709551616 := by rw [hl]; omega
  obtain ⟨XL, eL⟩ := natU (wrap64 l)
  have wL := widUx (wrap64 l) 4 _ (un (wrap64 l) XL eL)
  obtain ⟨X2, e2⟩ := natU (wrap64 l / 4294967296)
  obtain ⟨X3, e3⟩ := natU (wrap64 (l / 4294967296))
  have wU := widUx (wrap64 l / 4294967296) 4 _ (un (wrap64 l / 4294967296) X2 e2)
  rw [hi4 l0.1 l0.2 e2 e3] at wU
  have wH := halvesX4 (wrap64 h) (wrap64 l) _ _ _ _ wL wU
  have wF := fitsX (wrap64 h) (wrap64 l) 4 _ _ true (widSx (wrap64 l) 4 _ (si (wrap64 l) XL (wrap64_wf _) eL))
  obtain ⟨Xh, eh⟩ := natU (wrap64 ((X3 % 2 ^ (8 * 4) : Nat) : Int))
  obtain ⟨Xl, el⟩ := natU (wrap64 ((XL % 2 ^ (8 * 4) : Nat) : Int))
  have hm : (wrap64 (sgnU Xh 4 : Int) != wrap64 (sgnU Xl 4 : Int) / 9223372036854775808) = !(wrap64 h == wrap64 (sgnU XL 4 : Int) / 9223372036854775808 && wrap64 l == wrap64 (sgnU XL 4 : Int)) := by
    rw [hh, hl] at *
    have bx : -2147483648 ≤ sa ∧ sa ≤ 2147483648 := by rw [hsa, sgn_int X 4 (by decide), show ((2 ^ (8 * 4) : Nat)) = 4294967296 from rfl, Int.bmod_def]; split <;> omega
    have by' : -2147483648 ≤ sb ∧ sb ≤ 2147483648 := by rw [hsb, sgn_int Y 4 (by decide), show ((2 ^ (8 * 4) : Nat)) = 4294967296 from rfl, Int.bmod_def]; split <;> omega
    have pb := prodS_le bx by'
    exact moreS4 (by omega) (by omega) e3 eL eh el
  have sp := mulS14_4 a b (flV c p zf sf o) xa xb sa sb h l _ _ _ _ _ hm (fun w => by rw [hxa]; exact zr a X hX w) (fun w => by rw [hxb]; exact zr b Y hY w) (fun w => by rw [hsa]; exact sr a X hX w) (fun w => by rw [hsb]; exact sr b Y hY w) pr (zr _ XL eL) (zr _ X3 e3) (sr _ Xh eh) (sr _ Xl el)
  have im := mulI14 4 a b (flV c p zf sf o) _ _ _ _ _ _ _ _ _ hn (flagsYesI c p zf sf o) wA wB wT wH wF
  rw [wCar_eq] at im
  rw [keep_both] at sp
  exact ⟨_, _, _, im, MulSYes 14 4 a b _ _ _ c p zf sf o (by omega) hn (Lib.hid sp)⟩
theorem mulB14_8 (a b : Int) (c p zf sf o : Bool) (ha : (Lit.int .i64 a).wf = true) (hb : (Lit.int .i64 b).wf = true) : ∃ lo hi g, (∀ w, Calls Tryd.prog 26 #[.int .i64 14, .int .i64 8, .int .i64 a, .int .i64 b, .int .i64 (flV c p zf sf o)] w fun e w' => e = .returned (.tuple #[.int .i64 lo, .int .i64 hi, .int .i64 g, .int .i64 0]) ∧ Below w.heap.size w w') ∧
    (∀ w, Calls Tryd.prog 27 #[.int .i64 14, .int .i64 8, .int .i64 a, .int .i64 b, .int .i64 (flV c p zf sf o)] w fun e w' => e = .returned (.tuple #[.int .i64 lo, .int .i64 hi, .int .i64 g, .int .i64 0]) ∧ w = w') := by
  obtain ⟨X, hX⟩ := natU a
  obtain ⟨Y, hY⟩ := natU b
  have hn : okSize (8 : Int) := by unfold okSize; omega
  have un (v : Int) (V : Nat) (hV : IntKind.u64.wrap v = (V : Int)) (w : World) : Calls Tryd.prog 46 #[.int .i64 v, .int .i64 8] w fun e w' => e = .returned (.tuple #[.int .i64 (wrap64 ((V % 2 ^ (8 * 8) : Nat) : Int)), .nilIface]) ∧ w = w' := by
    rw [eqZ8 hV]; exact unsigned8 v w
  have zr (v : Int) (V : Nat) (hV : IntKind.u64.wrap v = (V : Int)) (w : World) := specZeroL v V 8 w hV (by decide) (by decide)
  obtain ⟨xa, hxa⟩ : ∃ xa : Int, xa = wrap64 ((X % 2 ^ (8 * 8) : Nat) : Int) := ⟨_, rfl⟩
  obtain ⟨xb, hxb⟩ : ∃ xb : Int, xb = wrap64 ((Y % 2 ^ (8 * 8) : Nat) : Int) := ⟨_, rfl⟩
  have si (v : Int) (V : Nat) (hv : (Lit.int .i64 v).wf = true) (hV : IntKind.u64.wrap v = (V : Int)) (w : World) : Calls Tryd.prog 85 #[.int .i64 v, .int .i64 8] w fun e w' => e = .returned (.tuple #[.int .i64 (wrap64 (sgnU V 8 : Int)), .nilIface]) ∧ w = w' := by
    rw [eqS8 hv hV]; exact signed8 v w
  have sr (v : Int) (V : Nat) (hV : IntKind.u64.wrap v = (V : Int)) (w : World) := specSignL v V 8 w hV (by decide) (by decide)
  obtain ⟨sa, hsa⟩ : ∃ sa : Int, sa = wrap64 (sgnU X 8 : Int) := ⟨_, rfl⟩
  obtain ⟨sb, hsb⟩ : ∃ sb : Int, sb = wrap64 (sgnU Y 8 : Int) := ⟨_, rfl⟩
  have wsa : (Lit.int .i64 sa).wf = true := by rw [hsa]; exact wrap64_wf _
  have wsb : (Lit.int .i64 sb).wf = true := by rw [hsb]; exact wrap64_wf _
  obtain ⟨h, hh⟩ : ∃ h : Int, h = sa * sb / 18446744073709551616 % 18446744073709551616 := ⟨_, rfl⟩
  obtain ⟨l, hl⟩ : ∃ l : Int, l = sa * sb % 18446744073709551616 := ⟨_, rfl⟩
  have hw := highW (bounds_i64 wsa) (bounds_i64 wsb)
  have lw : mulLo sa sb = wrap64 l := by unfold mulLo; rw [lowW, hl]
  rw [← hh] at hw
  have wA := widSx a 8 sa (fun w => by rw [hsa]; exact si a X ha hX w)
  have wB := widSx b 8 sb (fun w => by rw [hsb]; exact si b Y hb hY w)
  have wT := timesX (sa / 9223372036854775808) sa (sb / 9223372036854775808) sb _ _ (implMulWide sa sb)
  rw [hw, lw] at wT
  have pr := fun w => specProdS sa sb w wsa wsb
  rw [← hh, ← hl] at pr
  have l0 : 0 ≤ l ∧ l < 18446744073709551616 := by rw [hl]; omega
  obtain ⟨XL, eL⟩ := natU (wrap64 l)
  have wL := widUx (wrap64 l) 8 _ (un (wrap64 l) XL eL)
  obtain ⟨X2, e2⟩ := natU (wrap64 h)
  have wU := widUx (wrap64 h) 8 _ (un (wrap64 h) X2 e2)
  rw [hi8 e2] at wU
  have wH := halvesX8 (wrap64 h) (wrap64 l) _ _ _ _ wL wU
  have wF := fitsX (wrap64 h) (wrap64 l) 8 _ _ true (widSx (wrap64 l) 8 _ (si (wrap64 l) XL (wrap64_wf _) eL))
  obtain ⟨Xh, eh⟩ := natU (wrap64 h)
  obtain ⟨Xl, el⟩ := natU (wrap64 ((XL % 2 ^ (8 * 8) : Nat) : Int))
  have hm : (wrap64 (sgnU Xh 8 : Int) != wrap64 (sgnU Xl 8 : Int) / 9223372036854775808) = !(wrap64 h == wrap64 (sgnU XL 8 : Int) / 9223372036854775808 && wrap64 l == wrap64 (sgnU XL 8 : Int)) := by
    rw [eqS8 (wrap64_wf _) eh, eqS8 (wrap64_wf _) el, eqS8 (wrap64_wf _) eL, hi8 eL]
    cases hq : (wrap64 h == wrap64 l / 9223372036854775808) <;> simp [bne, hq]
  have sp := mulS14_8 a b (flV c p zf sf o) xa xb sa sb h l _ 0 _ _ _ hm (fun w => by rw [hxa]; exact zr a X hX w) (fun w => by rw [hxb]; exact zr b Y hY w) (fun w => by rw [hsa]; exact sr a X hX w) (fun w => by rw [hsb]; exact sr b Y hY w) pr (zr _ XL eL) (sr _ Xh eh) (sr _ Xl el)
  have im := mulI14 8 a b (flV c p zf sf o) _ _ _ _ _ _ _ _ _ hn (flagsYesI c p zf sf o) wA wB wT wH wF
  rw [wCar_eq] at im
  rw [keep_both] at sp
  exact ⟨_, _, _, im, MulSYes 14 8 a b _ _ _ c p zf sf o (by omega) hn (Lib.hid sp)⟩
theorem mulB17_1 (a b : Int) (c p zf sf o : Bool) (ha : (Lit.int .i64 a).wf = true) (hb : (Lit.int .i64 b).wf = true) : ∃ lo hi g, (∀ w, Calls Tryd.prog 26 #[.int .i64 17, .int .i64 1, .int .i64 a, .int .i64 b, .int .i64 (flV c p zf sf o)] w fun e w' => e = .returned (.tuple #[.int .i64 lo, .int .i64 hi, .int .i64 g, .int .i64 0]) ∧ Below w.heap.size w w') ∧
    (∀ w, Calls Tryd.prog 27 #[.int .i64 17, .int .i64 1, .int .i64 a, .int .i64 b, .int .i64 (flV c p zf sf o)] w fun e w' => e = .returned (.tuple #[.int .i64 lo, .int .i64 hi, .int .i64 g, .int .i64 0]) ∧ w = w') := by
  obtain ⟨X, hX⟩ := natU a
  obtain ⟨Y, hY⟩ := natU b
  have hn : okSize (1 : Int) := by unfold okSize; omega
  have un (v : Int) (V : Nat) (hV : IntKind.u64.wrap v = (V : Int)) (w : World) : Calls Tryd.prog 46 #[.int .i64 v, .int .i64 1] w fun e w' => e = .returned (.tuple #[.int .i64 (wrap64 ((V % 2 ^ (8 * 1) : Nat) : Int)), .nilIface]) ∧ w = w' := by
    rw [eqZ1 hV]; exact unsigned1 v w
  have zr (v : Int) (V : Nat) (hV : IntKind.u64.wrap v = (V : Int)) (w : World) := specZeroL v V 1 w hV (by decide) (by decide)
  obtain ⟨xa, hxa⟩ : ∃ xa : Int, xa = wrap64 ((X % 2 ^ (8 * 1) : Nat) : Int) := ⟨_, rfl⟩
  obtain ⟨xb, hxb⟩ : ∃ xb : Int, xb = wrap64 ((Y % 2 ^ (8 * 1) : Nat) : Int) := ⟨_, rfl⟩
  have si (v : Int) (V : Nat) (hv : (Lit.int .i64 v).wf = true) (hV : IntKind.u64.wrap v = (V : Int)) (w : World) : Calls Tryd.prog 85 #[.int .i64 v, .int .i64 1] w fun e w' => e = .returned (.tuple #[.int .i64 (wrap64 (sgnU V 1 : Int)), .nilIface]) ∧ w = w' := by
    rw [eqS1 hV]; exact signed1 v w
  have sr (v : Int) (V : Nat) (hV : IntKind.u64.wrap v = (V : Int)) (w : World) := specSignL v V 1 w hV (by decide) (by decide)
  obtain ⟨sa, hsa⟩ : ∃ sa : Int, sa = wrap64 (sgnU X 1 : Int) := ⟨_, rfl⟩
  obtain ⟨sb, hsb⟩ : ∃ sb : Int, sb = wrap64 (sgnU Y 1 : Int) := ⟨_, rfl⟩
  have wsa : (Lit.int .i64 sa).wf = true := by rw [hsa]; exact wrap64_wf _
  have wsb : (Lit.int .i64 sb).wf = true := by rw [hsb]; exact wrap64_wf _
  obtain ⟨h, hh⟩ : ∃ h : Int, h = sa * sb / 18446744073709551616 % 18446744073709551616 := ⟨_, rfl⟩
  obtain ⟨l, hl⟩ : ∃ l : Int, l = sa * sb % 18446744073709551616 := ⟨_, rfl⟩
  have hw := highW (bounds_i64 wsa) (bounds_i64 wsb)
  have lw : mulLo sa sb = wrap64 l := by unfold mulLo; rw [lowW, hl]
  rw [← hh] at hw
  have wA := widSx a 1 sa (fun w => by rw [hsa]; exact si a X ha hX w)
  have wB := widSx b 1 sb (fun w => by rw [hsb]; exact si b Y hb hY w)
  have wT := timesX (sa / 9223372036854775808) sa (sb / 9223372036854775808) sb _ _ (implMulWide sa sb)
  rw [hw, lw] at wT
  have pr := fun w => specProdS sa sb w wsa wsb
  rw [← hh, ← hl] at pr
  have l0 : 0 ≤ l ∧ l < 18446744073709551616 := by rw [hl]; omega
  obtain ⟨XL, eL⟩ := natU (wrap64 l)
  have wL := widUx (wrap64 l) 1 _ (un (wrap64 l) XL eL)
  obtain ⟨X2, e2⟩ := natU (wrap64 l / 256)
  obtain ⟨X3, e3⟩ := natU (wrap64 (l / 256))
  have wU := widUx (wrap64 l / 256) 1 _ (un (wrap64 l / 256) X2 e2)
  rw [hi1 l0.1 l0.2 e2 e3] at wU
  have wH := halvesX1 (wrap64 h) (wrap64 l) _ _ _ _ wL wU
  have wF := fitsX (wrap64 h) (wrap64 l) 1 _ _ true (widSx (wrap64 l) 1 _ (si (wrap64 l) XL (wrap64_wf _) eL))
  obtain ⟨Xh, eh⟩ := natU (wrap64 ((X3 % 2 ^ (8 * 1) : Nat) : Int))
  obtain ⟨Xl, el⟩ := natU (wrap64 ((XL % 2 ^ (8 * 1) : Nat) : Int))
  have hm : (wrap64 (sgnU Xh 1 : Int) != wrap64 (sgnU Xl 1 : Int) / 9223372036854775808) = !(wrap64 h == wrap64 (sgnU XL 1 : Int) / 9223372036854775808 && wrap64 l == wrap64 (sgnU XL 1 : Int)) := by
    rw [hh, hl] at *
    have bx : -128 ≤ sa ∧ sa ≤ 128 := by rw [hsa, sgn_int X 1 (by decide), show ((2 ^ (8 * 1) : Nat)) = 256 from rfl, Int.bmod_def]; split <;> omega
    have by' : -128 ≤ sb ∧ sb ≤ 128 := by rw [hsb, sgn_int Y 1 (by decide), show ((2 ^ (8 * 1) : Nat)) = 256 from rfl, Int.bmod_def]; split <;> omega
    have pb := prodS_le bx by'
    exact moreS1 (by omega) (by omega) e3 eL eh el
  have sp := mulS17_1 a b (flV c p zf sf o) xa xb sa sb h l _ _ _ _ _ hm (fun w => by rw [hxa]; exact zr a X hX w) (fun w => by rw [hxb]; exact zr b Y hY w) (fun w => by rw [hsa]; exact sr a X hX w) (fun w => by rw [hsb]; exact sr b Y hY w) pr (zr _ XL eL) (zr _ X3 e3) (sr _ Xh eh) (sr _ Xl el)
  have im := mulI17 1 a b (flV c p zf sf o) _ _ _ _ _ _ _ _ _ hn (flagsYesI c p zf sf o) wA wB wT wH wF
  rw [wCar_eq] at im
  rw [keep_both] at sp
  exact ⟨_, _, _, im, MulSYes 17 1 a b _ _ _ c p zf sf o (by omega) hn (Lib.hid sp)⟩
theorem mulB17_2 (a b : Int) (c p zf sf o : Bool) (ha : (Lit.int .i64 a).wf = true) (hb : (Lit.int .i64 b).wf = true) : ∃ lo hi g, (∀ w, Calls Tryd.prog 26 #[.int .i64 17, .int .i64 2, .int .i64 a, .int .i64 b, .int .i64 (flV c p zf sf o)] w fun e w' => e = .returned (.tuple #[.int .i64 lo, .int .i64 hi, .int .i64 g, .int .i64 0]) ∧ Below w.heap.size w w') ∧
    (∀ w, Calls Tryd.prog 27 #[.int .i64 17, .int .i64 2, .int .i64 a, .int .i64 b, .int .i64 (flV c p zf sf o)] w fun e w' => e = .returned (.tuple #[.int .i64 lo, .int .i64 hi, .int .i64 g, .int .i64 0]) ∧ w = w') := by
  obtain ⟨X, hX⟩ := natU a
  obtain ⟨Y, hY⟩ := natU b
  have hn : okSize (2 : Int) := by unfold okSize; omega
  have un (v : Int) (V : Nat) (hV : IntKind.u64.wrap v = (V : Int)) (w : World) : Calls Tryd.prog 46 #[.int .i64 v, .int .i64 2] w fun e w' => e = .returned (.tuple #[.int .i64 (wrap64 ((V % 2 ^ (8 * 2) : Nat) : Int)), .nilIface]) ∧ w = w' := by
    rw [eqZ2 hV]; exact unsigned2 v w
  have zr (v : Int) (V : Nat) (hV : IntKind.u64.wrap v = (V : Int)) (w : World) := specZeroL v V 2 w hV (by decide) (by decide)
  obtain ⟨xa, hxa⟩ : ∃ xa : Int, xa = wrap64 ((X % 2 ^ (8 * 2) : Nat) : Int) := ⟨_, rfl⟩
  obtain ⟨xb, hxb⟩ : ∃ xb : Int, xb = wrap64 ((Y % 2 ^ (8 * 2) : Nat) : Int) := ⟨_, rfl⟩
  have si (v : Int) (V : Nat) (hv : (Lit.int .i64 v).wf = true) (hV : IntKind.u64.wrap v = (V : Int)) (w : World) : Calls Tryd.prog 85 #[.int .i64 v, .int .i64 2] w fun e w' => e = .returned (.tuple #[.int .i64 (wrap64 (sgnU V 2 : Int)), .nilIface]) ∧ w = w' := by
    rw [eqS2 hV]; exact signed2 v w
  have sr (v : Int) (V : Nat) (hV : IntKind.u64.wrap v = (V : Int)) (w : World) := specSignL v V 2 w hV (by decide) (by decide)
  obtain ⟨sa, hsa⟩ : ∃ sa : Int, sa = wrap64 (sgnU X 2 : Int) := ⟨_, rfl⟩
  obtain ⟨sb, hsb⟩ : ∃ sb : Int, sb = wrap64 (sgnU Y 2 : Int) := ⟨_, rfl⟩
  have wsa : (Lit.int .i64 sa).wf = true := by rw [hsa]; exact wrap64_wf _
  have wsb : (Lit.int .i64 sb).wf = true := by rw [hsb]; exact wrap64_wf _
  obtain ⟨h, hh⟩ : ∃ h : Int, h = sa * sb / 18446744073709551616 % 18446744073709551616 := ⟨_, rfl⟩
  obtain ⟨l, hl⟩ : ∃ l : Int, l = sa * sb % 18446744073709551616 := ⟨_, rfl⟩
  have hw := highW (bounds_i64 wsa) (bounds_i64 wsb)
  have lw : mulLo sa sb = wrap64 l := by unfold mulLo; rw [lowW, hl]
  rw [← hh] at hw
  have wA := widSx a 2 sa (fun w => by rw [hsa]; exact si a X ha hX w)
  have wB := widSx b 2 sb (fun w => by rw [hsb]; exact si b Y hb hY w)
  have wT := timesX (sa / 9223372036854775808) sa (sb / 9223372036854775808) sb _ _ (implMulWide sa sb)
  rw [hw, lw] at wT
  have pr := fun w => specProdS sa sb w wsa wsb
  rw [← hh, ← hl] at pr
  have l0 : 0 ≤ l ∧ l < 18446744073709551616 := by rw [hl]; omega
  obtain ⟨XL, eL⟩ := natU (wrap64 l)
  have wL := widUx (wrap64 l) 2 _ (un (wrap64 l) XL eL)
  obtain ⟨X2, e2⟩ := natU (wrap64 l / 65536)
  obtain ⟨X3, e3⟩ := natU (wrap64 (l / 65536))
  have wU := widUx (wrap64 l / 65536) 2 _ (un (wrap64 l / 65536) X2 e2)
  rw [hi2 l0.1 l0.2 e2 e3] at wU
  have wH := halvesX2 (wrap64 h) (wrap64 l) _ _ _ _ wL wU
  have wF := fitsX (wrap64 h) (wrap64 l) 2 _ _ true (widSx (wrap64 l) 2 _ (si (wrap64 l) XL (wrap64_wf _) eL))
  obtain ⟨Xh, eh⟩ := natU (wrap64 ((X3 % 2 ^ (8 * 2) : Nat) : Int))
  obtain ⟨Xl, el⟩ := natU (wrap64 ((XL % 2 ^ (8 * 2) : Nat) : Int))
  have hm : (wrap64 (sgnU Xh 2 : Int) != wrap64 (sgnU Xl 2 : Int) / 9223372036854775808) = !(wrap64 h == wrap64 (sgnU XL 2 : Int) / 9223372036854775808 && wrap64 l == wrap64 (sgnU XL 2 : Int)) := by
    rw [hh, hl] at *
    have bx : -32768 ≤ sa ∧ sa ≤ 32768 := by rw [hsa, sgn_int X 2 (by decide), show ((2 ^ (8 * 2) : Nat)) = 65536 from rfl, Int.bmod_def]; split <;> omega
    have by' : -32768 ≤ sb ∧ sb ≤ 32768 := by rw [hsb, sgn_int Y 2 (by decide), show ((2 ^ (8 * 2) : Nat)) = 65536 from rfl, Int.bmod_def]; split <;> omega
    have pb := prodS_le bx by'
    exact moreS2 (by omega) (by omega) e3 eL eh el
  have sp := mulS17_2 a b (flV c p zf sf o) xa xb sa sb h l _ _ _ _ _ hm (fun w => by rw [hxa]; exact zr a X hX w) (fun w => by rw [hxb]; exact zr b Y hY w) (fun w => by rw [hsa]; exact sr a X hX w) (fun w => by rw [hsb]; exact sr b Y hY w) pr (zr _ XL eL) (zr _ X3 e3) (sr _ Xh eh) (sr _ Xl el)
  have im := mulI17 2 a b (flV c p zf sf o) _ _ _ _ _ _ _ _ _ hn (flagsYesI c p zf sf o) wA wB wT wH wF
  rw [wCar_eq] at im
  rw [keep_both] at sp
  exact ⟨_, _, _, im, MulSYes 17 2 a b _ _ _ c p zf sf o (by omega) hn (Lib.hid sp)⟩
theorem mulB17_4 (a b : Int) (c p zf sf o : Bool) (ha : (Lit.int .i64 a).wf = true) (hb : (Lit.int .i64 b).wf = true) : ∃ lo hi g, (∀ w, Calls Tryd.prog 26 #[.int .i64 17, .int .i64 4, .int .i64 a, .int .i64 b, .int .i64 (flV c p zf sf o)] w fun e w' => e = .returned (.tuple #[.int .i64 lo, .int .i64 hi, .int .i64 g, .int .i64 0]) ∧ Below w.heap.size w w') ∧
    (∀ w, Calls Tryd.prog 27 #[.int .i64 17, .int .i64 4, .int .i64 a, .int .i64 b, .int .i64 (flV c p zf sf o)] w fun e w' => e = .returned (.tuple #[.int .i64 lo, .int .i64 hi, .int .i64 g, .int .i64 0]) ∧ w = w') := by
  obtain ⟨X, hX⟩ := natU a
  obtain ⟨Y, hY⟩ := natU b
  have hn : okSize (4 : Int) := by unfold okSize; omega
  have un (v : Int) (V : Nat) (hV : IntKind.u64.wrap v = (V : Int)) (w : World) : Calls Tryd.prog 46 #[.int .i64 v, .int .i64 4] w fun e w' => e = .returned (.tuple #[.int .i64 (wrap64 ((V % 2 ^ (8 * 4) : Nat) : Int)), .nilIface]) ∧ w = w' := by
    rw [eqZ4 hV]; exact unsigned4 v w
  have zr (v : Int) (V : Nat) (hV : IntKind.u64.wrap v = (V : Int)) (w : World) := specZeroL v V 4 w hV (by decide) (by decide)
  obtain ⟨xa, hxa⟩ : ∃ xa : Int, xa = wrap64 ((X % 2 ^ (8 * 4) : Nat) : Int) := ⟨_, rfl⟩
  obtain ⟨xb, hxb⟩ : ∃ xb : Int, xb = wrap64 ((Y % 2 ^ (8 * 4) : Nat) : Int) := ⟨_, rfl⟩
  have si (v : Int) (V : Nat) (hv : (Lit.int .i64 v).wf = true) (hV : IntKind.u64.wrap v = (V : Int)) (w : World) : Calls Tryd.prog 85 #[.int .i64 v, .int .i64 4] w fun e w' => e = .returned (.tuple #[.int .i64 (wrap64 (sgnU V 4 : Int)), .nilIface]) ∧ w = w' := by
    rw [eqS4 hV]; exact signed4 v w
  have sr (v : Int) (V : Nat) (hV : IntKind.u64.wrap v = (V : Int)) (w : World) := specSignL v V 4 w hV (by decide) (by decide)
  obtain ⟨sa, hsa⟩ : ∃ sa : Int, sa = wrap64 (sgnU X 4 : Int) := ⟨_, rfl⟩
  obtain ⟨sb, hsb⟩ : ∃ sb : Int, sb = wrap64 (sgnU Y 4 : Int) := ⟨_, rfl⟩
  have wsa : (Lit.int .i64 sa).wf = true := by rw [hsa]; exact wrap64_wf _
  have wsb : (Lit.int .i64 sb).wf = true := by rw [hsb]; exact wrap64_wf _
  obtain ⟨h, hh⟩ : ∃ h : Int, h = sa * sb / 18446744073709551616 % 18446744073709551616 := ⟨_, rfl⟩
  obtain ⟨l, hl⟩ : ∃ l : Int, l = sa * sb % 18446744073709551616 := ⟨_, rfl⟩
  have hw := highW (bounds_i64 wsa) (bounds_i64 wsb)
  have lw : mulLo sa sb = wrap64 l := by unfold mulLo; rw [lowW, hl]
  rw [← hh] at hw
  have wA := widSx a 4 sa (fun w => by rw [hsa]; exact si a X ha hX w)
  have wB := widSx b 4 sb (fun w => by rw [hsb]; exact si b Y hb hY w)
  have wT := timesX (sa / 9223372036854775808) sa (sb / 9223372036854775808) sb _ _ (implMulWide sa sb)
  rw [hw, lw] at wT
  have pr := fun w => specProdS sa sb w wsa wsb
  rw [← hh, ← hl] at pr
  have l0 : 0 ≤ l ∧ l < 18446744073709551616 := by rw [hl]; omega
  obtain ⟨XL, eL⟩ := natU (wrap64 l)
  have wL := widUx (wrap64 l) 4 _ (un (wrap64 l) XL eL)
  obtain ⟨X2, e2⟩ := natU (wrap64 l / 4294967296)
  obtain ⟨X3, e3⟩ := natU (wrap64 (l / 4294967296))
  have wU := widUx (wrap64 l / 4294967296) 4 _ (un (wrap64 l / 4294967296) X2 e2)
  rw [hi4 l0.1 l0.2 e2 e3] at wU
  have wH := halvesX4 (wrap64 h) (wrap64 l) _ _ _ _ wL wU
  have wF := fitsX (wrap64 h) (wrap64 l) 4 _ _ true (widSx (wrap64 l) 4 _ (si (wrap64 l) XL (wrap64_wf _) eL))
  obtain ⟨Xh, eh⟩ := natU (wrap64 ((X3 % 2 ^ (8 * 4) : Nat) : Int))
  obtain ⟨Xl, el⟩ := natU (wrap64 ((XL % 2 ^ (8 * 4) : Nat) : Int))
  have hm : (wrap64 (sgnU Xh 4 : Int) != wrap64 (sgnU Xl 4 : Int) / 9223372036854775808) = !(wrap64 h == wrap64 (sgnU XL 4 : Int) / 9223372036854775808 && wrap64 l == wrap64 (sgnU XL 4 : Int)) := by
    rw [hh, hl] at *
    have bx : -2147483648 ≤ sa ∧ sa ≤ 2147483648 := by rw [hsa, sgn_int X 4 (by decide), show ((2 ^ (8 * 4) : Nat)) = 4294967296 from rfl, Int.bmod_def]; split <;> omega
    have by' : -2147483648 ≤ sb ∧ sb ≤ 2147483648 := by rw [hsb, sgn_int Y 4 (by decide), show ((2 ^ (8 * 4) : Nat)) = 4294967296 from rfl, Int.bmod_def]; split <;> omega
    have pb := prodS_le bx by'
    exact moreS4 (by omega) (by omega) e3 eL eh el
  have sp := mulS17_4 a b (flV c p zf sf o) xa xb sa sb h l _ _ _ _ _ hm (fun w => by rw [hxa]; exact zr a X hX w) (fun w => by rw [hxb]; exact zr b Y hY w) (fun w => by rw [hsa]; exact sr a X hX w) (fun w => by rw [hsb]; exact sr b Y hY w) pr (zr _ XL eL) (zr _ X3 e3) (sr _ Xh eh) (sr _ Xl el)
  have im := mulI17 4 a b (flV c p zf sf o) _ _ _ _ _ _ _ _ _ hn (flagsYesI c p zf sf o) wA wB wT wH wF
  rw [wCar_eq] at im
  rw [keep_both] at sp
  exact ⟨_, _, _, im, MulSYes 17 4 a b _ _ _ c p zf sf o (by omega) hn (Lib.hid sp)⟩
theorem mulB17_8 (a b : Int) (c p zf sf o : Bool) (ha : (Lit.int .i64 a).wf = true) (hb : (Lit.int .i64 b).wf = true) : ∃ lo hi g, (∀ w, Calls Tryd.prog 26 #[.int .i64 17, .int .i64 8, .int .i64 a, .int .i64 b, .int .i64 (flV c p zf sf o)] w fun e w' => e = .returned (.tuple #[.int .i64 lo, .int .i64 hi, .int .i64 g, .int .i64 0]) ∧ Below w.heap.size w w') ∧
    (∀ w, Calls Tryd.prog 27 #[.int .i64 17, .int .i64 8, .int .i64 a, .int .i64 b, .int .i64 (flV c p zf sf o)] w fun e w' => e = .returned (.tuple #[.int .i64 lo, .int .i64 hi, .int .i64 g, .int .i64 0]) ∧ w = w') := by
  obtain ⟨X, hX⟩ := natU a
  obtain ⟨Y, hY⟩ := natU b
  have hn : okSize (8 : Int) := by unfold okSize; omega
  have un (v : Int) (V : Nat) (hV : IntKind.u64.wrap v = (V : Int)) (w : World) : Calls Tryd.prog 46 #[.int .i64 v, .int .i64 8] w fun e w' => e = .returned (.tuple #[.int .i64 (wrap64 ((V % 2 ^ (8 * 8) : Nat) : Int)), .nilIface]) ∧ w = w' := by
    rw [eqZ8 hV]; exact unsigned8 v w
  have zr (v : Int) (V : Nat) (hV : IntKind.u64.wrap v = (V : Int)) (w : World) := specZeroL v V 8 w hV (by decide) (by decide)
  obtain ⟨xa, hxa⟩ : ∃ xa : Int, xa = wrap64 ((X % 2 ^ (8 * 8) : Nat) : Int) := ⟨_, rfl⟩
  obtain ⟨xb, hxb⟩ : ∃ xb : Int, xb = wrap64 ((Y % 2 ^ (8 * 8) : Nat) : Int) := ⟨_, rfl⟩
  have si (v : Int) (V : Nat) (hv : (Lit.int .i64 v).wf = true) (hV : IntKind.u64.wrap v = (V : Int)) (w : World) : Calls Tryd.prog 85 #[.int .i64 v, .int .i64 8] w fun e w' => e = .returned (.tuple #[.int .i64 (wrap64 (sgnU V 8 : Int)), .nilIface]) ∧ w = w' := by
    rw [eqS8 hv hV]; exact signed8 v w
  have sr (v : Int) (V : Nat) (hV : IntKind.u64.wrap v = (V : Int)) (w : World) := specSignL v V 8 w hV (by decide) (by decide)
  obtain ⟨sa, hsa⟩ : ∃ sa : Int, sa = wrap64 (sgnU X 8 : Int) := ⟨_, rfl⟩
  obtain ⟨sb, hsb⟩ : ∃ sb : Int, sb = wrap64 (sgnU Y 8 : Int) := ⟨_, rfl⟩
  have wsa : (Lit.int .i64 sa).wf = true := by rw [hsa]; exact wrap64_wf _
  have wsb : (Lit.int .i64 sb).wf = true := by rw [hsb]; exact wrap64_wf _
  obtain ⟨h, hh⟩ : ∃ h : Int, h = sa * sb / 18446744073709551616 % 18446744073709551616 := ⟨_, rfl⟩
  obtain ⟨l, hl⟩ : ∃ l : Int, l = sa * sb % 18446744073709551616 := ⟨_, rfl⟩
  have hw := highW (bounds_i64 wsa) (bounds_i64 wsb)
  have lw : mulLo sa sb = wrap64 l := by unfold mulLo; rw [lowW, hl]
  rw [← hh] at hw
  have wA := widSx a 8 sa (fun w => by rw [hsa]; exact si a X ha hX w)
  have wB := widSx b 8 sb (fun w => by rw [hsb]; exact si b Y hb hY w)
  have wT := timesX (sa / 9223372036854775808) sa (sb / 9223372036854775808) sb _ _ (implMulWide sa sb)
  rw [hw, lw] at wT
  have pr := fun w => specProdS sa sb w wsa wsb
  rw [← hh, ← hl] at pr
  have l0 : 0 ≤ l ∧ l < 18446744073709551616 := by rw [hl]; omega
  obtain ⟨XL, eL⟩ := natU (wrap64 l)
  have wL := widUx (wrap64 l) 8 _ (un (wrap64 l) XL eL)
  obtain ⟨X2, e2⟩ := natU (wrap64 h)
  have wU := widUx (wrap64 h) 8 _ (un (wrap64 h) X2 e2)
  rw [hi8 e2] at wU
  have wH := halvesX8 (wrap64 h) (wrap64 l) _ _ _ _ wL wU
  have wF := fitsX (wrap64 h) (wrap64 l) 8 _ _ true (widSx (wrap64 l) 8 _ (si (wrap64 l) XL (wrap64_wf _) eL))
  obtain ⟨Xh, eh⟩ := natU (wrap64 h)
  obtain ⟨Xl, el⟩ := natU (wrap64 ((XL % 2 ^ (8 * 8) : Nat) : Int))
  have hm : (wrap64 (sgnU Xh 8 : Int) != wrap64 (sgnU Xl 8 : Int) / 9223372036854775808) = !(wrap64 h == wrap64 (sgnU XL 8 : Int) / 9223372036854775808 && wrap64 l == wrap64 (sgnU XL 8 : Int)) := by
    rw [eqS8 (wrap64_wf _) eh, eqS8 (wrap64_wf _) el, eqS8 (wrap64_wf _) eL, hi8 eL]
    cases hq : (wrap64 h == wrap64 l / 9223372036854775808) <;> simp [bne, hq]
  have sp := mulS17_8 a b (flV c p zf sf o) xa xb sa sb h l _ 0 _ _ _ hm (fun w => by rw [hxa]; exact zr a X hX w) (fun w => by rw [hxb]; exact zr b Y hY w) (fun w => by rw [hsa]; exact sr a X hX w) (fun w => by rw [hsb]; exact sr b Y hY w) pr (zr _ XL eL) (sr _ Xh eh) (sr _ Xl el)
  have im := mulI17 8 a b (flV c p zf sf o) _ _ _ _ _ _ _ _ _ hn (flagsYesI c p zf sf o) wA wB wT wH wF
  rw [wCar_eq] at im
  rw [keep_both] at sp
  exact ⟨_, _, _, im, MulSYes 17 8 a b _ _ _ c p zf sf o (by omega) hn (Lib.hid sp)⟩
end Go.Proofs.YtbcbepdfijcbmaaDoor
