/-
  Multiply: both answer alike, the product's halves told; conditions: those in each head.
-/
import Derived.Test.YtbcbepdfijcbmaaDoorWalkMx
namespace Go.Proofs.YtbcbepdfijcbmaaDoor
open Go.RowKit
set_option linter.unusedVariables false
theorem toldU8 {P h l : Int} {XL : Nat} (h0 : 0 ≤ P) (hh : h = P / 18446744073709551616) (hl : l = P % 18446744073709551616) (eL : IntKind.u64.wrap (wrap64 l) = (XL : Int)) :
    wrap64 ((XL % 2 ^ (8 * 8) : Nat) : Int) = wrap64 (P % 18446744073709551616) ∧ wrap64 h = wrap64 (P / 18446744073709551616 % 18446744073709551616) := by
  rw [wrapU] at eL
  rw [show (2 : Nat) ^ (8 * 8) = 18446744073709551616 from rfl]
  unfold wrap64 at *; omega
theorem toldS8 {P h l : Int} {XL : Nat} (hh : h = P / 18446744073709551616 % 18446744073709551616) (hl : l = P % 18446744073709551616) (eL : IntKind.u64.wrap (wrap64 l) = (XL : Int)) :
    wrap64 ((XL % 2 ^ (8 * 8) : Nat) : Int) = wrap64 (P % 18446744073709551616) ∧ wrap64 h = wrap64 (P / 18446744073709551616 % 18446744073709551616) := by
  rw [wrapU] at eL
  rw [show (2 : Nat) ^ (8 * 8) = 18446744073709551616 from rfl]
  unfold wrap64 at *; omega
theorem toldN1 {P l : Int} {XL X3 : Nat} (hl : l = P % 18446744073709551616) (eL : IntKind.u64.wrap (wrap64 l) = (XL : Int)) (e3 : IntKind.u64.wrap (wrap64 (l / 256)) = (X3 : Int)) :
    wrap64 ((XL % 2 ^ (8 * 1) : Nat) : Int) = wrap64 (P % 256) ∧ wrap64 ((X3 % 2 ^ (8 * 1) : Nat) : Int) = wrap64 (P / 256 % 256) := by
  rw [wrapU] at eL e3
  rw [show (2 : Nat) ^ (8 * 1) = 256 from rfl]
  unfold wrap64 at *; omega
theorem toldN2 {P l : Int} {XL X3 : Nat} (hl : l = P % 18446744073709551616) (eL : IntKind.u64.wrap (wrap64 l) = (XL : Int)) (e3 : IntKind.u64.wrap (wrap64 (l / 65536)) = (X3 : Int)) :
    wrap64 ((XL % 2 ^ (8 * 2) : Nat) : Int) = wrap64 (P % 65536) ∧ wrap64 ((X3 % 2 ^ (8 * 2) : Nat) : Int) = wrap64 (P / 65536 % 65536) := by
  rw [wrapU] at eL e3
  rw [show (2 : Nat) ^ (8 * 2) = 65536 from rfl]
  unfold wrap64 at *; omega
theorem toldN4 {P l : Int} {XL X3 : Nat} (hl : l = P % 18446744073709551616) (eL : IntKind.u64.wrap (wrap64 l) = (XL : Int)) (e3 : IntKind.u64.wrap (wrap64 (l / 4294967296)) = (X3 : Int)) :
    wrap64 ((XL % 2 ^ (8 * 4) : Nat) : Int) = wrap64 (P % 4294967296) ∧ wrap64 ((X3 % 2 ^ (8 * 4) : Nat) : Int) = wrap64 (P / 4294967296 % 4294967296) := by
  rw [wrapU] at eL e3
  rw [show (2 : Nat) ^ (8 * 4) = 4294967296 from rfl]
  unfold wrap64 at *; omega
theorem mulP13_1 (a b : Int) (c p zf sf o : Bool) : ∃ lo hi g, (∀ w, Calls Tryd.prog 26 #[.int .i64 13, .int .i64 1, .int .i64 a, .int .i64 b, .int .i64 (flV c p zf sf o)] w fun e w' => e = .returned (.tuple #[.int .i64 lo, .int .i64 hi, .int .i64 g, .int .i64 0]) ∧ Below w.heap.size w w') ∧
    (∀ w, Calls Tryd.prog 27 #[.int .i64 13, .int .i64 1, .int .i64 a, .int .i64 b, .int .i64 (flV c p zf sf o)] w fun e w' => e = .returned (.tuple #[.int .i64 lo, .int .i64 hi, .int .i64 g, .int .i64 0]) ∧ w = w') ∧ lo = wrap64 (a % 256 * (b % 256) % 256) ∧ hi = wrap64 (a % 256 * (b % 256) / 256 % 256) := by
  obtain ⟨X, hX⟩ := natU a
  obtain ⟨Y, hY⟩ := natU b
  have hn : okSize (1 : Int) := by unfold okSize; omega
  have un (v : Int) (V : Nat) (hV : IntKind.u64.wrap v = (V : Int)) (w : World) : Calls Tryd.prog 46 #[.int .i64 v, .int .i64 1] w fun e w' => e = .returned (.tuple #[.int .i64 (wrap64 ((V % 2 ^ (8 * 1) : Nat) : Int)), .nilIface]) ∧ w = w' := by
    rw [eqZ1 hV]; exact unsigned1 v w
  have zr (v : Int) (V : Nat) (hV : IntKind.u64.wrap v = (V : Int)) (w : World) := specZeroL v V 1 w hV (by decide) (by decide)
  obtain ⟨xa, hxa⟩ : ∃ xa : Int, xa = wrap64 ((X % 2 ^ (8 * 1) : Nat) : Int) := ⟨_, rfl⟩
  obtain ⟨xb, hxb⟩ : ∃ xb : Int, xb = wrap64 ((Y % 2 ^ (8 * 1) : Nat) : Int) := ⟨_, rfl⟩
  obtain ⟨h, hh⟩ : ∃ h : Int, h = hiW (IntKind.u64.wrap xa) (IntKind.u64.wrap xb) := ⟨_, rfl⟩
  obtain ⟨l, hl⟩ : ∃ l : Int, l = loW (IntKind.u64.wrap xa) (IntKind.u64.wrap xb) := ⟨_, rfl⟩
  have lw : mulLo xa xb = wrap64 l := by unfold mulLo; rw [hl]
  have hw : mulHi xa xb = wrap64 h := by unfold mulHi; rw [hh]
  have wA := widUx a 1 xa (fun w => by rw [hxa]; exact un a X hX w)
  have wB := widUx b 1 xb (fun w => by rw [hxb]; exact un b Y hY w)
  have wT := timesX 0 xa 0 xb _ _ (implMulWide xa xb)
  rw [hw, zeroW, lw] at wT
  have pr := fun w => specProdU xa xb w
  rw [← hh, ← hl] at pr
  have l0 : 0 ≤ l ∧ l < 18446744073709551616 := by rw [hl]; unfold loW; omega
  obtain ⟨XL, eL⟩ := natU (wrap64 l)
  have wL := widUx (wrap64 l) 1 _ (un (wrap64 l) XL eL)
  obtain ⟨X2, e2⟩ := natU (wrap64 l / 256)
  obtain ⟨X3, e3⟩ := natU (wrap64 (l / 256))
  have wU := widUx (wrap64 l / 256) 1 _ (un (wrap64 l / 256) X2 e2)
  rw [hi1 l0.1 l0.2 e2 e3] at wU
  have wH := halvesX1 (wrap64 h) (wrap64 l) _ _ _ _ wL wU
  have wF := fitsX (wrap64 h) (wrap64 l) 1 _ _ false wL
  have hm : (wrap64 ((X3 % 2 ^ (8 * 1) : Nat) : Int) != 0) = !(wrap64 h == 0 && wrap64 l == wrap64 ((XL % 2 ^ (8 * 1) : Nat) : Int)) := by
    have ux := uns_lt (K := 256) (by decide) (by decide) (show xa = wrap64 ((X % 256 : Nat) : Int) from hxa)
    have uy := uns_lt (K := 256) (by decide) (by decide) (show xb = wrap64 ((Y % 256 : Nat) : Int) from hxb)
    have pb := prod_lt (Nat.mod_lt X (show 0 < 256 by decide)) (Nat.mod_lt Y (show 0 < 256 by decide))
    unfold hiW at hh; unfold loW at hl
    rw [ux, uy] at hh hl
    rw [hl] at e3 eL
    rw [hh, hl]
    exact moreU1 pb.1 (by have := pb.2; omega) e3 eL
  have sp := mulS13_1 a b (flV c p zf sf o) xa xb 0 0 h l _ _ 0 0 _ hm (fun w => by rw [hxa]; exact zr a X hX w) (fun w => by rw [hxb]; exact zr b Y hY w) pr (zr _ XL eL) (zr _ X3 e3)
  have im := mulI13 1 a b (flV c p zf sf o) _ _ _ _ _ _ _ _ _ hn (flagsYesI c p zf sf o) wA wB wT wH wF
  have told : wrap64 ((XL % 2 ^ (8 * 1) : Nat) : Int) = wrap64 (a % 256 * (b % 256) % 256) ∧ wrap64 ((X3 % 2 ^ (8 * 1) : Nat) : Int) = wrap64 (a % 256 * (b % 256) / 256 % 256) := by
    have ux := uns_lt (K := 256) (by decide) (by decide) (show xa = wrap64 ((X % 256 : Nat) : Int) from hxa)
    have uy := uns_lt (K := 256) (by decide) (by decide) (show xb = wrap64 ((Y % 256 : Nat) : Int) from hxb)
    have ea : ((X % 256 : Nat) : Int) = a % 256 := by clear hxa hxb hh hl; rw [wrapU] at hX; omega
    have eb : ((Y % 256 : Nat) : Int) = b % 256 := by clear hxa hxb hh hl; rw [wrapU] at hY; omega
    have p0 := (prod_lt (Nat.mod_lt X (show 0 < 256 by decide)) (Nat.mod_lt Y (show 0 < 256 by decide))).1
    unfold hiW at hh; unfold loW at hl
    rw [ux, uy, ea, eb] at hh hl
    rw [ea, eb] at p0
    exact toldN1 hl eL e3
  rw [wCar_eq] at im
  rw [keep_both] at sp
  exact ⟨_, _, _, im, MulSYes 13 1 a b _ _ _ c p zf sf o (by omega) hn (Lib.hid sp), told.1, told.2⟩
theorem mulP13_2 (a b : Int) (c p zf sf o : Bool) : ∃ lo hi g, (∀ w, Calls Tryd.prog 26 #[.int .i64 13, .int .i64 2, .int .i64 a, .int .i64 b, .int .i64 (flV c p zf sf o)] w fun e w' => e = .returned (.tuple #[.int .i64 lo, .int .i64 hi, .int .i64 g, .int .i64 0]) ∧ Below w.heap.size w w') ∧
    (∀ w, Calls Tryd.prog 27 #[.int .i64 13, .int .i64 2, .int .i64 a, .int .i64 b, .int .i64 (flV c p zf sf o)] w fun e w' => e = .returned (.tuple #[.int .i64 lo, .int .i64 hi, .int .i64 g, .int .i64 0]) ∧ w = w') ∧ lo = wrap64 (a % 65536 * (b % 65536) % 65536) ∧ hi = wrap64 (a % 65536 * (b % 65536) / 65536 % 65536) := by
  obtain ⟨X, hX⟩ := natU a
  obtain ⟨Y, hY⟩ := natU b
  have hn : okSize (2 : Int) := by unfold okSize; omega
  have un (v : Int) (V : Nat) (hV : IntKind.u64.wrap v = (V : Int)) (w : World) : Calls Tryd.prog 46 #[.int .i64 v, .int .i64 2] w fun e w' => e = .returned (.tuple #[.int .i64 (wrap64 ((V % 2 ^ (8 * 2) : Nat) : Int)), .nilIface]) ∧ w = w' := by
    rw [eqZ2 hV]; exact unsigned2 v w
  have zr (v : Int) (V : Nat) (hV : IntKind.u64.wrap v = (V : Int)) (w : World) := specZeroL v V 2 w hV (by decide) (by decide)
  obtain ⟨xa, hxa⟩ : ∃ xa : Int, xa = wrap64 ((X % 2 ^ (8 * 2) : Nat) : Int) := ⟨_, rfl⟩
  obtain ⟨xb, hxb⟩ : ∃ xb : Int, xb = wrap64 ((Y % 2 ^ (8 * 2) : Nat) : Int) := ⟨_, rfl⟩
  obtain ⟨h, hh⟩ : ∃ h : Int, h = hiW (IntKind.u64.wrap xa) (IntKind.u64.wrap xb) := ⟨_, rfl⟩
  obtain ⟨l, hl⟩ : ∃ l : Int, l = loW (IntKind.u64.wrap xa) (IntKind.u64.wrap xb) := ⟨_, rfl⟩
  have lw : mulLo xa xb = wrap64 l := by unfold mulLo; rw [hl]
  have hw : mulHi xa xb = wrap64 h := by unfold mulHi; rw [hh]
  have wA := widUx a 2 xa (fun w => by rw [hxa]; exact un a X hX w)
  have wB := widUx b 2 xb (fun w => by rw [hxb]; exact un b Y hY w)
  have wT := timesX 0 xa 0 xb _ _ (implMulWide xa xb)
  rw [hw, zeroW, lw] at wT
  have pr := fun w => specProdU xa xb w
  rw [← hh, ← hl] at pr
  have l0 : 0 ≤ l ∧ l < 18446744073709551616 := by rw [hl]; unfold loW; omega
  obtain ⟨XL, eL⟩ := natU (wrap64 l)
  have wL := widUx (wrap64 l) 2 _ (un (wrap64 l) XL eL)
  obtain ⟨X2, e2⟩ := natU (wrap64 l / 65536)
  obtain ⟨X3, e3⟩ := natU (wrap64 (l / 65536))
  have wU := widUx (wrap64 l / 65536) 2 _ (un (wrap64 l / 65536) X2 e2)
  rw [hi2 l0.1 l0.2 e2 e3] at wU
  have wH := halvesX2 (wrap64 h) (wrap64 l) _ _ _ _ wL wU
  have wF := fitsX (wrap64 h) (wrap64 l) 2 _ _ false wL
  have hm : (wrap64 ((X3 % 2 ^ (8 * 2) : Nat) : Int) != 0) = !(wrap64 h == 0 && wrap64 l == wrap64 ((XL % 2 ^ (8 * 2) : Nat) : Int)) := by
    have ux := uns_lt (K := 65536) (by decide) (by decide) (show xa = wrap64 ((X % 65536 : Nat) : Int) from hxa)
    have uy := uns_lt (K := 65536) (by decide) (by decide) (show xb = wrap64 ((Y % 65536 : Nat) : Int) from hxb)
    have pb := prod_lt (Nat.mod_lt X (show 0 < 65536 by decide)) (Nat.mod_lt Y (show 0 < 65536 by decide))
    unfold hiW at hh; unfold loW at hl
    rw [ux, uy] at hh hl
    rw [hl] at e3 eL
    rw [hh, hl]
    exact moreU2 pb.1 (by have := pb.2; omega) e3 eL
  have sp := mulS13_2 a b (flV c p zf sf o) xa xb 0 0 h l _ _ 0 0 _ hm (fun w => by rw [hxa]; exact zr a X hX w) (fun w => by rw [hxb]; exact zr b Y hY w) pr (zr _ XL eL) (zr _ X3 e3)
  have im := mulI13 2 a b (flV c p zf sf o) _ _ _ _ _ _ _ _ _ hn (flagsYesI c p zf sf o) wA wB wT wH wF
  have told : wrap64 ((XL % 2 ^ (8 * 2) : Nat) : Int) = wrap64 (a % 65536 * (b % 65536) % 65536) ∧ wrap64 ((X3 % 2 ^ (8 * 2) : Nat) : Int) = wrap64 (a % 65536 * (b % 65536) / 65536 % 65536) := by
    have ux := uns_lt (K := 65536) (by decide) (by decide) (show xa = wrap64 ((X % 65536 : Nat) : Int) from hxa)
    have uy := uns_lt (K := 65536) (by decide) (by decide) (show xb = wrap64 ((Y % 65536 : Nat) : Int) from hxb)
    have ea : ((X % 65536 : Nat) : Int) = a % 65536 := by clear hxa hxb hh hl; rw [wrapU] at hX; omega
    have eb : ((Y % 65536 : Nat) : Int) = b % 65536 := by clear hxa hxb hh hl; rw [wrapU] at hY; omega
    have p0 := (prod_lt (Nat.mod_lt X (show 0 < 65536 by decide)) (Nat.mod_lt Y (show 0 < 65536 by decide))).1
    unfold hiW at hh; unfold loW at hl
    rw [ux, uy, ea, eb] at hh hl
    rw [ea, eb] at p0
    exact toldN2 hl eL e3
  rw [wCar_eq] at im
  rw [keep_both] at sp
  exact ⟨_, _, _, im, MulSYes 13 2 a b _ _ _ c p zf sf o (by omega) hn (Lib.hid sp), told.1, told.2⟩
theorem mulP13_4 (a b : Int) (c p zf sf o : Bool) : ∃ lo hi g, (∀ w, Calls Tryd.prog 26 #[.int .i64 13, .int .i64 4, .int .i64 a, .int .i64 b, .int .i64 (flV c p zf sf o)] w fun e w' => e = .returned (.tuple #[.int .i64 lo, .int .i64 hi, .int .i64 g, .int .i64 0]) ∧ Below w.heap.size w w') ∧
    (∀ w, Calls Tryd.prog 27 #[.int .i64 13, .int .i64 4, .int .i64 a, .int .i64 b, .int .i64 (flV c p zf sf o)] w fun e w' => e = .returned (.tuple #[.int .i64 lo, .int .i64 hi, .int .i64 g, .int .i64 0]) ∧ w = w') ∧ lo = wrap64 (a % 4294967296 * (b % 4294967296) % 4294967296) ∧ hi = wrap64 (a % 4294967296 * (b % 4294967296) / 4294967296 % 4294967296) := by
  obtain ⟨X, hX⟩ := natU a
  obtain ⟨Y, hY⟩ := natU b
  have hn : okSize (4 : Int) := by unfold okSize; omega
  have un (v : Int) (V : Nat) (hV : IntKind.u64.wrap v = (V : Int)) (w : World) : Calls Tryd.prog 46 #[.int .i64 v, .int .i64 4] w fun e w' => e = .returned (.tuple #[.int .i64 (wrap64 ((V % 2 ^ (8 * 4) : Nat) : Int)), .nilIface]) ∧ w = w' := by
    rw [eqZ4 hV]; exact unsigned4 v w
  have zr (v : Int) (V : Nat) (hV : IntKind.u64.wrap v = (V : Int)) (w : World) := specZeroL v V 4 w hV (by decide) (by decide)
  obtain ⟨xa, hxa⟩ : ∃ xa : Int, xa = wrap64 ((X % 2 ^ (8 * 4) : Nat) : Int) := ⟨_, rfl⟩
  obtain ⟨xb, hxb⟩ : ∃ xb : Int, xb = wrap64 ((Y % 2 ^ (8 * 4) : Nat) : Int) := ⟨_, rfl⟩
  obtain ⟨h, hh⟩ : ∃ h : Int, h = hiW (IntKind.u64.wrap xa) (IntKind.u64.wrap xb) := ⟨_, rfl⟩
  obtain ⟨l, hl⟩ : ∃ l : Int, l = loW (IntKind.u64.wrap xa) (IntKind.u64.wrap xb) := ⟨_, rfl⟩
  have lw : mulLo xa xb = wrap64 l := by unfold mulLo; rw [hl]
  have hw : mulHi xa xb = wrap64 h := by unfold mulHi; rw [hh]
  have wA := widUx a 4 xa (fun w => by rw [hxa]; exact un a X hX w)
  have wB := widUx b 4 xb (fun w => by rw [hxb]; exact un b Y hY w)
  have wT := timesX 0 xa 0 xb _ _ (implMulWide xa xb)
  rw [hw, zeroW, lw] at wT
  have pr := fun w => specProdU xa xb w
  rw [← hh, ← hl] at pr
  have l0 : 0 ≤ l ∧ l < 18446744073709551616 := by rw [hl]; unfold loW; omega
  obtain ⟨XL, eL⟩ := natU (wrap64 l)
  have wL := widUx (wrap64 l) 4 _ (un (wrap64 l) XL eL)
  obtain ⟨X2, e2⟩ := natU (wrap64 l / 4294967296)
  obtain ⟨X3, e3⟩ := natU (wrap64 (l / 4294967296))
  have wU := widUx (wrap64 l / 4294967296) 4 _ (un (wrap64 l / 4294967296) X2 e2)
  rw [hi4 l0.1 l0.2 e2 e3] at wU
  have wH := halvesX4 (wrap64 h) (wrap64 l) _ _ _ _ wL wU
  have wF := fitsX (wrap64 h) (wrap64 l) 4 _ _ false wL
  have hm : (wrap64 ((X3 % 2 ^ (8 * 4) : Nat) : Int) != 0) = !(wrap64 h == 0 && wrap64 l == wrap64 ((XL % 2 ^ (8 * 4) : Nat) : Int)) := by
    have ux := uns_lt (K := 4294967296) (by decide) (by decide) (show xa = wrap64 ((X % 4294967296 : Nat) : Int) from hxa)
    have uy := uns_lt (K := 4294967296) (by decide) (by decide) (show xb = wrap64 ((Y % 4294967296 : Nat) : Int) from hxb)
    have pb := prod_lt (Nat.mod_lt X (show 0 < 4294967296 by decide)) (Nat.mod_lt Y (show 0 < 4294967296 by decide))
    unfold hiW at hh; unfold loW at hl
    rw [ux, uy] at hh hl
    rw [hl] at e3 eL
    rw [hh, hl]
    exact moreU4 pb.1 (by have := pb.2; omega) e3 eL
  have sp := mulS13_4 a b (flV c p zf sf o) xa xb 0 0 h l _ _ 0 0 _ hm (fun w => by rw [hxa]; exact zr a X hX w) (fun w => by rw [hxb]; exact zr b Y hY w) pr (zr _ XL eL) (zr _ X3 e3)
  have im := mulI13 4 a b (flV c p zf sf o) _ _ _ _ _ _ _ _ _ hn (flagsYesI c p zf sf o) wA wB wT wH wF
  have told : wrap64 ((XL % 2 ^ (8 * 4) : Nat) : Int) = wrap64 (a % 4294967296 * (b % 4294967296) % 4294967296) ∧ wrap64 ((X3 % 2 ^ (8 * 4) : Nat) : Int) = wrap64 (a % 4294967296 * (b % 4294967296) / 4294967296 % 4294967296) := by
    have ux := uns_lt (K := 4294967296) (by decide) (by decide) (show xa = wrap64 ((X % 4294967296 : Nat) : Int) from hxa)
    have uy := uns_lt (K := 4294967296) (by decide) (by decide) (show xb = wrap64 ((Y % 4294967296 : Nat) : Int) from hxb)
    have ea : ((X % 4294967296 : Nat) : Int) = a % 4294967296 := by clear hxa hxb hh hl; rw [wrapU] at hX; omega
    have eb : ((Y % 4294967296 : Nat) : Int) = b % 4294967296 := by clear hxa hxb hh hl; rw [wrapU] at hY; omega
    have p0 := (prod_lt (Nat.mod_lt X (show 0 < 4294967296 by decide)) (Nat.mod_lt Y (show 0 < 4294967296 by decide))).1
    unfold hiW at hh; unfold loW at hl
    rw [ux, uy, ea, eb] at hh hl
    rw [ea, eb] at p0
    exact toldN4 hl eL e3
  rw [wCar_eq] at im
  rw [keep_both] at sp
  exact ⟨_, _, _, im, MulSYes 13 4 a b _ _ _ c p zf sf o (by omega) hn (Lib.hid sp), told.1, told.2⟩
theorem mulP13_8 (a b : Int) (c p zf sf o : Bool) : ∃ lo hi g, (∀ w, Calls Tryd.prog 26 #[.int .i64 13, .int .i64 8, .int .i64 a, .int .i64 b, .int .i64 (flV c p zf sf o)] w fun e w' => e = .returned (.tuple #[.int .i64 lo, .int .i64 hi, .int .i64 g, .int .i64 0]) ∧ Below w.heap.size w w') ∧
    (∀ w, Calls Tryd.prog 27 #[.int .i64 13, .int .i64 8, .int .i64 a, .int .i64 b, .int .i64 (flV c p zf sf o)] w fun e w' => e = .returned (.tuple #[.int .i64 lo, .int .i64 hi, .int .i64 g, .int .i64 0]) ∧ w = w') ∧ lo = wrap64 (a % 18446744073709551616 * (b % 18446744073709551616) % 18446744073709551616) ∧ hi = wrap64 (a % 18446744073709551616 * (b % 18446744073709551616) / 18446744073709551616 % 18446744073709551616) := by
  obtain ⟨X, hX⟩ := natU a
  obtain ⟨Y, hY⟩ := natU b
  have hn : okSize (8 : Int) := by unfold okSize; omega
  have un (v : Int) (V : Nat) (hV : IntKind.u64.wrap v = (V : Int)) (w : World) : Calls Tryd.prog 46 #[.int .i64 v, .int .i64 8] w fun e w' => e = .returned (.tuple #[.int .i64 (wrap64 ((V % 2 ^ (8 * 8) : Nat) : Int)), .nilIface]) ∧ w = w' := by
    rw [eqZ8 hV]; exact unsigned8 v w
  have zr (v : Int) (V : Nat) (hV : IntKind.u64.wrap v = (V : Int)) (w : World) := specZeroL v V 8 w hV (by decide) (by decide)
  obtain ⟨xa, hxa⟩ : ∃ xa : Int, xa = wrap64 ((X % 2 ^ (8 * 8) : Nat) : Int) := ⟨_, rfl⟩
  obtain ⟨xb, hxb⟩ : ∃ xb : Int, xb = wrap64 ((Y % 2 ^ (8 * 8) : Nat) : Int) := ⟨_, rfl⟩
  obtain ⟨h, hh⟩ : ∃ h : Int, h = hiW (IntKind.u64.wrap xa) (IntKind.u64.wrap xb) := ⟨_, rfl⟩
  obtain ⟨l, hl⟩ : ∃ l : Int, l = loW (IntKind.u64.wrap xa) (IntKind.u64.wrap xb) := ⟨_, rfl⟩
  have lw : mulLo xa xb = wrap64 l := by unfold mulLo; rw [hl]
  have hw : mulHi xa xb = wrap64 h := by unfold mulHi; rw [hh]
  have wA := widUx a 8 xa (fun w => by rw [hxa]; exact un a X hX w)
  have wB := widUx b 8 xb (fun w => by rw [hxb]; exact un b Y hY w)
  have wT := timesX 0 xa 0 xb _ _ (implMulWide xa xb)
  rw [hw, zeroW, lw] at wT
  have pr := fun w => specProdU xa xb w
  rw [← hh, ← hl] at pr
  have l0 : 0 ≤ l ∧ l < 18446744073709551616 := by rw [hl]; unfold loW; omega
  obtain ⟨XL, eL⟩ := natU (wrap64 l)
  have wL := widUx (wrap64 l) 8 _ (un (wrap64 l) XL eL)
  obtain ⟨X2, e2⟩ := natU (wrap64 h)
  have wU := widUx (wrap64 h) 8 _ (un (wrap64 h) X2 e2)
  rw [hi8 e2] at wU
  have wH := halvesX8 (wrap64 h) (wrap64 l) _ _ _ _ wL wU
  have wF := fitsX (wrap64 h) (wrap64 l) 8 _ _ false wL
  have hm : (wrap64 h != 0) = !(wrap64 h == 0 && wrap64 l == wrap64 ((XL % 2 ^ (8 * 8) : Nat) : Int)) := by
    rw [hi8 eL]
    cases hq : (wrap64 h == 0) <;> simp [bne, hq]
  have sp := mulS13_8 a b (flV c p zf sf o) xa xb 0 0 h l _ 0 0 0 _ hm (fun w => by rw [hxa]; exact zr a X hX w) (fun w => by rw [hxb]; exact zr b Y hY w) pr (zr _ XL eL)
  have im := mulI13 8 a b (flV c p zf sf o) _ _ _ _ _ _ _ _ _ hn (flagsYesI c p zf sf o) wA wB wT wH wF
  have told : wrap64 ((XL % 2 ^ (8 * 8) : Nat) : Int) = wrap64 (a % 18446744073709551616 * (b % 18446744073709551616) % 18446744073709551616) ∧ wrap64 h = wrap64 (a % 18446744073709551616 * (b % 18446744073709551616) / 18446744073709551616 % 18446744073709551616) := by
    have ux := uns_lt (K := 18446744073709551616) (by decide) (by decide) (show xa = wrap64 ((X % 18446744073709551616 : Nat) : Int) from hxa)
    have uy := uns_lt (K := 18446744073709551616) (by decide) (by decide) (show xb = wrap64 ((Y % 18446744073709551616 : Nat) : Int) from hxb)
    have ea : ((X % 18446744073709551616 : Nat) : Int) = a % 18446744073709551616 := by clear hxa hxb hh hl; rw [wrapU] at hX; omega
    have eb : ((Y % 18446744073709551616 : Nat) : Int) = b % 18446744073709551616 := by clear hxa hxb hh hl; rw [wrapU] at hY; omega
    have p0 := (prod_lt (Nat.mod_lt X (show 0 < 18446744073709551616 by decide)) (Nat.mod_lt Y (show 0 < 18446744073709551616 by decide))).1
    unfold hiW at hh; unfold loW at hl
    rw [ux, uy, ea, eb] at hh hl
    rw [ea, eb] at p0
    exact toldU8 p0 hh hl eL
  rw [wCar_eq] at im
  rw [keep_both] at sp
  exact ⟨_, _, _, im, MulSYes 13 8 a b _ _ _ c p zf sf o (by omega) hn (Lib.hid sp), told.1, told.2⟩
theorem mulP14_1 (a b : Int) (c p zf sf o : Bool) (ha : (Lit.int .i64 a).wf = true) (hb : (Lit.int .i64 b).wf = true) : ∃ lo hi g, (∀ w, Calls Tryd.prog 26 #[.int .i64 14, .int .i64 1, .int .i64 a, .int .i64 b, .int .i64 (flV c p zf sf o)] w fun e w' => e = .returned (.tuple #[.int .i64 lo, .int .i64 hi, .int .i64 g, .int .i64 0]) ∧ Below w.heap.size w w') ∧
    (∀ w, Calls Tryd.prog 27 #[.int .i64 14, .int .i64 1, .int .i64 a, .int .i64 b, .int .i64 (flV c p zf sf o)] w fun e w' => e = .returned (.tuple #[.int .i64 lo, .int .i64 hi, .int .i64 g, .int .i64 0]) ∧ w = w') ∧ lo = wrap64 (Int.bmod a 256 * Int.bmod b 256 % 256) ∧ hi = wrap64 (Int.bmod a 256 * Int.bmod b 256 / 256 % 256) := by
  obtain ⟨X, hX⟩ := natU a
  obtain ⟨Y, hY⟩ := natU b
  have hn : okSize (1 : Int) := by unfold okSize; omega
  have un (v : Int) (V : Nat) (hV : IntKind.u64.wrap v = (V : Int)) (w : World) : Calls Tryd.prog 46 #[.int .i64 v, .int .i64 1] w fun e w' => e = .returned (.tuple #[.int .i64 (wrap64 ((V % 2 ^ (8 * 1) : Nat) : Int)), .nilIface]) ∧ w = w' := by
    rw [eqZ1 hV]; exact unsigned1 v w
  have zr (v : Int) (V : Nat) (hV : IntKind.u64.wrap v = (V : Int)) (w : World) := specZeroL v V 1 w hV (by decide) (by decide)
  obtain ⟨xa, hxa⟩ : ∃ xa : Int, xa = wrap64 ((X % 2 ^ (8 * 1) : Nat) : Int) := ⟨_, rfl⟩
  obtain ⟨xb, hxb⟩ : ∃ xb : Int, xb = wrap64 ((Y % 2 ^ (8 * 1) : Nat) : Int) := ⟨_, rfl⟩
  have si (v : Int) (V : Nat) (hv : (Lit.int .i64 v).wf = true) (hV : IntKind.u64.wrap v = (V : Int)) (w : World) : Calls Tryd.prog 85 #[.int .i64 v, .int .i64 1] w fun e w' => e = .returned (.tuple #[.int .i64 (wrap64 (sgnU V 1 : Int)), .nilIface]) ∧ w = w' := by
    rw [eqS1 hV]; exact signed1 v w
  have sr (v : Int) (V : Nat) (hV : IntKind.u64.wrap v = (V : Int)) (w : World) := specSignL v V 1 w hV (by decide) (by decide)
  obtain ⟨sa, hsa⟩ : ∃ sa : Int, sa = wrap64 (sgnU X 1 : Int) := ⟨_, rfl⟩
  obtain ⟨sb, hsb⟩ : ∃ sb : Int, sb = wrap64 (sgnU Y 1 : Int) := ⟨_, rfl⟩
  have wsa : (Lit.int .i64 sa).wf = true := by rw [hsa]; exact wrap64_wf _
  have wsb : (Lit.int .i64 sb).wf = true := by rw [hsb]; exact wrap64_wf _
  obtain ⟨h, hh⟩ : ∃ h : Int, h = sa * sb / 18446744073709551616 % 18446744073709551616 := ⟨_, rfl⟩
  obtain ⟨l, hl⟩ : ∃ l : Int, l = sa * sb % 18446744073709551616 := ⟨_, rfl⟩
  have hw := highW (bounds_i64 wsa) (bounds_i64 wsb)
  have lw : mulLo sa sb = wrap64 l := by unfold mulLo; rw [lowW, hl]
  rw [← hh] at hw
  have wA := widSx a 1 sa (fun w => by rw [hsa]; exact si a X ha hX w)
  have wB := widSx b 1 sb (fun w => by rw [hsb]; exact si b Y hb hY w)
  have wT := timesX (sa / 9223372036854775808) sa (sb / 9223372036854775808) sb _ _ (implMulWide sa sb)
  rw [hw, lw] at wT
  have pr := fun w => specProdS sa sb w wsa wsb
  rw [← hh, ← hl] at pr
  have l0 : 0 ≤ l ∧ l < 18446744073709551616 := by rw [hl]; omega
  obtain ⟨XL, eL⟩ := natU (wrap64 l)
  have wL := widUx (wrap64 l) 1 _ (un (wrap64 l) XL eL)
  obtain ⟨X2, e2⟩ := natU (wrap64 l / 256)
  obtain ⟨X3, e3⟩ := natU (wrap64 (l / 256))
  have wU := widUx (wrap64 l / 256) 1 _ (un (wrap64 l / 256) X2 e2)
  rw [hi1 l0.1 l0.2 e2 e3] at wU
  have wH := halvesX1 (wrap64 h) (wrap64 l) _ _ _ _ wL wU
  have wF := fitsX (wrap64 h) (wrap64 l) 1 _ _ true (widSx (wrap64 l) 1 _ (si (wrap64 l) XL (wrap64_wf _) eL))
  obtain ⟨Xh, eh⟩ := natU (wrap64 ((X3 % 2 ^ (8 * 1) : Nat) : Int))
  obtain ⟨Xl, el⟩ := natU (wrap64 ((XL % 2 ^ (8 * 1) : Nat) : Int))
  have hm : (wrap64 (sgnU Xh 1 : Int) != wrap64 (sgnU Xl 1 : Int) / 9223372036854775808) = !(wrap64 h == wrap64 (sgnU XL 1 : Int) / 9223372036854775808 && wrap64 l == wrap64 (sgnU XL 1 : Int)) := by
    rw [hh, hl] at *
    have bx : -128 ≤ sa ∧ sa ≤ 128 := by rw [hsa, sgn_int X 1 (by decide), show ((2 ^ (8 * 1) : Nat)) = 256 from rfl, Int.bmod_def]; split <;> omega
    have by' : -128 ≤ sb ∧ sb ≤ 128 := by rw [hsb, sgn_int Y 1 (by decide), show ((2 ^ (8 * 1) : Nat)) = 256 from rfl, Int.bmod_def]; split <;> omega
    have pb := prodS_le bx by'
    exact moreS1 (by omega) (by omega) e3 eL eh el
  have sp := mulS14_1 a b (flV c p zf sf o) xa xb sa sb h l _ _ _ _ _ hm (fun w => by rw [hxa]; exact zr a X hX w) (fun w => by rw [hxb]; exact zr b Y hY w) (fun w => by rw [hsa]; exact sr a X hX w) (fun w => by rw [hsb]; exact sr b Y hY w) pr (zr _ XL eL) (zr _ X3 e3) (sr _ Xh eh) (sr _ Xl el)
  have im := mulI14 1 a b (flV c p zf sf o) _ _ _ _ _ _ _ _ _ hn (flagsYesI c p zf sf o) wA wB wT wH wF
  have told : wrap64 ((XL % 2 ^ (8 * 1) : Nat) : Int) = wrap64 (Int.bmod a 256 * Int.bmod b 256 % 256) ∧ wrap64 ((X3 % 2 ^ (8 * 1) : Nat) : Int) = wrap64 (Int.bmod a 256 * Int.bmod b 256 / 256 % 256) := by
    have ea : sa = Int.bmod a 256 := by
      rw [hsa, sgn_int X 1 (by decide), show ((2 ^ (8 * 1) : Nat)) = 256 from rfl, Int.bmod_def, Int.bmod_def]; rw [wrapU] at hX
      have : (X : Int) % ((256 : Nat) : Int) = a % ((256 : Nat) : Int) := by omega
      rw [this]
    have eb : sb = Int.bmod b 256 := by
      rw [hsb, sgn_int Y 1 (by decide), show ((2 ^ (8 * 1) : Nat)) = 256 from rfl, Int.bmod_def, Int.bmod_def]; rw [wrapU] at hY
      have : (Y : Int) % ((256 : Nat) : Int) = b % ((256 : Nat) : Int) := by omega
      rw [this]
    rw [← ea, ← eb]
    exact toldN1 hl eL e3
  rw [wCar_eq] at im
  rw [keep_both] at sp
  exact ⟨_, _, _, im, MulSYes 14 1 a b _ _ _ c p zf sf o (by omega) hn (Lib.hid sp), told.1, told.2⟩
theorem mulP14_2 (a b : Int) (c p zf sf o : Bool) (ha : (Lit.int .i64 a).wf = true) (hb : (Lit.int .i64 b).wf = true) : ∃ lo hi g, (∀ w, Calls Tryd.prog 26 #[.int .i64 14, .int .i64 2, .int .i64 a, .int .i64 b, .int .i64 (flV c p zf sf o)] w fun e w' => e = .returned (.tuple #[.int .i64 lo, .int .i64 hi, .int .i64 g, .int .i64 0]) ∧ Below w.heap.size w w') ∧
    (∀ w, Calls Tryd.prog 27 #[.int .i64 14, .int .i64 2, .int .i64 a, .int .i64 b, .int .i64 (flV c p zf sf o)] w fun e w' => e = .returned (.tuple #[.int .i64 lo, .int .i64 hi, .int .i64 g, .int .i64 0]) ∧ w = w') ∧ lo = wrap64 (Int.bmod a 65536 * Int.bmod b 65536 % 65536) ∧ hi = wrap64 (Int.bmod a 65536 * Int.bmod b 65536 / 65536 % 65536) := by
  obtain ⟨X, hX⟩ := natU a
  obtain ⟨Y, hY⟩ := natU b
  have hn : okSize (2 : Int) := by unfold okSize; omega
  have un (v : Int) (V : Nat) (hV : IntKind.u64.wrap v = (V : Int)) (w : World) : Calls Tryd.prog 46 #[.int .i64 v, .int .i64 2] w fun e w' => e = .returned (.tuple #[.int .i64 (wrap64 ((V % 2 ^ (8 * 2) : Nat) : Int)), .nilIface]) ∧ w = w' := by
    rw [eqZ2 hV]; exact unsigned2 v w
  have zr (v : Int) (V : Nat) (hV : IntKind.u64.wrap v = (V : Int)) (w : World) := specZeroL v V 2 w hV (by decide) (by decide)
  obtain ⟨xa, hxa⟩ : ∃ xa : Int, xa = wrap64 ((X % 2 ^ (8 * 2) : Nat) : Int) := ⟨_, rfl⟩
  obtain ⟨xb, hxb⟩ : ∃ xb : Int, xb = wrap64 ((Y % 2 ^ (8 * 2) : Nat) : Int) := ⟨_, rfl⟩
  have si (v : Int) (V : Nat) (hv : (Lit.int .i64 v).wf = true) (hV : IntKind.u64.wrap v = (V : Int)) (w : World) : Calls Tryd.prog 85 #[.int .i64 v, .int .i64 2] w fun e w' => e = .returned (.tuple #[.int .i64 (wrap64 (sgnU V 2 : Int)), .nilIface]) ∧ w = w' := by
    rw [eqS2 hV]; exact signed2 v w
  have sr (v : Int) (V : Nat) (hV : IntKind.u64.wrap v = (V : Int)) (w : World) := specSignL v V 2 w hV (by decide) (by decide)
  obtain ⟨sa, hsa⟩ : ∃ sa : Int, sa = wrap64 (sgnU X 2 : Int) := ⟨_, rfl⟩
  obtain ⟨sb, hsb⟩ : ∃ sb : Int, sb = wrap64 (sgnU Y 2 : Int) := ⟨_, rfl⟩
  have wsa : (Lit.int .i64 sa).wf = true := by rw [hsa]; exact wrap64_wf _
  have wsb : (Lit.int .i64 sb).wf = true := by rw [hsb]; exact wrap64_wf _
  obtain ⟨h, hh⟩ : ∃ h : Int, h = sa * sb / 18446744073709551616 % 18446744073709551616 := ⟨_, rfl⟩
  obtain ⟨l, hl⟩ : ∃ l : Int, l = sa * sb % 18446744073709551616 := ⟨_, rfl⟩
  have hw := highW (bounds_i64 wsa) (bounds_i64 wsb)
  have lw : mulLo sa sb = wrap64 l := by unfold mulLo; rw [lowW, hl]
  rw [← hh] at hw
  have wA := widSx a 2 sa (fun w => by rw [hsa]; exact si a X ha hX w)
  have wB := widSx b 2 sb (fun w => by rw [hsb]; exact si b Y hb hY w)
  have wT := timesX (sa / 9223372036854775808) sa (sb / 9223372036854775808) sb _ _ (implMulWide sa sb)
  rw [hw, lw] at wT
  have pr := fun w => specProdS sa sb w wsa wsb
  rw [← hh, ← hl] at pr
  have l0 : 0 ≤ l ∧ l < 18446744073709551616 := by rw [hl]; omega
  obtain ⟨XL, eL⟩ := natU (wrap64 l)
  have wL := widUx (wrap64 l) 2 _ (un (wrap64 l) XL eL)
  obtain ⟨X2, e2⟩ := natU (wrap64 l / 65536)
  obtain ⟨X3, e3⟩ := natU (wrap64 (l / 65536))
  have wU := widUx (wrap64 l / 65536) 2 _ (un (wrap64 l / 65536) X2 e2)
  rw [hi2 l0.1 l0.2 e2 e3] at wU
  have wH := halvesX2 (wrap64 h) (wrap64 l) _ _ _ _ wL wU
  have wF := fitsX (wrap64 h) (wrap64 l) 2 _ _ true (widSx (wrap64 l) 2 _ (si (wrap64 l) XL (wrap64_wf _) eL))
  obtain ⟨Xh, eh⟩ := natU (wrap64 ((X3 % 2 ^ (8 * 2) : Nat) : Int))
  obtain ⟨Xl, el⟩ := natU (wrap64 ((XL % 2 ^ (8 * 2) : Nat) : Int))
  have hm : (wrap64 (sgnU Xh 2 : Int) != wrap64 (sgnU Xl 2 : Int) / 9223372036854775808) = !(wrap64 h == wrap64 (sgnU XL 2 : Int) / 9223372036854775808 && wrap64 l == wrap64 (sgnU XL 2 : Int)) := by
    rw [hh, hl] at *
    have bx : -32768 ≤ sa ∧ sa ≤ 32768 := by rw [hsa, sgn_int X 2 (by decide), show ((2 ^ (8 * 2) : Nat)) = 65536 from rfl, Int.bmod_def]; split <;> omega
    have by' : -32768 ≤ sb ∧ sb ≤ 32768 := by rw [hsb, sgn_int Y 2 (by decide), show ((2 ^ (8 * 2) : Nat)) = 65536 from rfl, Int.bmod_def]; split <;> omega
    have pb := prodS_le bx by'
    exact moreS2 (by omega) (by omega) e3 eL eh el
  have sp := mulS14_2 a b (flV c p zf sf o) xa xb sa sb h l _ _ _ _ _ hm (fun w => by rw [hxa]; exact zr a X hX w) (fun w => by rw [hxb]; exact zr b Y hY w) (fun w => by rw [hsa]; exact sr a X hX w) (fun w => by rw [hsb]; exact sr b Y hY w) pr (zr _ XL eL) (zr _ X3 e3) (sr _ Xh eh) (sr _ Xl el)
  have im := mulI14 2 a b (flV c p zf sf o) _ _ _ _ _ _ _ _ _ hn (flagsYesI c p zf sf o) wA wB wT wH wF
  have told : wrap64 ((XL % 2 ^ (8 * 2) : Nat) : Int) = wrap64 (Int.bmod a 65536 * Int.bmod b 65536 % 65536) ∧ wrap64 ((X3 % 2 ^ (8 * 2) : Nat) : Int) = wrap64 (Int.bmod a 65536 * Int.bmod b 65536 / 65536 % 65536) := by
    have ea : sa = Int.bmod a 65536 := by
      rw [hsa, sgn_int X 2 (by decide), show ((2 ^ (8 * 2) : Nat)) = 65536 from rfl, Int.bmod_def, Int.bmod_def]; rw [wrapU] at hX
      have : (X : Int) % ((65536 : Nat) : Int) = a % ((65536 : Nat) : Int) := by omega
      rw [this]
    have eb : sb = Int.bmod b 65536 := by
      rw [hsb, sgn_int Y 2 (by decide), show ((2 ^ (8 * 2) : Nat)) = 65536 from rfl, Int.bmod_def, Int.bmod_def]; rw [wrapU] at hY
      have : (Y : Int) % ((65536 : Nat) : Int) = b % ((65536 : Nat) : Int) := by omega
      rw [this]
    rw [← ea, ← eb]
    exact toldN2 hl eL e3
  rw [wCar_eq] at im
  rw [keep_both] at sp
  exact ⟨_, _, _, im, MulSYes 14 2 a b _ _ _ c p zf sf o (by omega) hn (Lib.hid sp), told.1, told.2⟩
theorem mulP14_4 (a b : Int) (c p zf sf o : Bool) (ha : (Lit.int .i64 a).wf = true) (hb : (Lit.int .i64 b).wf = true) : ∃ lo hi g, (∀ w, Calls Tryd.prog 26 #[.int .i64 14, .int .i64 4, .int .i64 a, .int .i64 b, .int .i64 (flV c p zf sf o)] w fun e w' => e = .returned (.tuple #[.int .i64 lo, .int .i64 hi, .int .i64 g, .int .i64 0]) ∧ Below w.heap.size w w') ∧
    (∀ w, Calls Tryd.prog 27 #[.int .i64 14, .int .i64 4, .int .i64 a, .int .i64 b, .int .i64 (flV c p zf sf o)] w fun e w' => e = .returned (.tuple #[.int .i64 lo, .int .i64 hi, .int .i64 g, .int .i64 0]) ∧ w = w') ∧ lo = wrap64 (Int.bmod a 4294967296 * Int.bmod b 4294967296 % 4294967296) ∧ hi = wrap64 (Int.bmod a 4294967296 * Int.bmod b 4294967296 / 4294967296 % 4294967296) := by
  obtain ⟨X, hX⟩ := natU a
  obtain ⟨Y, hY⟩ := natU b
  have hn : okSize (4 : Int) := by unfold okSize; omega
  have un (v : Int) (V : Nat) (hV : IntKind.u64.wrap v = (V : Int)) (w : World) : Calls Tryd.prog 46 #[.int .i64 v, .int .i64 4] w fun e w' => e = .returned (.tuple #[.int .i64 (wrap64 ((V % 2 ^ (8 * 4) : Nat) : Int)), .nilIface]) ∧ w = w' := by
    rw [eqZ4 hV]; exact unsigned4 v w
  have zr (v : Int) (V : Nat) (hV : IntKind.u64.wrap v = (V : Int)) (w : World) := specZeroL v V 4 w hV (by decide) (by decide)
  obtain ⟨xa, hxa⟩ : ∃ xa : Int, xa = wrap64 ((X % 2 ^ (8 * 4) : Nat) : Int) := ⟨_, rfl⟩
  obtain ⟨xb, hxb⟩ : ∃ xb : Int, xb = wrap64 ((Y % 2 ^ (8 * 4) : Nat) : Int) := ⟨_, rfl⟩
  have si (v : Int) (V : Nat) (hv : (Lit.int .i64 v).wf = true) (hV : IntKind.u64.wrap v = (V : Int)) (w : World) : Calls Tryd.prog 85 #[.int .i64 v, .int .i64 4] w fun e w' => e = .returned (.tuple #[.int .i64 (wrap64 (sgnU V 4 : Int)), .nilIface]) ∧ w = w' := by
    rw [eqS4 hV]; exact signed4 v w
  have sr (v : Int) (V : Nat) (hV : IntKind.u64.wrap v = (V : Int)) (w : World) := specSignL v V 4 w hV (by decide) (by decide)
  obtain ⟨sa, hsa⟩ : ∃ sa : Int, sa = wrap64 (sgnU X 4 : Int) := ⟨_, rfl⟩
  obtain ⟨sb, hsb⟩ : ∃ sb : Int, sb = wrap64 (sgnU Y 4 : Int) := ⟨_, rfl⟩
  have wsa : (Lit.int .i64 sa).wf = true := by rw [hsa]; exact wrap64_wf _
  have wsb : (Lit.int .i64 sb).wf = true := by rw [hsb]; exact wrap64_wf _
  obtain ⟨h, hh⟩ : ∃ h : Int, h = sa * sb / 18446744073709551616 % 18446744073709551616 := ⟨_, rfl⟩
  obtain ⟨l, hl⟩ : ∃ l : Int, l = sa * sb % 18446744073709551616 := ⟨_, rfl⟩
  have hw := highW (bounds_i64 wsa) (bounds_i64 wsb)
  have lw : mulLo sa sb = wrap64 l := by unfold mulLo; rw [lowW, hl]
  rw [← hh] at hw
  have wA := widSx a 4 sa (fun w => by rw [hsa]; exact si a X ha hX w)
  have wB := widSx b 4 sb (fun w => by rw [hsb]; exact si b Y hb hY w)
  have wT := timesX (sa / 9223372036854775808) sa (sb / 9223372036854775808) sb _ _ (implMulWide sa sb)
  rw [hw, lw] at wT
  have pr := fun w => specProdS sa sb w wsa wsb
  rw [← hh, ← hl] at pr
  have l0 : 0 ≤ l ∧ l < 18446744073709551616 := by rw [hl]; omega
  obtain ⟨XL, eL⟩ := natU (wrap64 l)
  have wL := widUx (wrap64 l) 4 _ (un (wrap64 l) XL eL)
  obtain ⟨X2, e2⟩ := natU (wrap64 l / 4294967296)
  obtain ⟨X3, e3⟩ := natU (wrap64 (l / 4294967296))
  have wU := widUx (wrap64 l / 4294967296) 4 _ (un (wrap64 l / 4294967296) X2 e2)
  rw [hi4 l0.1 l0.2 e2 e3] at wU
  have wH := halvesX4 (wrap64 h) (wrap64 l) _ _ _ _ wL wU
  have wF := fitsX (wrap64 h) (wrap64 l) 4 _ _ true (widSx (wrap64 l) 4 _ (si (wrap64 l) XL (wrap64_wf _) eL))
  obtain ⟨Xh, eh⟩ := natU (wrap64 ((X3 % 2 ^ (8 * 4) : Nat) : Int))
  obtain ⟨Xl, el⟩ := natU (wrap64 ((XL % 2 ^ (8 * 4) : Nat) : Int))
  have hm : (wrap64 (sgnU Xh 4 : Int) != wrap64 (sgnU Xl 4 : Int) / 9223372036854775808) = !(wrap64 h == wrap64 (sgnU XL 4 : Int) / 9223372036854775808 && wrap64 l == wrap64 (sgnU XL 4 : Int)) := by
    rw [hh, hl] at *
    have bx : -2147483648 ≤ sa ∧ sa ≤ 2147483648 := by rw [hsa, sgn_int X 4 (by decide), show ((2 ^ (8 * 4) : Nat)) = 4294967296 from rfl, Int.bmod_def]; split <;> omega
    have by' : -2147483648 ≤ sb ∧ sb ≤ 2147483648 := by rw [hsb, sgn_int Y 4 (by decide), show ((2 ^ (8 * 4) : Nat)) = 4294967296 from rfl, Int.bmod_def]; split <;> omega
    have pb := prodS_le bx by'
    exact moreS4 (by omega) (by omega) e3 eL eh el
  have sp := mulS14_4 a b (flV c p zf sf o) xa xb sa sb h l _ _ _ _ _ hm (fun w => by rw [hxa]; exact zr a X hX w) (fun w => by rw [hxb]; exact zr b Y hY w) (fun w => by rw [hsa]; exact sr a X hX w) (fun w => by rw [hsb]; exact sr b Y hY w) pr (zr _ XL eL) (zr _ X3 e3) (sr _ Xh eh) (sr _ Xl el)
  have im := mulI14 4 a b (flV c p zf sf o) _ _ _ _ _ _ _ _ _ hn (flagsYesI c p zf sf o) wA wB wT wH wF
  have told : wrap64 ((XL % 2 ^ (8 * 4) : Nat) : Int) = wrap64 (Int.bmod a 4294967296 * Int.bmod b 4294967296 % 4294967296) ∧ wrap64 ((X3 % 2 ^ (8 * 4) : Nat) : Int) = wrap64 (Int.bmod a 4294967296 * Int.bmod b 4294967296 / 4294967296 % 4294967296) := by
    have ea : sa = Int.bmod a 4294967296 := by
      rw [hsa, sgn_int X 4 (by decide), show ((2 ^ (8 * 4) : Nat)) = 4294967296 from rfl, Int.bmod_def, Int.bmod_def]; rw [wrapU] at hX
      have : (X : Int) % ((4294967296 : Nat) : Int) = a % ((4294967296 : Nat) : Int) := by omega
      rw [this]
    have eb : sb = Int.bmod b 4294967296 := by
      rw [hsb, sgn_int Y 4 (by decide), show ((2 ^ (8 * 4) : Nat)) = 4294967296 from rfl, Int.bmod_def, Int.bmod_def]; rw [wrapU] at hY
      have : (Y : Int) % ((4294967296 : Nat) : Int) = b % ((4294967296 : Nat) : Int) := by omega
      rw [this]
    rw [← ea, ← eb]
    exact toldN4 hl eL e3
  rw [wCar_eq] at im
  rw [keep_both] at sp
  exact ⟨_, _, _, im, MulSYes 14 4 a b _ _ _ c p zf sf o (by omega) hn (Lib.hid sp), told.1, told.2⟩
theorem mulP14_8 (a b : Int) (c p zf sf o : Bool) (ha : (Lit.int .i64 a).wf = true) (hb : (Lit.int .i64 b).wf = true) : ∃ lo hi g, (∀ w, Calls Tryd.prog 26 #[.int .i64 14, .int .i64 8, .int .i64 a, .int .i64 b, .int .i64 (flV c p zf sf o)] w fun e w' => e = .returned (.tuple #[.int .i64 lo, .int .i64 hi, .int .i64 g, .int .i64 0]) ∧ Below w.heap.size w w') ∧
    (∀ w, Calls Tryd.prog 27 #[.int .i64 14, .int .i64 8, .int .i64 a, .int .i64 b, .int .i64 (flV c p zf sf o)] w fun e w' => e = .returned (.tuple #[.int .i64 lo, .int .i64 hi, .int .i64 g, .int .i64 0]) ∧ w = w') ∧ lo = wrap64 (Int.bmod a 18446744073709551616 * Int.bmod b 18446744073709551616 % 18446744073709551616) ∧ hi = wrap64 (Int.bmod a 18446744073709551616 * Int.bmod b 18446744073709551616 / 18446744073709551616 % 18446744073709551616) := by
  obtain ⟨X, hX⟩ := natU a
  obtain ⟨Y, hY⟩ := natU b
  have hn : okSize (8 : Int) := by unfold okSize; omega
  have un (v : Int) (V : Nat) (hV : IntKind.u64.wrap v = (V : Int)) (w : World) : Calls Tryd.prog 46 #[.int .i64 v, .int .i64 8] w fun e w' => e = .returned (.tuple #[.int .i64 (wrap64 ((V % 2 ^ (8 * 8) : Nat) : Int)), .nilIface]) ∧ w = w' := by
    rw [eqZ8 hV]; exact unsigned8 v w
  have zr (v : Int) (V : Nat) (hV : IntKind.u64.wrap v = (V : Int)) (w : World) := specZeroL v V 8 w hV (by decide) (by decide)
  obtain ⟨xa, hxa⟩ : ∃ xa : Int, xa = wrap64 ((X % 2 ^ (8 * 8) : Nat) : Int) := ⟨_, rfl⟩
  obtain ⟨xb, hxb⟩ : ∃ xb : Int, xb = wrap64 ((Y % 2 ^ (8 * 8) : Nat) : Int) := ⟨_, rfl⟩
  have si (v : Int) (V : Nat) (hv : (Lit.int .i64 v).wf = true) (hV : IntKind.u64.wrap v = (V : Int)) (w : World) : Calls Tryd.prog 85 #[.int .i64 v, .int .i64 8] w fun e w' => e = .returned (.tuple #[.int .i64 (wrap64 (sgnU V 8 : Int)), .nilIface]) ∧ w = w' := by
    rw [eqS8 hv hV]; exact signed8 v w
  have sr (v : Int) (V : Nat) (hV : IntKind.u64.wrap v = (V : Int)) (w : World) := specSignL v V 8 w hV (by decide) (by decide)
  obtain ⟨sa, hsa⟩ : ∃ sa : Int, sa = wrap64 (sgnU X 8 : Int) := ⟨_, rfl⟩
  obtain ⟨sb, hsb⟩ : ∃ sb : Int, sb = wrap64 (sgnU Y 8 : Int) := ⟨_, rfl⟩
  have wsa : (Lit.int .i64 sa).wf = true := by rw [hsa]; exact wrap64_wf _
  have wsb : (Lit.int .i64 sb).wf = true := by rw [hsb]; exact wrap64_wf _
  obtain ⟨h, hh⟩ : ∃ h : Int, h = sa * sb / 18446744073709551616 % 18446744073709551616 := ⟨_, rfl⟩
  obtain ⟨l, hl⟩ : ∃ l : Int, l = sa * sb % 18446744073709551616 := ⟨_, rfl⟩
  have hw := highW (bounds_i64 wsa) (bounds_i64 wsb)
  have lw : mulLo sa sb = wrap64 l := by unfold mulLo; rw [lowW, hl]
  rw [← hh] at hw
  have wA := widSx a 8 sa (fun w => by rw [hsa]; exact si a X ha hX w)
  have wB := widSx b 8 sb (fun w => by rw [hsb]; exact si b Y hb hY w)
  have wT := timesX (sa / 9223372036854775808) sa (sb / 9223372036854775808) sb _ _ (implMulWide sa sb)
  rw [hw, lw] at wT
  have pr := fun w => specProdS sa sb w wsa wsb
  rw [← hh, ← hl] at pr
  have l0 : 0 ≤ l ∧ l < 18446744073709551616 := by rw [hl]; omega
  obtain ⟨XL, eL⟩ := natU (wrap64 l)
  have wL := widUx (wrap64 l) 8 _ (un (wrap64 l) XL eL)
  obtain ⟨X2, e2⟩ := natU (wrap64 h)
  have wU := widUx (wrap64 h) 8 _ (un (wrap64 h) X2 e2)
  rw [hi8 e2] at wU
  have wH := halvesX8 (wrap64 h) (wrap64 l) _ _ _ _ wL wU
  have wF := fitsX (wrap64 h) (wrap64 l) 8 _ _ true (widSx (wrap64 l) 8 _ (si (wrap64 l) XL (wrap64_wf _) eL))
  obtain ⟨Xh, eh⟩ := natU (wrap64 h)
  obtain ⟨Xl, el⟩ := natU (wrap64 ((XL % 2 ^ (8 * 8) : Nat) : Int))
  have hm : (wrap64 (sgnU Xh 8 : Int) != wrap64 (sgnU Xl 8 : Int) / 9223372036854775808) = !(wrap64 h == wrap64 (sgnU XL 8 : Int) / 9223372036854775808 && wrap64 l == wrap64 (sgnU XL 8 : Int)) := by
    rw [eqS8 (wrap64_wf _) eh, eqS8 (wrap64_wf _) el, eqS8 (wrap64_wf _) eL, hi8 eL]
    cases hq : (wrap64 h == wrap64 l / 9223372036854775808) <;> simp [bne, hq]
  have sp := mulS14_8 a b (flV c p zf sf o) xa xb sa sb h l _ 0 _ _ _ hm (fun w => by rw [hxa]; exact zr a X hX w) (fun w => by rw [hxb]; exact zr b Y hY w) (fun w => by rw [hsa]; exact sr a X hX w) (fun w => by rw [hsb]; exact sr b Y hY w) pr (zr _ XL eL) (sr _ Xh eh) (sr _ Xl el)
  have im := mulI14 8 a b (flV c p zf sf o) _ _ _ _ _ _ _ _ _ hn (flagsYesI c p zf sf o) wA wB wT wH wF
  have told : wrap64 ((XL % 2 ^ (8 * 8) : Nat) : Int) = wrap64 (Int.bmod a 18446744073709551616 * Int.bmod b 18446744073709551616 % 18446744073709551616) ∧ wrap64 h = wrap64 (Int.bmod a 18446744073709551616 * Int.bmod b 18446744073709551616 / 18446744073709551616 % 18446744073709551616) := by
    have ea : sa = Int.bmod a 18446744073709551616 := by
      rw [hsa, sgn_int X 8 (by decide), show ((2 ^ (8 * 8) : Nat)) = 18446744073709551616 from rfl, Int.bmod_def, Int.bmod_def]; rw [wrapU] at hX
      have : (X : Int) % ((18446744073709551616 : Nat) : Int) = a % ((18446744073709551616 : Nat) : Int) := by omega
      rw [this]
    have eb : sb = Int.bmod b 18446744073709551616 := by
      rw [hsb, sgn_int Y 8 (by decide), show ((2 ^ (8 * 8) : Nat)) = 18446744073709551616 from rfl, Int.bmod_def, Int.bmod_def]; rw [wrapU] at hY
      have : (Y : Int) % ((18446744073709551616 : Nat) : Int) = b % ((18446744073709551616 : Nat) : Int) := by omega
      rw [this]
    rw [← ea, ← eb]
    exact toldS8 hh hl eL
  rw [wCar_eq] at im
  rw [keep_both] at sp
  exact ⟨_, _, _, im, MulSYes 14 8 a b _ _ _ c p zf sf o (by omega) hn (Lib.hid sp), told.1, told.2⟩
end Go.Proofs.YtbcbepdfijcbmaaDoor
