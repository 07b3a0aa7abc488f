/-
  What Shift of impl and of spec answers; conditions: those in each head.
-/
import Derived.Test.YtifpcfhfglkbcaaDoorWalkFlX
import Derived.Test.YtifpcfhfglkbcaaDoorWalkFlC16
import Derived.Test.YtifpcfhfglkbcaaDoorWalkFlC32
import Derived.Test.YtifpcfhfglkbcaaDoorWalkFlC64
namespace Go.Proofs.YtifpcfhfglkbcaaDoor
open Go.RowKit
set_option linter.unusedVariables false
set_option linter.unusedSimpArgs false
/-- one shift, as a number and as flags -/
def stN (w : Nat) (op : Int) (X : Nat) : Nat := if op = 20 then rolN w X else if op = 21 then rorN w X else if op = 22 then shlN w X else if op = 23 then X / 2 else sarN w X
def stF (w : Nat) (op : Int) (X : Nat) (f : Int) : Int :=
  if op = 20 then wCar f (hiB w X) (hiB w (rolN w X) != hiB w X) else if op = 21 then wCar f (odB X) (hiB w (rorN w X) != hiB w (shlN w (rorN w X)))
  else if op = 22 then shF w (shlN w X) (hiB w X) (hiB w (shlN w X) != hiB w X) else if op = 23 then shF w (X / 2) (odB X) (hiB w X) else shF w (sarN w X) (odB X) false
def ShOp (op : Int) : Prop := op = 20 ∨ op = 21 ∨ op = 22 ∨ op = 23 ∨ op = 24
theorem stN_lt {w X : Nat} {op : Int} (hw : 1 ≤ w) (h : X < 2 ^ w) : stN w op X < 2 ^ w := by
  unfold stN
  split; exact rolN_lt hw X
  split; exact rorN_lt hw h
  split; exact shlN_lt w X
  split; exact Nat.lt_of_le_of_lt (Nat.div_le_self _ _) h
  exact sarN_lt hw h
theorem stF_ok {w X : Nat} {op f : Int} (h : FlOK f) : FlOK (stF w op X f) := by
  obtain ⟨c, p, z, s, o, rfl⟩ := h
  unfold stF shF
  rw [wCar_eq, wCar_eq]
  split; exact ⟨_, _, _, _, _, rfl⟩
  split; exact ⟨_, _, _, _, _, rfl⟩
  split; exact ⟨_, _, _, _, _, rfl⟩
  split; exact ⟨_, _, _, _, _, rfl⟩
  exact ⟨_, _, _, _, _, rfl⟩
/-- several -/
def itS (w : Nat) (op : Int) (X : Nat) (f : Int) : Nat → Nat × Int
  | 0 => (X, f)
  | n + 1 => (stN w op (itS w op X f n).1, stF w op (itS w op X f n).1 (itS w op X f n).2)
theorem itS_ok {w X : Nat} {op f : Int} (hw : 1 ≤ w) (hX : X < 2 ^ w) (hf : FlOK f) : ∀ n, (itS w op X f n).1 < 2 ^ w ∧ FlOK (itS w op X f n).2
  | 0 => ⟨hX, hf⟩
  | n + 1 => ⟨stN_lt hw (itS_ok hw hX hf n).1, stF_ok (itS_ok hw hX hf n).2⟩
theorem hb_hi {w X b : Nat} (hw : 1 ≤ w) (hX : X < 2 ^ w) (hb : b = X / 2 ^ (w - 1) % 2) : ((b : Int) == 1) = hiB w X := by
  rw [eq_one]; unfold hiB; exact decide_eq_decide.mpr (by rw [hb]; exact (hi_iff hw hX).symm)
theorem lb_od {X b : Nat} (hb : b = X / 2 ^ 0 % 2) : ((b : Int) == 1) = odB X := by
  subst hb; rw [eq_one]; unfold odB
  rw [Nat.pow_zero, Nat.div_one]
  rcases (by omega : X % 2 = 0 ∨ X % 2 = 1) with h | h <;> rw [h] <;> rfl
theorem xor_ne {a b : Nat} (ha : a ≤ 1) (hb : b ≤ 1) : (bits .xor .i64 (a : Int) (b : Int) == 1) = (((a : Int) == 1) != ((b : Int) == 1)) := by
  rcases (by omega : a = 0 ∨ a = 1) with rfl | rfl <;> rcases (by omega : b = 0 ∨ b = 1) with rfl | rfl <;> decide +kernel
theorem nx_hi {w N b : Nat} (hw : 2 ≤ w) (hb : b = N / 2 ^ (w - 2) % 2) : ((b : Int) == 1) = hiB w (shlN w N) := by
  have e := dbl_bit N w hw
  rw [← hb] at e
  exact hb_hi (by omega) (shlN_lt w N) e.symm
theorem fin_keep {f : Int} {C O c o : Bool} (hf : FlOK f) (hc : c = C) (ho : o = O) : bits .or .i64 (bits .or .i64 (bits .and .i64 f 196) (bif c then 1 else 0)) (bif o then 2048 else 0) = wCar f C O := by
  obtain ⟨c', p, z, s, o', rfl⟩ := hf
  subst hc ho
  rw [wCar_eq]; revert c p z s o c' o'; decide +kernel
theorem fin_szp {w N : Nat} {C O c o : Bool} (hc : c = C) (ho : o = O) : bits .or .i64 (bits .or .i64 (szp w N) (bif c then 1 else 0)) (bif o then 2048 else 0) = shF w N C O := by
  subst hc ho
  unfold szp shF hiB
  generalize parN N = p
  generalize (N == 0) = z
  generalize decide (2 ^ (w - 1) ≤ N) = s
  revert c p z s o; decide +kernel
theorem w64_nat {N : Nat} (h : N < 18446744073709551616) : ∃ v, wrap64 (N : Int) = v ∧ IntKind.u64.wrap v = (N : Int) := ⟨_, rfl, u64_w64 h⟩
theorem shlX {a : Int} {X : Nat} (h : IntKind.u64.wrap a = (X : Int)) : IntKind.u64.wrap (wrap64 (IntKind.u64.wrap (IntKind.u64.wrap a * 2))) = ((X * 2 % 18446744073709551616 : Nat) : Int) := by
  rw [h, wrapU ((X : Int) * 2), show ((X : Int) * 2 % 18446744073709551616) = ((X * 2 % 18446744073709551616 : Nat) : Int) by omega]
  exact u64_w64 (by omega)
theorem shl_low {w X : Nat} (hw : w ≤ 64) : X * 2 % 18446744073709551616 % 2 ^ w = shlN w X := by
  rw [show (18446744073709551616 : Nat) = 2 ^ 64 from rfl, Nat.mod_mod_of_dvd _ (Nat.pow_dvd_pow 2 hw)]; rfl
theorem or_hb {w X b : Nat} (hw : 1 ≤ w) (hw2 : w ≤ 64) (hX : X < 2 ^ w) (hb : b = X / 2 ^ (w - 1) % 2) : bits .or .i64 (wrap64 ((shlN w X : Nat) : Int)) (b : Int) = wrap64 ((rolN w X : Nat) : Int) := by
  have h1 := shlN_lt w X
  have h2 : 2 ^ w ≤ 2 ^ 64 := Nat.pow_le_pow_right (by decide) hw2
  have hb1 : b ≤ 1 := by omega
  have e : (b : Int) = wrap64 (b : Int) := by unfold wrap64; omega
  rw [e, or64 _ _ (by omega) (by omega)]
  have hh := hb_hi hw hX hb
  unfold rolN
  rw [← hh, eq_one]
  have hev := dbl_even hw X
  rcases (by omega : b = 0 ∨ b = 1) with rfl | rfl
  · rw [Nat.or_zero]; rfl
  · rw [show shlN w X ||| 1 = shlN w X + 1 from or_one hev]; rfl
theorem or_tb {w X b : Nat} {B : Bool} (hw : 1 ≤ w) (hw2 : w ≤ 64) (hX : X < 2 ^ w) (hb1 : b ≤ 1) (hB : ((b : Int) == 1) = B) : bits .or .u64 ((X : Int) / 2) (IntKind.u64.wrap ((b : Int) * 2 ^ (w - 1))) = ((X / 2 + (bif B then 2 ^ (w - 1) else 0) : Nat) : Int) := by
  have h1 := half_lt hw hX
  have h2 : 2 ^ (w - 1) ≤ 2 ^ 63 := Nat.pow_le_pow_right (by decide) (by omega)
  have h3 : (2 : Nat) ^ 63 = 9223372036854775808 := by decide
  have e1 : ((X : Int) / 2) = ((X / 2 : Nat) : Int) := by omega
  have e2 : ((b : Int) * 2 ^ (w - 1)) = ((b * 2 ^ (w - 1) : Nat) : Int) := by simp
  have h4 : b * 2 ^ (w - 1) ≤ 2 ^ (w - 1) := by rcases (by omega : b = 0 ∨ b = 1) with e | e <;> rw [e] <;> omega
  rw [e1, e2, wrapU, Int.emod_eq_of_lt (by omega) (by omega), bits_or_u64_nat _ _ (by omega) (by omega), ← hB, eq_one]
  rcases (by omega : b = 0 ∨ b = 1) with rfl | rfl
  · rw [Nat.zero_mul, Nat.or_zero]; rfl
  · rw [Nat.one_mul, or_top h1]; rfl
set_option maxRecDepth 100000 in
set_option maxHeartbeats 1000000 in
theorem onceS20 (a f : Int) (X size : Nat) (w : World) (hX : IntKind.u64.wrap a = (X : Int)) (haX : wrap64 (X : Int) = a) (hs : 1 ≤ size) (hs8 : size ≤ 8) (hlt : X < 2 ^ (8 * size)) (hf : FlOK f) : Calls Tryd.prog 126 #[.int .i64 20, .int .i64 (size : Int), .int .i64 a, .int .i64 f] w fun e w' => e = .returned (.tuple #[.int .i64 (wrap64 ((stN (8 * size) 20 X : Nat) : Int)), .int .i64 (stF (8 * size) 20 X f)]) ∧ w = w' := by
  obtain ⟨hb, hhb⟩ : ∃ d : Nat, d = X / 2 ^ (8 * size - 1) % 2 := ⟨_, rfl⟩
  obtain ⟨lb, hlb⟩ : ∃ d : Nat, d = X / 2 ^ 0 % 2 := ⟨_, rfl⟩
  have h1 := bit_le hhb; have h2 := bit_le hlb
  have h64 := pow_le64 hs8
  have hN : rolN (8 * size) X < 2 ^ (8 * size) := rolN_lt (by omega) X
  have eR : bits .or .i64 (wrap64 ((shlN (8 * size) X : Nat) : Int)) (hb : Int) = wrap64 ((rolN (8 * size) X : Nat) : Int) := or_hb (by omega) (by omega) hlt hhb
  have xR : IntKind.u64.wrap (bits .or .i64 (wrap64 ((shlN (8 * size) X : Nat) : Int)) (hb : Int)) = ((rolN (8 * size) X : Nat) : Int) := by rw [eR]; exact u64_w64 (Nat.lt_of_lt_of_le hN h64)
  obtain ⟨nb, hnb⟩ : ∃ d : Nat, d = (rolN (8 * size) X) / 2 ^ (8 * size - 1) % 2 := ⟨_, rfl⟩
  have h3 := bit_le hnb
  obtain ⟨nc, hnc⟩ : ∃ d : Nat, d = (rolN (8 * size) X) / 2 ^ (8 * size - 2) % 2 := ⟨_, rfl⟩
  have h4 := bit_le hnc
  have F1 := Lib.hid (hb_hi (by omega) hlt hhb); have F2 := Lib.hid (lb_od hlb); have F3 := Lib.hid (hb_hi (by omega) hN hnb); have F4 := Lib.hid (nx_hi (w := 8 * size) (by omega) hnc)
  have CI := Lib.hid ifS
  have HX := Lib.hid hX; have HH := Lib.hid hhb; have HL := Lib.hid hlb; have HNB := Lib.hid hnb; have HNC := Lib.hid hnc; have ER := Lib.hid eR; have XR := Lib.hid xR; have HF := Lib.hid hf; have LN := Lib.hid hN; have LX := Lib.hid hlt
  have CZ := fun w => specZeroL (wrap64 (IntKind.u64.wrap (IntKind.u64.wrap a * 2))) _ size w (shlX hX) hs hs8
  rw [shl_low (by omega)] at CZ
  replace CZ := Lib.hid CZ
  clear hhb hlb eR xR hnb hnc hf haX hN hlt h64 hX
  go_enter Tryd.func126, Tryd.ntmps126
  go_wp2_with fail
  refine (bitCI a X (8 * size - 1) _ hb _ HX.out (by omega) (by omega) HH.out).mono ?_
  rintro e w1 ⟨rfl, rfl⟩
  go_wp2_with fail
  refine (bitCI a X 0 _ lb _ HX.out (by omega) (by omega) HL.out).mono ?_
  rintro e w1 ⟨rfl, rfl⟩
  go_wp2_with fail
  refine (CZ.out _).mono ?_
  rintro e w1 ⟨rfl, rfl⟩
  go_wp2_with fail
  refine (bitCI (bits .or .i64 (wrap64 ((shlN (8 * size) X : Nat) : Int)) (hb : Int)) _ (8 * size - 1) _ nb _ XR.out (by omega) (by omega) HNB.out).mono ?_
  rintro e w1 ⟨rfl, rfl⟩
  go_wp2_with fail
  refine (CI.out _ _ _).mono ?_
  rintro e w1 ⟨rfl, rfl⟩
  go_wp2_with fail
  refine (CI.out _ _ _).mono ?_
  rintro e w1 ⟨rfl, rfl⟩
  go_wp2
  go_ret2
  refine ⟨ret_s2 ER.out ?_, rfl⟩
  exact fin_keep HF.out F1.out (by rw [xor_ne h3 h1, F3.out, F1.out])
set_option maxRecDepth 100000 in
set_option maxHeartbeats 1000000 in
theorem onceS21 (a f : Int) (X size : Nat) (w : World) (hX : IntKind.u64.wrap a = (X : Int)) (haX : wrap64 (X : Int) = a) (hs : 1 ≤ size) (hs8 : size ≤ 8) (hlt : X < 2 ^ (8 * size)) (hf : FlOK f) : Calls Tryd.prog 126 #[.int .i64 21, .int .i64 (size : Int), .int .i64 a, .int .i64 f] w fun e w' => e = .returned (.tuple #[.int .i64 (wrap64 ((stN (8 * size) 21 X : Nat) : Int)), .int .i64 (stF (8 * size) 21 X f)]) ∧ w = w' := by
  obtain ⟨hb, hhb⟩ : ∃ d : Nat, d = X / 2 ^ (8 * size - 1) % 2 := ⟨_, rfl⟩
  obtain ⟨lb, hlb⟩ : ∃ d : Nat, d = X / 2 ^ 0 % 2 := ⟨_, rfl⟩
  have h1 := bit_le hhb; have h2 := bit_le hlb
  have h64 := pow_le64 hs8
  have hN : rorN (8 * size) X < 2 ^ (8 * size) := rorN_lt (by omega) hlt
  have eR : wrap64 (bits .or .u64 ((X : Int) / 2) (IntKind.u64.wrap ((lb : Int) * 2 ^ (8 * size - 1)))) = wrap64 ((rorN (8 * size) X : Nat) : Int) := by rw [or_tb (by omega) (by omega) hlt h2 (lb_od hlb)]; rfl
  have xR : IntKind.u64.wrap (wrap64 (bits .or .u64 ((X : Int) / 2) (IntKind.u64.wrap ((lb : Int) * 2 ^ (8 * size - 1))))) = ((rorN (8 * size) X : Nat) : Int) := by rw [eR]; exact u64_w64 (Nat.lt_of_lt_of_le hN h64)
  obtain ⟨nb, hnb⟩ : ∃ d : Nat, d = (rorN (8 * size) X) / 2 ^ (8 * size - 1) % 2 := ⟨_, rfl⟩
  have h3 := bit_le hnb
  obtain ⟨nc, hnc⟩ : ∃ d : Nat, d = (rorN (8 * size) X) / 2 ^ (8 * size - 2) % 2 := ⟨_, rfl⟩
  have h4 := bit_le hnc
  have F1 := Lib.hid (hb_hi (by omega) hlt hhb); have F2 := Lib.hid (lb_od hlb); have F3 := Lib.hid (hb_hi (by omega) hN hnb); have F4 := Lib.hid (nx_hi (w := 8 * size) (by omega) hnc)
  have CI := Lib.hid ifS
  have HX := Lib.hid hX; have HH := Lib.hid hhb; have HL := Lib.hid hlb; have HNB := Lib.hid hnb; have HNC := Lib.hid hnc; have ER := Lib.hid eR; have XR := Lib.hid xR; have HF := Lib.hid hf; have LN := Lib.hid hN; have LX := Lib.hid hlt
  have CZ := fun w => specZeroL a X size w hX hs hs8
  rw [Nat.mod_eq_of_lt hlt, haX] at CZ
  replace CZ := Lib.hid CZ
  clear hhb hlb eR xR hnb hnc hf haX hN hlt h64
  go_enter Tryd.func126, Tryd.ntmps126
  go_wp2_with fail
  refine (bitCI a X (8 * size - 1) _ hb _ HX.out (by omega) (by omega) HH.out).mono ?_
  rintro e w1 ⟨rfl, rfl⟩
  go_wp2_with fail
  refine (bitCI a X 0 _ lb _ HX.out (by omega) (by omega) HL.out).mono ?_
  rintro e w1 ⟨rfl, rfl⟩
  go_wp2_with fail
  refine (CZ.out _).mono ?_
  rintro e w1 ⟨rfl, rfl⟩
  go_wp2_with fail
  refine (bitCI (wrap64 (bits .or .u64 ((X : Int) / 2) (IntKind.u64.wrap ((lb : Int) * 2 ^ (8 * size - 1))))) _ (8 * size - 1) _ nb _ XR.out (by omega) (by omega) HNB.out).mono ?_
  rintro e w1 ⟨rfl, rfl⟩
  go_wp2_with fail
  refine (bitCI (wrap64 (bits .or .u64 ((X : Int) / 2) (IntKind.u64.wrap ((lb : Int) * 2 ^ (8 * size - 1))))) _ (8 * size - 2) _ nc _ XR.out (by omega) (by omega) HNC.out).mono ?_
  rintro e w1 ⟨rfl, rfl⟩
  go_wp2_with fail
  refine (CI.out _ _ _).mono ?_
  rintro e w1 ⟨rfl, rfl⟩
  go_wp2_with fail
  refine (CI.out _ _ _).mono ?_
  rintro e w1 ⟨rfl, rfl⟩
  go_wp2
  go_ret2
  refine ⟨ret_s2 ER.out ?_, rfl⟩
  exact fin_keep HF.out F2.out (by rw [xor_ne h3 h4, F3.out, F4.out])
set_option maxRecDepth 100000 in
set_option maxHeartbeats 1000000 in
theorem onceS22 (a f : Int) (X size : Nat) (w : World) (hX : IntKind.u64.wrap a = (X : Int)) (haX : wrap64 (X : Int) = a) (hs : 1 ≤ size) (hs8 : size ≤ 8) (hlt : X < 2 ^ (8 * size)) (hf : FlOK f) : Calls Tryd.prog 126 #[.int .i64 22, .int .i64 (size : Int), .int .i64 a, .int .i64 f] w fun e w' => e = .returned (.tuple #[.int .i64 (wrap64 ((stN (8 * size) 22 X : Nat) : Int)), .int .i64 (stF (8 * size) 22 X f)]) ∧ w = w' := by
  obtain ⟨hb, hhb⟩ : ∃ d : Nat, d = X / 2 ^ (8 * size - 1) % 2 := ⟨_, rfl⟩
  obtain ⟨lb, hlb⟩ : ∃ d : Nat, d = X / 2 ^ 0 % 2 := ⟨_, rfl⟩
  have h1 := bit_le hhb; have h2 := bit_le hlb
  have h64 := pow_le64 hs8
  have hN : shlN (8 * size) X < 2 ^ (8 * size) := shlN_lt _ X
  have eR : wrap64 ((shlN (8 * size) X : Nat) : Int) = wrap64 ((shlN (8 * size) X : Nat) : Int) := rfl
  have xR : IntKind.u64.wrap (wrap64 ((shlN (8 * size) X : Nat) : Int)) = ((shlN (8 * size) X : Nat) : Int) := by rw [eR]; exact u64_w64 (Nat.lt_of_lt_of_le hN h64)
  obtain ⟨nb, hnb⟩ : ∃ d : Nat, d = (shlN (8 * size) X) / 2 ^ (8 * size - 1) % 2 := ⟨_, rfl⟩
  have h3 := bit_le hnb
  obtain ⟨nc, hnc⟩ : ∃ d : Nat, d = (shlN (8 * size) X) / 2 ^ (8 * size - 2) % 2 := ⟨_, rfl⟩
  have h4 := bit_le hnc
  have F1 := Lib.hid (hb_hi (by omega) hlt hhb); have F2 := Lib.hid (lb_od hlb); have F3 := Lib.hid (hb_hi (by omega) hN hnb); have F4 := Lib.hid (nx_hi (w := 8 * size) (by omega) hnc)
  have CI := Lib.hid ifS
  have HX := Lib.hid hX; have HH := Lib.hid hhb; have HL := Lib.hid hlb; have HNB := Lib.hid hnb; have HNC := Lib.hid hnc; have ER := Lib.hid eR; have XR := Lib.hid xR; have HF := Lib.hid hf; have LN := Lib.hid hN; have LX := Lib.hid hlt
  have CZ := fun w => specZeroL (wrap64 (IntKind.u64.wrap (IntKind.u64.wrap a * 2))) _ size w (shlX hX) hs hs8
  rw [shl_low (by omega)] at CZ
  replace CZ := Lib.hid CZ
  have CS := fun w => szpS (wrap64 ((shlN (8 * size) X : Nat) : Int)) _ size w xR hs hs8
  rw [Nat.mod_eq_of_lt hN] at CS
  replace CS := Lib.hid CS
  clear hhb hlb eR xR hnb hnc hf haX hN hlt h64 hX
  go_enter Tryd.func126, Tryd.ntmps126
  go_wp2_with fail
  refine (bitCI a X (8 * size - 1) _ hb _ HX.out (by omega) (by omega) HH.out).mono ?_
  rintro e w1 ⟨rfl, rfl⟩
  go_wp2_with fail
  refine (bitCI a X 0 _ lb _ HX.out (by omega) (by omega) HL.out).mono ?_
  rintro e w1 ⟨rfl, rfl⟩
  go_wp2_with fail
  refine (CZ.out _).mono ?_
  rintro e w1 ⟨rfl, rfl⟩
  go_wp2_with fail
  refine (bitCI (wrap64 ((shlN (8 * size) X : Nat) : Int)) _ (8 * size - 1) _ nb _ XR.out (by omega) (by omega) HNB.out).mono ?_
  rintro e w1 ⟨rfl, rfl⟩
  go_wp2_with fail
  refine (CS.out _).mono ?_
  rintro e w1 ⟨rfl, rfl⟩
  go_wp2_with fail
  refine (CI.out _ _ _).mono ?_
  rintro e w1 ⟨rfl, rfl⟩
  go_wp2_with fail
  refine (CI.out _ _ _).mono ?_
  rintro e w1 ⟨rfl, rfl⟩
  go_wp2
  go_ret2
  refine ⟨ret_s2 rfl ?_, rfl⟩
  exact fin_szp F1.out (by rw [xor_ne h3 h1, F3.out, F1.out])
set_option maxRecDepth 100000 in
set_option maxHeartbeats 1000000 in
theorem onceS23 (a f : Int) (X size : Nat) (w : World) (hX : IntKind.u64.wrap a = (X : Int)) (haX : wrap64 (X : Int) = a) (hs : 1 ≤ size) (hs8 : size ≤ 8) (hlt : X < 2 ^ (8 * size)) (hf : FlOK f) : Calls Tryd.prog 126 #[.int .i64 23, .int .i64 (size : Int), .int .i64 a, .int .i64 f] w fun e w' => e = .returned (.tuple #[.int .i64 (wrap64 ((stN (8 * size) 23 X : Nat) : Int)), .int .i64 (stF (8 * size) 23 X f)]) ∧ w = w' := by
  obtain ⟨hb, hhb⟩ : ∃ d : Nat, d = X / 2 ^ (8 * size - 1) % 2 := ⟨_, rfl⟩
  obtain ⟨lb, hlb⟩ : ∃ d : Nat, d = X / 2 ^ 0 % 2 := ⟨_, rfl⟩
  have h1 := bit_le hhb; have h2 := bit_le hlb
  have h64 := pow_le64 hs8
  have hN : X / 2 < 2 ^ (8 * size) := Nat.lt_of_le_of_lt (Nat.div_le_self _ _) hlt
  have eR : wrap64 ((X : Int) / 2) = wrap64 ((X / 2 : Nat) : Int) := by rw [show ((X : Int) / 2) = ((X / 2 : Nat) : Int) by omega]
  have xR : IntKind.u64.wrap (wrap64 ((X : Int) / 2)) = ((X / 2 : Nat) : Int) := by rw [eR]; exact u64_w64 (Nat.lt_of_lt_of_le hN h64)
  obtain ⟨nb, hnb⟩ : ∃ d : Nat, d = (X / 2) / 2 ^ (8 * size - 1) % 2 := ⟨_, rfl⟩
  have h3 := bit_le hnb
  obtain ⟨nc, hnc⟩ : ∃ d : Nat, d = (X / 2) / 2 ^ (8 * size - 2) % 2 := ⟨_, rfl⟩
  have h4 := bit_le hnc
  have F1 := Lib.hid (hb_hi (by omega) hlt hhb); have F2 := Lib.hid (lb_od hlb); have F3 := Lib.hid (hb_hi (by omega) hN hnb); have F4 := Lib.hid (nx_hi (w := 8 * size) (by omega) hnc)
  have CI := Lib.hid ifS
  have HX := Lib.hid hX; have HH := Lib.hid hhb; have HL := Lib.hid hlb; have HNB := Lib.hid hnb; have HNC := Lib.hid hnc; have ER := Lib.hid eR; have XR := Lib.hid xR; have HF := Lib.hid hf; have LN := Lib.hid hN; have LX := Lib.hid hlt
  have CZ := fun w => specZeroL a X size w hX hs hs8
  rw [Nat.mod_eq_of_lt hlt, haX] at CZ
  replace CZ := Lib.hid CZ
  have CS := fun w => szpS (wrap64 ((X : Int) / 2)) _ size w xR hs hs8
  rw [Nat.mod_eq_of_lt hN] at CS
  replace CS := Lib.hid CS
  clear hhb hlb eR xR hnb hnc hf haX hN hlt h64
  go_enter Tryd.func126, Tryd.ntmps126
  go_wp2_with fail
  refine (bitCI a X (8 * size - 1) _ hb _ HX.out (by omega) (by omega) HH.out).mono ?_
  rintro e w1 ⟨rfl, rfl⟩
  go_wp2_with fail
  refine (bitCI a X 0 _ lb _ HX.out (by omega) (by omega) HL.out).mono ?_
  rintro e w1 ⟨rfl, rfl⟩
  go_wp2_with fail
  refine (CZ.out _).mono ?_
  rintro e w1 ⟨rfl, rfl⟩
  go_wp2_with fail
  refine (CS.out _).mono ?_
  rintro e w1 ⟨rfl, rfl⟩
  go_wp2_with fail
  refine (CI.out _ _ _).mono ?_
  rintro e w1 ⟨rfl, rfl⟩
  go_wp2_with fail
  refine (CI.out _ _ _).mono ?_
  rintro e w1 ⟨rfl, rfl⟩
  go_wp2
  go_ret2
  refine ⟨ret_s2 ER.out ?_, rfl⟩
  exact fin_szp F2.out F1.out
set_option maxRecDepth 100000 in
set_option maxHeartbeats 1000000 in
theorem onceS24 (a f : Int) (X size : Nat) (w : World) (hX : IntKind.u64.wrap a = (X : Int)) (haX : wrap64 (X : Int) = a) (hs : 1 ≤ size) (hs8 : size ≤ 8) (hlt : X < 2 ^ (8 * size)) (hf : FlOK f) : Calls Tryd.prog 126 #[.int .i64 24, .int .i64 (size : Int), .int .i64 a, .int .i64 f] w fun e w' => e = .returned (.tuple #[.int .i64 (wrap64 ((stN (8 * size) 24 X : Nat) : Int)), .int .i64 (stF (8 * size) 24 X f)]) ∧ w = w' := by
  rw [show stN (8 * size) 24 X = sarN (8 * size) X by unfold stN; rw [if_neg (by decide), if_neg (by decide), if_neg (by decide), if_neg (by decide)], show stF (8 * size) 24 X f = shF (8 * size) (sarN (8 * size) X) (odB X) false by unfold stF; rw [if_neg (by decide), if_neg (by decide), if_neg (by decide), if_neg (by decide)]]
  obtain ⟨hb, hhb⟩ : ∃ d : Nat, d = X / 2 ^ (8 * size - 1) % 2 := ⟨_, rfl⟩
  obtain ⟨lb, hlb⟩ : ∃ d : Nat, d = X / 2 ^ 0 % 2 := ⟨_, rfl⟩
  have h1 := bit_le hhb; have h2 := bit_le hlb
  have h64 := pow_le64 hs8
  have hN : sarN (8 * size) X < 2 ^ (8 * size) := sarN_lt (by omega) hlt
  have eR : wrap64 (bits .or .u64 ((X : Int) / 2) (IntKind.u64.wrap ((hb : Int) * 2 ^ (8 * size - 1)))) = wrap64 ((sarN (8 * size) X : Nat) : Int) := by rw [or_tb (by omega) (by omega) hlt h1 (hb_hi (by omega) hlt hhb)]; rfl
  have xR : IntKind.u64.wrap (wrap64 (bits .or .u64 ((X : Int) / 2) (IntKind.u64.wrap ((hb : Int) * 2 ^ (8 * size - 1))))) = ((sarN (8 * size) X : Nat) : Int) := by rw [eR]; exact u64_w64 (Nat.lt_of_lt_of_le hN h64)
  obtain ⟨nb, hnb⟩ : ∃ d : Nat, d = (sarN (8 * size) X) / 2 ^ (8 * size - 1) % 2 := ⟨_, rfl⟩
  have h3 := bit_le hnb
  obtain ⟨nc, hnc⟩ : ∃ d : Nat, d = (sarN (8 * size) X) / 2 ^ (8 * size - 2) % 2 := ⟨_, rfl⟩
  have h4 := bit_le hnc
  have F1 := Lib.hid (hb_hi (by omega) hlt hhb); have F2 := Lib.hid (lb_od hlb); have F3 := Lib.hid (hb_hi (by omega) hN hnb); have F4 := Lib.hid (nx_hi (w := 8 * size) (by omega) hnc)
  have CI := Lib.hid ifS
  have HX := Lib.hid hX; have HH := Lib.hid hhb; have HL := Lib.hid hlb; have HNB := Lib.hid hnb; have HNC := Lib.hid hnc; have ER := Lib.hid eR; have XR := Lib.hid xR; have HF := Lib.hid hf; have LN := Lib.hid hN; have LX := Lib.hid hlt
  have CZ := fun w => specZeroL a X size w hX hs hs8
  rw [Nat.mod_eq_of_lt hlt, haX] at CZ
  replace CZ := Lib.hid CZ
  have CS := fun w => szpS (wrap64 (bits .or .u64 ((X : Int) / 2) (IntKind.u64.wrap ((hb : Int) * 2 ^ (8 * size - 1))))) _ size w xR hs hs8
  rw [Nat.mod_eq_of_lt hN] at CS
  replace CS := Lib.hid CS
  clear hhb hlb eR xR hnb hnc hf haX hN hlt h64
  go_enter Tryd.func126, Tryd.ntmps126
  go_wp2_with fail
  refine (bitCI a X (8 * size - 1) _ hb _ HX.out (by omega) (by omega) HH.out).mono ?_
  rintro e w1 ⟨rfl, rfl⟩
  go_wp2_with fail
  refine (bitCI a X 0 _ lb _ HX.out (by omega) (by omega) HL.out).mono ?_
  rintro e w1 ⟨rfl, rfl⟩
  go_wp2_with fail
  refine (CZ.out _).mono ?_
  rintro e w1 ⟨rfl, rfl⟩
  go_wp2_with fail
  refine (CS.out _).mono ?_
  rintro e w1 ⟨rfl, rfl⟩
  go_wp2_with fail
  refine (CI.out _ _ _).mono ?_
  rintro e w1 ⟨rfl, rfl⟩
  go_wp2_with fail
  refine (CI.out _ _ _).mono ?_
  rintro e w1 ⟨rfl, rfl⟩
  go_wp2
  go_ret2
  refine ⟨ret_s2 ER.out ?_, rfl⟩
  exact fin_szp (o := false) F2.out rfl
theorem onceSAll (op : Int) (a f : Int) (X size : Nat) (w : World) (hX : IntKind.u64.wrap a = (X : Int)) (haX : wrap64 (X : Int) = a) (hs : 1 ≤ size) (hs8 : size ≤ 8) (hlt : X < 2 ^ (8 * size)) (hf : FlOK f) (hop : ShOp op) : Calls Tryd.prog 126 #[.int .i64 op, .int .i64 (size : Int), .int .i64 a, .int .i64 f] w fun e w' => e = .returned (.tuple #[.int .i64 (wrap64 ((stN (8 * size) op X : Nat) : Int)), .int .i64 (stF (8 * size) op X f)]) ∧ w = w' := by
  rcases hop with rfl | rfl | rfl | rfl | rfl
  · exact onceS20 a f X size w hX haX hs hs8 hlt hf
  · exact onceS21 a f X size w hX haX hs hs8 hlt hf
  · exact onceS22 a f X size w hX haX hs hs8 hlt hf
  · exact onceS23 a f X size w hX haX hs hs8 hlt hf
  · exact onceS24 a f X size w hX haX hs hs8 hlt hf
/-- how many shifts a count tells -/
def cntS (size C : Nat) : Nat := if size = 8 then C % 64 else C % 32
theorem cntS_lt (size C : Nat) : cntS size C < 64 := by unfold cntS; split <;> omega
theorem itS_succ (w : Nat) (op : Int) (X : Nat) (f : Int) (n : Nat) : itS w op X f (n + 1) = (stN w op (itS w op X f n).1, stF w op (itS w op X f n).1 (itS w op X f n).2) := rfl
set_option maxRecDepth 100000 in
set_option maxHeartbeats 1000000 in
theorem shiftS (op a b f : Int) (X C size : Nat) (w : World) (hop : ShOp op) (ha : IntKind.u64.wrap a = (X : Int)) (hb : IntKind.u64.wrap b = (C : Int)) (hs : 1 ≤ size) (hs8 : size ≤ 8) (hf : FlOK f) :
    Calls Tryd.prog 47 #[.int .i64 op, .int .i64 (size : Int), .int .i64 a, .int .i64 b, .int .i64 f] w fun e w' => e = .returned (.tuple #[.int .i64 (wrap64 (((itS (8 * size) op (X % 2 ^ (8 * size)) f (cntS size C)).1 : Nat) : Int)), .int .i64 (itS (8 * size) op (X % 2 ^ (8 * size)) f (cntS size C)).2]) ∧ w = w' := by
  have CZ := Lib.hid (fun w => specZeroL a X size w ha hs hs8)
  have hlt : X % 2 ^ (8 * size) < 2 ^ (8 * size) := Nat.mod_lt _ (Nat.two_pow_pos _)
  have h64 := pow_le64 hs8
  have hok := itS_ok (w := 8 * size) (op := op) (by omega) hlt hf
  have CO := Lib.hid (fun n w => onceSAll op (wrap64 (((itS (8 * size) op (X % 2 ^ (8 * size)) f n).1 : Nat) : Int)) (itS (8 * size) op (X % 2 ^ (8 * size)) f n).2 _ size w (u64_w64 (Nat.lt_of_lt_of_le (hok n).1 h64)) rfl hs hs8 (hok n).1 (hok n).2 hop)
  have G0 : itS (8 * size) op (X % 2 ^ (8 * size)) f 0 = (X % 2 ^ (8 * size), f) := rfl
  have GS := itS_succ (8 * size) op (X % 2 ^ (8 * size)) f
  obtain ⟨g, hg⟩ : ∃ g, g = itS (8 * size) op (X % 2 ^ (8 * size)) f := ⟨_, rfl⟩
  rw [← hg] at CO G0 GS ⊢
  generalize X % 2 ^ (8 * size) = A at *
  have HG0 := Lib.hid G0; have HGS := Lib.hid GS
  have hcl := cntS_lt size C
  obtain ⟨n, hn⟩ : ∃ n, n = cntS size C := ⟨_, rfl⟩
  rw [← hn] at hcl ⊢
  have h32 : size ≠ 8 → ((C : Int) % 32) = (n : Int) := fun e => by rw [hn]; unfold cntS; rw [if_neg e]; omega
  have h64' : size = 8 → ((C : Int) % 64) = (n : Int) := fun e => by rw [hn]; unfold cntS; rw [if_pos e]; omega
  have H32 := Lib.hid h32; have H64 := Lib.hid h64'
  clear ha hlt h64 hok G0 GS hg hn h32 h64' hop
  by_cases e8 : size = 8
  · subst e8
    have q := H64.out rfl
    go_enter Tryd.func47, Tryd.ntmps47
    go_wp2_with fail
    refine (CZ.out _).mono ?_
    rintro e w1 ⟨rfl, rfl⟩
    go_wp2
    go_loop [4, 13, 14] (fun fl v i => ∃ j : Nat, j ≤ n ∧ i = .int .i64 j ∧ v = .int .i64 (wrap64 (((g j).1 : Nat) : Int)) ∧ fl = .int .i64 (g j).2) (fun _ _ i => n - (intOf i).toNat)
    case atStart => exact ⟨0, Nat.zero_le _, rfl, by rw [HG0.out], by rw [HG0.out]⟩
    case round =>
      obtain ⟨j, hj, rfl, rfl, rfl⟩ := hrel
      by_cases hlt : j < n
      · have CJ := Lib.hid (CO.out j)
        have e1 := Lib.hid (HGS.out j)
        go_wp2_with fail
        refine (CJ.out _).mono ?_
        rintro e w3 ⟨rfl, rfl⟩
        go_wp2
        go_round
        case rel => exact ⟨j + 1, by omega, by go_num, by rw [e1.out], by rw [e1.out]⟩
        case measure => simp [intOf]; omega
      · have e : j = n := by omega
        subst e
        go_wp2
        go_ret2
        exact ⟨rfl, rfl⟩
  · have e8' : ((size : Int) == 8) = false := beq_eq_false_iff_ne.mpr (by omega)
    have q := H32.out e8
    clear e8
    go_enter Tryd.func47, Tryd.ntmps47
    go_wp2_with fail
    refine (CZ.out _).mono ?_
    rintro e w1 ⟨rfl, rfl⟩
    go_wp2
    go_loop [4, 13, 14] (fun fl v i => ∃ j : Nat, j ≤ n ∧ i = .int .i64 j ∧ v = .int .i64 (wrap64 (((g j).1 : Nat) : Int)) ∧ fl = .int .i64 (g j).2) (fun _ _ i => n - (intOf i).toNat)
    case atStart => exact ⟨0, Nat.zero_le _, rfl, by rw [HG0.out], by rw [HG0.out]⟩
    case round =>
      obtain ⟨j, hj, rfl, rfl, rfl⟩ := hrel
      by_cases hlt : j < n
      · have CJ := Lib.hid (CO.out j)
        have e1 := Lib.hid (HGS.out j)
        go_wp2_with fail
        refine (CJ.out _).mono ?_
        rintro e w3 ⟨rfl, rfl⟩
        go_wp2
        go_round
        case rel => exact ⟨j + 1, by omega, by go_num, by rw [e1.out], by rw [e1.out]⟩
        case measure => simp [intOf]; omega
      · have e : j = n := by omega
        subst e
        go_wp2
        go_ret2
        exact ⟨rfl, rfl⟩
theorem cnt31 {b : Int} {C : Nat} (h : IntKind.u64.wrap b = (C : Int)) : bits .and .i64 b 31 = ((C % 32 : Nat) : Int) := by
  show IntKind.i64.wrap ((BitVec.ofInt 64 b &&& BitVec.ofInt 64 31).toNat : Int) = _
  rw [BitVec.toNat_and, xN h, show (BitVec.ofInt 64 31).toNat = 2 ^ 5 - 1 by decide +kernel, Nat.and_two_pow_sub_one_eq_mod]
  have e : ∀ y : Nat, y < 64 → IntKind.i64.wrap (y : Int) = (y : Int) := fun y hy => by
    have e : IntKind.i64.wrap (y : Int) = if (y : Int) % 18446744073709551616 ≥ 9223372036854775808 then (y : Int) % 18446744073709551616 - 18446744073709551616 else (y : Int) % 18446744073709551616 := by simp [IntKind.wrap, IntKind.bits, IntKind.signed]
    rw [e]; split <;> omega
  exact e _ (by omega)
theorem cnt63 {b : Int} {C : Nat} (h : IntKind.u64.wrap b = (C : Int)) : bits .and .i64 b 63 = ((C % 64 : Nat) : Int) := by
  show IntKind.i64.wrap ((BitVec.ofInt 64 b &&& BitVec.ofInt 64 63).toNat : Int) = _
  rw [BitVec.toNat_and, xN h, show (BitVec.ofInt 64 63).toNat = 2 ^ 6 - 1 by decide +kernel, Nat.and_two_pow_sub_one_eq_mod]
  have e : ∀ y : Nat, y < 64 → IntKind.i64.wrap (y : Int) = (y : Int) := fun y hy => by
    have e : IntKind.i64.wrap (y : Int) = if (y : Int) % 18446744073709551616 ≥ 9223372036854775808 then (y : Int) % 18446744073709551616 - 18446744073709551616 else (y : Int) % 18446744073709551616 := by simp [IntKind.wrap, IntKind.bits, IntKind.signed]
    rw [e]; split <;> omega
  exact e _ (by omega)
theorem shiftAll_u8 (op a b f : Int) (X C A : Nat) (w : World) (hop : ShOp op) (ha : IntKind.u64.wrap a = (X : Int)) (hb : IntKind.u64.wrap b = (C : Int)) (hA : A = X % 2 ^ 8) (hf : FlOK f) : Calls Tryd.prog 48 #[.int .i64 op, .int .i64 a, .int .i64 b, .int .i64 f] w fun e w' => e = .returned (.tuple #[.int .i64 (wrap64 (((itS 8 op A f (cntS 1 C)).1 : Nat) : Int)), .int .i64 (itS 8 op A f (cntS 1 C)).2, .int .i64 0]) ∧ Below w.heap.size w w' := by
  have eA := low_u8 ha hA
  have lA : A < 2 ^ 8 := by rw [hA]; exact Nat.mod_lt _ (by decide)
  have hok := itS_ok (w := 8) (op := op) (f := f) (by decide) lA hf
  have hcn : bits .and .i64 b 31 = ((cntS 1 C : Nat) : Int) := cnt31 hb
  rcases hop with rfl | rfl | rfl | rfl | rfl
  · exact shift20_u8 a b f (cntS 1 C) hcn (cntS_lt 1 C) (itS 8 20 A f) eA rfl (Lib.hid fun i w _ => rotateLeft_u8 (itS 8 20 A f i).1 (itS 8 20 A f i).2 (hok i).1 w) w
  · exact shift21_u8 a b f (cntS 1 C) hcn (cntS_lt 1 C) (itS 8 21 A f) eA rfl (Lib.hid fun i w _ => rotateRight_u8 (itS 8 21 A f i).1 (itS 8 21 A f i).2 (hok i).1 w) w
  · exact shift22_u8 a b f (cntS 1 C) hcn (cntS_lt 1 C) (itS 8 22 A f) eA rfl (Lib.hid fun i w _ => shiftLeft_u8 (itS 8 22 A f i).1 (itS 8 22 A f i).2 (hok i).1 w) w
  · exact shift23_u8 a b f (cntS 1 C) hcn (cntS_lt 1 C) (itS 8 23 A f) eA rfl (Lib.hid fun i w _ => shiftRight_u8 (itS 8 23 A f i).1 (itS 8 23 A f i).2 (hok i).1 w) w
  · exact shift24_u8 a b f (cntS 1 C) hcn (cntS_lt 1 C) (itS 8 24 A f) eA rfl (Lib.hid fun i w _ => shiftRightSigned_u8 (itS 8 24 A f i).1 (itS 8 24 A f i).2 (hok i).1 w) w
theorem shiftAll_u16 (op a b f : Int) (X C A : Nat) (w : World) (hop : ShOp op) (ha : IntKind.u64.wrap a = (X : Int)) (hb : IntKind.u64.wrap b = (C : Int)) (hA : A = X % 2 ^ 16) (hf : FlOK f) : Calls Tryd.prog 49 #[.int .i64 op, .int .i64 a, .int .i64 b, .int .i64 f] w fun e w' => e = .returned (.tuple #[.int .i64 (wrap64 (((itS 16 op A f (cntS 2 C)).1 : Nat) : Int)), .int .i64 (itS 16 op A f (cntS 2 C)).2, .int .i64 0]) ∧ Below w.heap.size w w' := by
  have eA := low_u16 ha hA
  have lA : A < 2 ^ 16 := by rw [hA]; exact Nat.mod_lt _ (by decide)
  have hok := itS_ok (w := 16) (op := op) (f := f) (by decide) lA hf
  have hcn : bits .and .i64 b 31 = ((cntS 2 C : Nat) : Int) := cnt31 hb
  rcases hop with rfl | rfl | rfl | rfl | rfl
  · exact shift20_u16 a b f (cntS 2 C) hcn (cntS_lt 2 C) (itS 16 20 A f) eA rfl (Lib.hid fun i w _ => rotateLeft_u16 (itS 16 20 A f i).1 (itS 16 20 A f i).2 (hok i).1 w) w
  · exact shift21_u16 a b f (cntS 2 C) hcn (cntS_lt 2 C) (itS 16 21 A f) eA rfl (Lib.hid fun i w _ => rotateRight_u16 (itS 16 21 A f i).1 (itS 16 21 A f i).2 (hok i).1 w) w
  · exact shift22_u16 a b f (cntS 2 C) hcn (cntS_lt 2 C) (itS 16 22 A f) eA rfl (Lib.hid fun i w _ => shiftLeft_u16 (itS 16 22 A f i).1 (itS 16 22 A f i).2 (hok i).1 w) w
  · exact shift23_u16 a b f (cntS 2 C) hcn (cntS_lt 2 C) (itS 16 23 A f) eA rfl (Lib.hid fun i w _ => shiftRight_u16 (itS 16 23 A f i).1 (itS 16 23 A f i).2 (hok i).1 w) w
  · exact shift24_u16 a b f (cntS 2 C) hcn (cntS_lt 2 C) (itS 16 24 A f) eA rfl (Lib.hid fun i w _ => shiftRightSigned_u16 (itS 16 24 A f i).1 (itS 16 24 A f i).2 (hok i).1 w) w
theorem shiftAll_u32 (op a b f : Int) (X C A : Nat) (w : World) (hop : ShOp op) (ha : IntKind.u64.wrap a = (X : Int)) (hb : IntKind.u64.wrap b = (C : Int)) (hA : A = X % 2 ^ 32) (hf : FlOK f) : Calls Tryd.prog 50 #[.int .i64 op, .int .i64 a, .int .i64 b, .int .i64 f] w fun e w' => e = .returned (.tuple #[.int .i64 (wrap64 (((itS 32 op A f (cntS 4 C)).1 : Nat) : Int)), .int .i64 (itS 32 op A f (cntS 4 C)).2, .int .i64 0]) ∧ Below w.heap.size w w' := by
  have eA := low_u32 ha hA
  have lA : A < 2 ^ 32 := by rw [hA]; exact Nat.mod_lt _ (by decide)
  have hok := itS_ok (w := 32) (op := op) (f := f) (by decide) lA hf
  have hcn : bits .and .i64 b 31 = ((cntS 4 C : Nat) : Int) := cnt31 hb
  rcases hop with rfl | rfl | rfl | rfl | rfl
  · exact shift20_u32 a b f (cntS 4 C) hcn (cntS_lt 4 C) (itS 32 20 A f) eA rfl (Lib.hid fun i w _ => rotateLeft_u32 (itS 32 20 A f i).1 (itS 32 20 A f i).2 (hok i).1 w) w
  · exact shift21_u32 a b f (cntS 4 C) hcn (cntS_lt 4 C) (itS 32 21 A f) eA rfl (Lib.hid fun i w _ => rotateRight_u32 (itS 32 21 A f i).1 (itS 32 21 A f i).2 (hok i).1 w) w
  · exact shift22_u32 a b f (cntS 4 C) hcn (cntS_lt 4 C) (itS 32 22 A f) eA rfl (Lib.hid fun i w _ => shiftLeft_u32 (itS 32 22 A f i).1 (itS 32 22 A f i).2 (hok i).1 w) w
  · exact shift23_u32 a b f (cntS 4 C) hcn (cntS_lt 4 C) (itS 32 23 A f) eA rfl (Lib.hid fun i w _ => shiftRight_u32 (itS 32 23 A f i).1 (itS 32 23 A f i).2 (hok i).1 w) w
  · exact shift24_u32 a b f (cntS 4 C) hcn (cntS_lt 4 C) (itS 32 24 A f) eA rfl (Lib.hid fun i w _ => shiftRightSigned_u32 (itS 32 24 A f i).1 (itS 32 24 A f i).2 (hok i).1 w) w
theorem shiftAll_u64 (op a b f : Int) (X C A : Nat) (w : World) (hop : ShOp op) (ha : IntKind.u64.wrap a = (X : Int)) (hb : IntKind.u64.wrap b = (C : Int)) (hA : A = X % 2 ^ 64) (hf : FlOK f) : Calls Tryd.prog 51 #[.int .i64 op, .int .i64 a, .int .i64 b, .int .i64 f] w fun e w' => e = .returned (.tuple #[.int .i64 (wrap64 (((itS 64 op A f (cntS 8 C)).1 : Nat) : Int)), .int .i64 (itS 64 op A f (cntS 8 C)).2, .int .i64 0]) ∧ Below w.heap.size w w' := by
  have eA := low_u64 ha hA
  have lA : A < 2 ^ 64 := by rw [hA]; exact Nat.mod_lt _ (by decide)
  have hok := itS_ok (w := 64) (op := op) (f := f) (by decide) lA hf
  have hcn : bits .and .i64 b 63 = ((cntS 8 C : Nat) : Int) := cnt63 hb
  rcases hop with rfl | rfl | rfl | rfl | rfl
  · exact shift20_u64 a b f (cntS 8 C) hcn (cntS_lt 8 C) (itS 64 20 A f) eA rfl (Lib.hid fun i w _ => rotateLeft_u64 (itS 64 20 A f i).1 (itS 64 20 A f i).2 (hok i).1 w) w
  · exact shift21_u64 a b f (cntS 8 C) hcn (cntS_lt 8 C) (itS 64 21 A f) eA rfl (Lib.hid fun i w _ => rotateRight_u64 (itS 64 21 A f i).1 (itS 64 21 A f i).2 (hok i).1 w) w
  · exact shift22_u64 a b f (cntS 8 C) hcn (cntS_lt 8 C) (itS 64 22 A f) eA rfl (Lib.hid fun i w _ => shiftLeft_u64 (itS 64 22 A f i).1 (itS 64 22 A f i).2 (hok i).1 w) w
  · exact shift23_u64 a b f (cntS 8 C) hcn (cntS_lt 8 C) (itS 64 23 A f) eA rfl (Lib.hid fun i w _ => shiftRight_u64 (itS 64 23 A f i).1 (itS 64 23 A f i).2 (hok i).1 w) w
  · exact shift24_u64 a b f (cntS 8 C) hcn (cntS_lt 8 C) (itS 64 24 A f) eA rfl (Lib.hid fun i w _ => shiftRightSigned_u64 (itS 64 24 A f i).1 (itS 64 24 A f i).2 (hok i).1 w) w
set_option maxHeartbeats 1000000 in
theorem ShiftI_u8 (op a b r0 r1 r2 : Int) (c p z s o : Bool) (w : World) (H : Hid (∀ W, Calls Tryd.prog 48 #[.int .i64 op, .int .i64 a, .int .i64 b, .int .i64 (flV c p z s o)] W fun e w' => e = .returned (.tuple #[.int .i64 r0, .int .i64 r1, .int .i64 r2]) ∧ Below W.heap.size W w')) :
    Calls Tryd.prog 18 #[.int .i64 op, .int .i64 1, .int .i64 a, .int .i64 b, .int .i64 (flV c p z s o)] w fun e w' => e = .returned (.tuple #[.int .i64 r0, .int .i64 r1, .int .i64 r2]) ∧ Below w.heap.size w w' := by
  have CC := Lib.hid (fun w => call1 48 49 50 51 op a b r0 r1 r2 c p z s o w (by intro args w; kernel_rfl) H)
  generalize flV c p z s o = f at *
  clear H
  go_enter Tryd.func18, Tryd.ntmps18
  go_wp2_with fail
  refine (CC.out _).mono ?_
  rintro e w1 ⟨rfl, hb⟩
  have B1 := Lib.hid hb
  clear hb
  go_wp2
  go_ret3
  exact ⟨rfl, B1.out⟩
set_option maxHeartbeats 1000000 in
theorem ShiftI_u16 (op a b r0 r1 r2 : Int) (c p z s o : Bool) (w : World) (H : Hid (∀ W, Calls Tryd.prog 49 #[.int .i64 op, .int .i64 a, .int .i64 b, .int .i64 (flV c p z s o)] W fun e w' => e = .returned (.tuple #[.int .i64 r0, .int .i64 r1, .int .i64 r2]) ∧ Below W.heap.size W w')) :
    Calls Tryd.prog 18 #[.int .i64 op, .int .i64 2, .int .i64 a, .int .i64 b, .int .i64 (flV c p z s o)] w fun e w' => e = .returned (.tuple #[.int .i64 r0, .int .i64 r1, .int .i64 r2]) ∧ Below w.heap.size w w' := by
  have CC := Lib.hid (fun w => call2 48 49 50 51 op a b r0 r1 r2 c p z s o w (by intro args w; kernel_rfl) H)
  generalize flV c p z s o = f at *
  clear H
  go_enter Tryd.func18, Tryd.ntmps18
  go_wp2_with fail
  refine (CC.out _).mono ?_
  rintro e w1 ⟨rfl, hb⟩
  have B1 := Lib.hid hb
  clear hb
  go_wp2
  go_ret3
  exact ⟨rfl, B1.out⟩
set_option maxHeartbeats 1000000 in
theorem ShiftI_u32 (op a b r0 r1 r2 : Int) (c p z s o : Bool) (w : World) (H : Hid (∀ W, Calls Tryd.prog 50 #[.int .i64 op, .int .i64 a, .int .i64 b, .int .i64 (flV c p z s o)] W fun e w' => e = .returned (.tuple #[.int .i64 r0, .int .i64 r1, .int .i64 r2]) ∧ Below W.heap.size W w')) :
    Calls Tryd.prog 18 #[.int .i64 op, .int .i64 4, .int .i64 a, .int .i64 b, .int .i64 (flV c p z s o)] w fun e w' => e = .returned (.tuple #[.int .i64 r0, .int .i64 r1, .int .i64 r2]) ∧ Below w.heap.size w w' := by
  have CC := Lib.hid (fun w => call4 48 49 50 51 op a b r0 r1 r2 c p z s o w (by intro args w; kernel_rfl) H)
  generalize flV c p z s o = f at *
  clear H
  go_enter Tryd.func18, Tryd.ntmps18
  go_wp2_with fail
  refine (CC.out _).mono ?_
  rintro e w1 ⟨rfl, hb⟩
  have B1 := Lib.hid hb
  clear hb
  go_wp2
  go_ret3
  exact ⟨rfl, B1.out⟩
set_option maxHeartbeats 1000000 in
theorem ShiftI_u64 (op a b r0 r1 r2 : Int) (c p z s o : Bool) (w : World) (H : Hid (∀ W, Calls Tryd.prog 51 #[.int .i64 op, .int .i64 a, .int .i64 b, .int .i64 (flV c p z s o)] W fun e w' => e = .returned (.tuple #[.int .i64 r0, .int .i64 r1, .int .i64 r2]) ∧ Below W.heap.size W w')) :
    Calls Tryd.prog 18 #[.int .i64 op, .int .i64 8, .int .i64 a, .int .i64 b, .int .i64 (flV c p z s o)] w fun e w' => e = .returned (.tuple #[.int .i64 r0, .int .i64 r1, .int .i64 r2]) ∧ Below w.heap.size w w' := by
  have CC := Lib.hid (fun w => call8 48 49 50 51 op a b r0 r1 r2 c p z s o w (by intro args w; kernel_rfl) H)
  generalize flV c p z s o = f at *
  clear H
  go_enter Tryd.func18, Tryd.ntmps18
  go_wp2_with fail
  refine (CC.out _).mono ?_
  rintro e w1 ⟨rfl, hb⟩
  have B1 := Lib.hid hb
  clear hb
  go_wp2
  go_ret3
  exact ⟨rfl, B1.out⟩
set_option maxHeartbeats 1000000 in
theorem ShiftIBad (op n a b f : Int) (w : World) (aR : Addr) (hs : SentF w aR) (hw : (Lit.int .i64 f).wf = true) (h : ¬ okSize n ∨ ¬ FlOK f) :
    Calls Tryd.prog 18 #[.int .i64 op, .int .i64 n, .int .i64 a, .int .i64 b, .int .i64 f] w fun e w' => e = .returned (.tuple #[.int .i64 0, .int .i64 0, .int .i64 4]) ∧ Below w.heap.size w w' := by
  have CC := Lib.hid (callBad 48 49 50 51 op n a b f w aR hs hw h)
  clear h hw hs
  go_enter Tryd.func18, Tryd.ntmps18
  go_wp2_with fail
  refine (CC.out).mono ?_
  rintro e w1 ⟨rfl, hb⟩
  have B1 := Lib.hid hb
  clear hb
  go_wp2
  go_ret3
  exact ⟨rfl, B1.out⟩
set_option maxHeartbeats 1000000 in
theorem ShiftSYes (op n a b v g : Int) (c p z s o : Bool) (w : World) (hop : ShOp op) (hn : okSize n) (H : Hid (∀ w, Calls Tryd.prog 47 #[.int .i64 op, .int .i64 n, .int .i64 a, .int .i64 b, .int .i64 (flV c p z s o)] w fun e w' => e = .returned (.tuple #[.int .i64 v, .int .i64 g]) ∧ w = w')) : Calls Tryd.prog 17 #[.int .i64 op, .int .i64 n, .int .i64 a, .int .i64 b, .int .i64 (flV c p z s o)] w fun e w' => e = .returned (.tuple #[.int .i64 v, .int .i64 g, .int .i64 0]) ∧ w = w' := by
  have CZ := Lib.hid (fun w => sizeYes n w hn)
  have CF := Lib.hid (flagsYesS c p z s o)
  have CI := Lib.hid (fun w => inYes op 20 24 w (by unfold ShOp at hop; omega) (by unfold ShOp at hop; omega))
  generalize flV c p z s o = f at *
  clear hn hop
  go_enter Tryd.func17, Tryd.ntmps17
  go_wp2_with fail
  refine (CZ.out _).mono ?_
  rintro e w1 ⟨rfl, rfl⟩
  go_wp2_with fail
  refine (CF.out _).mono ?_
  rintro e w1 ⟨rfl, e1⟩
  obtain rfl := e1
  go_wp2_with fail
  refine (CI.out _).mono ?_
  rintro e w1 ⟨rfl, e1⟩
  obtain rfl := e1
  go_wp2_with fail
  refine (H.out _).mono ?_
  rintro e w1 ⟨rfl, rfl⟩
  go_wp2
  go_ret3
  exact ⟨rfl, rfl⟩
set_option maxHeartbeats 1000000 in
theorem ShiftSNo (op n a b : Int) (c p z s o : Bool) (w : World) (hop : ¬ ShOp op) (hn : okSize n) : Calls Tryd.prog 17 #[.int .i64 op, .int .i64 n, .int .i64 a, .int .i64 b, .int .i64 (flV c p z s o)] w fun e w' => e = .returned (.tuple #[.int .i64 0, .int .i64 0, .int .i64 11]) ∧ w = w' := by
  have CZ := Lib.hid (fun w => sizeYes n w hn)
  have CF := Lib.hid (flagsYesS c p z s o)
  have CI := Lib.hid (fun w => inNo op 20 24 w (by unfold ShOp at hop; omega))
  generalize flV c p z s o = f at *
  clear hn hop
  go_enter Tryd.func17, Tryd.ntmps17
  go_wp2_with fail
  refine (CZ.out _).mono ?_
  rintro e w1 ⟨rfl, rfl⟩
  go_wp2_with fail
  refine (CF.out _).mono ?_
  rintro e w1 ⟨rfl, e1⟩
  obtain rfl := e1
  go_wp2_with fail
  refine (CI.out _).mono ?_
  rintro e w1 ⟨rfl, e1⟩
  obtain rfl := e1
  go_wp2
  go_ret3
  exact ⟨rfl, rfl⟩
set_option maxHeartbeats 1000000 in
theorem ShiftSBad (op n a b f : Int) (w : World) (hw : (Lit.int .i64 f).wf = true) (h : ¬ okSize n ∨ ¬ FlOK f) :
    Calls Tryd.prog 17 #[.int .i64 op, .int .i64 n, .int .i64 a, .int .i64 b, .int .i64 f] w fun e w' => e = .returned (.tuple #[.int .i64 0, .int .i64 0, .int .i64 4]) ∧ w = w' := by
  by_cases hn : okSize n
  · have CZ := Lib.hid (fun w => sizeYes n w hn)
    have CF := Lib.hid (fun w => flagsNoS f w hw (h.resolve_left (fun e => e hn)))
    clear h hn hw
    go_enter Tryd.func17, Tryd.ntmps17
    go_wp2_with fail
    refine (CZ.out _).mono ?_
    rintro e w1 ⟨rfl, rfl⟩
    go_wp2_with fail
    refine (CF.out _).mono ?_
    rintro e w1 ⟨rfl, e1⟩
    obtain rfl := e1
    go_wp2
    go_ret3
    exact ⟨rfl, rfl⟩
  · have CZ := Lib.hid (fun w => sizeNo n w hn)
    clear h hn hw
    go_enter Tryd.func17, Tryd.ntmps17
    go_wp2_with fail
    refine (CZ.out _).mono ?_
    rintro e w1 ⟨rfl, rfl⟩
    go_wp2
    go_ret3
    exact ⟨rfl, rfl⟩
/-- what Shift answers of right arguments -/
def ShiftOut (op n a b f v g k : Int) : Prop :=
  ∃ (size X C : Nat), n = (size : Int) ∧ IntKind.u64.wrap a = (X : Int) ∧ IntKind.u64.wrap b = (C : Int) ∧ ((ShOp op ∧ v = wrap64 (((itS (8 * size) op (X % 2 ^ (8 * size)) f (cntS size C)).1 : Nat) : Int) ∧ g = (itS (8 * size) op (X % 2 ^ (8 * size)) f (cntS size C)).2 ∧ k = 0) ∨ (¬ ShOp op ∧ v = 0 ∧ g = 0 ∧ k = 11))
theorem ShiftOut.one {op n a b f v g k v' g' k' : Int} (h : ShiftOut op n a b f v g k) (h' : ShiftOut op n a b f v' g' k') : v = v' ∧ g = g' ∧ k = k' := by
  obtain ⟨s, X, C, e1, e2, e3, h⟩ := h
  obtain ⟨s', X', C', e1', e2', e3', h'⟩ := h'
  obtain rfl : s = s' := by omega
  obtain rfl : X = X' := by omega
  obtain rfl : C = C' := by omega
  rcases h with ⟨h1, rfl, rfl, rfl⟩ | ⟨h1, rfl, rfl, rfl⟩ <;> rcases h' with ⟨h1', rfl, rfl, rfl⟩ | ⟨h1', rfl, rfl, rfl⟩
  · exact ⟨rfl, rfl, rfl⟩
  · exact absurd h1 h1'
  · exact absurd h1' h1
  · exact ⟨rfl, rfl, rfl⟩
theorem ShiftI (op n a b : Int) (c p z s o : Bool) (w : World) (hn : okSize n) : ∃ v g k, ShiftOut op n a b (flV c p z s o) v g k ∧ Calls Tryd.prog 18 #[.int .i64 op, .int .i64 n, .int .i64 a, .int .i64 b, .int .i64 (flV c p z s o)] w fun e w' => e = .returned (.tuple #[.int .i64 v, .int .i64 g, .int .i64 k]) ∧ Below w.heap.size w w' := by
  obtain ⟨X, ha⟩ := natU a
  obtain ⟨C, hb⟩ := natU b
  by_cases hop : ShOp op
  · rcases hn with rfl | rfl | rfl | rfl
    · exact ⟨_, _, _, ⟨1, X, C, rfl, ha, hb, .inl ⟨hop, rfl, rfl, rfl⟩⟩, ShiftI_u8 op a b _ _ _ c p z s o w (Lib.hid fun W => shiftAll_u8 op a b _ X C _ W hop ha hb rfl ⟨c, p, z, s, o, rfl⟩)⟩
    · exact ⟨_, _, _, ⟨2, X, C, rfl, ha, hb, .inl ⟨hop, rfl, rfl, rfl⟩⟩, ShiftI_u16 op a b _ _ _ c p z s o w (Lib.hid fun W => shiftAll_u16 op a b _ X C _ W hop ha hb rfl ⟨c, p, z, s, o, rfl⟩)⟩
    · exact ⟨_, _, _, ⟨4, X, C, rfl, ha, hb, .inl ⟨hop, rfl, rfl, rfl⟩⟩, ShiftI_u32 op a b _ _ _ c p z s o w (Lib.hid fun W => shiftAll_u32 op a b _ X C _ W hop ha hb rfl ⟨c, p, z, s, o, rfl⟩)⟩
    · exact ⟨_, _, _, ⟨8, X, C, rfl, ha, hb, .inl ⟨hop, rfl, rfl, rfl⟩⟩, ShiftI_u64 op a b _ _ _ c p z s o w (Lib.hid fun W => shiftAll_u64 op a b _ X C _ W hop ha hb rfl ⟨c, p, z, s, o, rfl⟩)⟩
  · have hne : op ≠ 20 ∧ op ≠ 21 ∧ op ≠ 22 ∧ op ≠ 23 ∧ op ≠ 24 := by unfold ShOp at hop; omega
    by_cases hr : 1 ≤ op ∧ op ≤ 44
    · rcases hn with rfl | rfl | rfl | rfl
      · exact ⟨_, _, _, ⟨1, X, C, rfl, ha, hb, .inr ⟨hop, rfl, rfl, rfl⟩⟩, ShiftI_u8 op a b _ _ _ c p z s o w (Lib.hid fun W => shiftNil_u8 op a b _ hr.1 hr.2 hne W)⟩
      · exact ⟨_, _, _, ⟨2, X, C, rfl, ha, hb, .inr ⟨hop, rfl, rfl, rfl⟩⟩, ShiftI_u16 op a b _ _ _ c p z s o w (Lib.hid fun W => shiftNil_u16 op a b _ hr.1 hr.2 hne W)⟩
      · exact ⟨_, _, _, ⟨4, X, C, rfl, ha, hb, .inr ⟨hop, rfl, rfl, rfl⟩⟩, ShiftI_u32 op a b _ _ _ c p z s o w (Lib.hid fun W => shiftNil_u32 op a b _ hr.1 hr.2 hne W)⟩
      · exact ⟨_, _, _, ⟨8, X, C, rfl, ha, hb, .inr ⟨hop, rfl, rfl, rfl⟩⟩, ShiftI_u64 op a b _ _ _ c p z s o w (Lib.hid fun W => shiftNil_u64 op a b _ hr.1 hr.2 hne W)⟩
    · rcases hn with rfl | rfl | rfl | rfl
      · exact ⟨_, _, _, ⟨1, X, C, rfl, ha, hb, .inr ⟨hop, rfl, rfl, rfl⟩⟩, ShiftI_u8 op a b _ _ _ c p z s o w (Lib.hid fun W => shiftNo_u8 op a b _ hr W)⟩
      · exact ⟨_, _, _, ⟨2, X, C, rfl, ha, hb, .inr ⟨hop, rfl, rfl, rfl⟩⟩, ShiftI_u16 op a b _ _ _ c p z s o w (Lib.hid fun W => shiftNo_u16 op a b _ hr W)⟩
      · exact ⟨_, _, _, ⟨4, X, C, rfl, ha, hb, .inr ⟨hop, rfl, rfl, rfl⟩⟩, ShiftI_u32 op a b _ _ _ c p z s o w (Lib.hid fun W => shiftNo_u32 op a b _ hr W)⟩
      · exact ⟨_, _, _, ⟨8, X, C, rfl, ha, hb, .inr ⟨hop, rfl, rfl, rfl⟩⟩, ShiftI_u64 op a b _ _ _ c p z s o w (Lib.hid fun W => shiftNo_u64 op a b _ hr W)⟩
theorem ShiftS (op n a b : Int) (c p z s o : Bool) (w : World) (hn : okSize n) : ∃ v g k, ShiftOut op n a b (flV c p z s o) v g k ∧ Calls Tryd.prog 17 #[.int .i64 op, .int .i64 n, .int .i64 a, .int .i64 b, .int .i64 (flV c p z s o)] w fun e w' => e = .returned (.tuple #[.int .i64 v, .int .i64 g, .int .i64 k]) ∧ w = w' := by
  obtain ⟨X, ha⟩ := natU a
  obtain ⟨C, hb⟩ := natU b
  obtain ⟨size, rfl, h1, h8⟩ := sizeN hn
  by_cases hop : ShOp op
  · exact ⟨_, _, _, ⟨size, X, C, rfl, ha, hb, .inl ⟨hop, rfl, rfl, rfl⟩⟩, ShiftSYes op _ a b _ _ c p z s o w hop hn (Lib.hid fun W => shiftS op a b _ X C size W hop ha hb h1 h8 ⟨c, p, z, s, o, rfl⟩)⟩
  · exact ⟨_, _, _, ⟨size, X, C, rfl, ha, hb, .inr ⟨hop, rfl, rfl, rfl⟩⟩, ShiftSNo op _ a b c p z s o w hop hn⟩
/-- both answer alike -/
theorem shiftBoth (op n a b : Int) (c p z s o : Bool) (hn : okSize n) : ∃ v g k, (∀ w, Calls Tryd.prog 18 #[.int .i64 op, .int .i64 n, .int .i64 a, .int .i64 b, .int .i64 (flV c p z s o)] w fun e w' => e = .returned (.tuple #[.int .i64 v, .int .i64 g, .int .i64 k]) ∧ Below w.heap.size w w') ∧
    (∀ w, Calls Tryd.prog 17 #[.int .i64 op, .int .i64 n, .int .i64 a, .int .i64 b, .int .i64 (flV c p z s o)] w fun e w' => e = .returned (.tuple #[.int .i64 v, .int .i64 g, .int .i64 k]) ∧ w = w') := by
  obtain ⟨v, g, k, h, _⟩ := ShiftS op n a b c p z s o default hn
  refine ⟨v, g, k, fun w => ?_, fun w => ?_⟩
  · obtain ⟨v', g', k', h', hc⟩ := ShiftI op n a b c p z s o w hn
    obtain ⟨rfl, rfl, rfl⟩ := h.one h'
    exact hc
  · obtain ⟨v', g', k', h', hc⟩ := ShiftS op n a b c p z s o w hn
    obtain ⟨rfl, rfl, rfl⟩ := h.one h'
    exact hc
end Go.Proofs.YtifpcfhfglkbcaaDoor
