/-
  What l06If, l06Bit, l06Szp and l06Add of spec do: the flags of a number, and sums and differences bit by bit with their flags; conditions: those in each head.
-/
import Derived.Test.YtifpcfhfglkbcaaDoorWalkHolds
import Derived.Test.YtifpcfhfglkbcaaDoorWalkSign
import Derived.Test.YtifpcfhfglkbcaaDoorMathAl
namespace Go.Proofs.YtifpcfhfglkbcaaDoor
open Go.RowKit
set_option linter.unusedVariables false
set_option linter.unusedSimpArgs false
theorem ret_k2 {k : IntKind} {a b : Int} (h : a = b) : Ending.returned (.int k a) = .returned (.int k b) := by rw [h]
theorem ret_s2 {a b c d : Int} (h : a = b) (h2 : c = d) : Ending.returned (.tuple #[.int .i64 a, .int .i64 c]) = .returned (.tuple #[.int .i64 b, .int .i64 d]) := by rw [h, h2]
set_option maxHeartbeats 400000 in
theorem ifS (b : Bool) (f : Int) (w : World) : Calls Tryd.prog 70 #[.bool b, .int .i64 f] w fun e w' => e = .returned (.int .i64 (bif b then f else 0)) ∧ w = w' := by
  cases b
  all_goals
    go_enter Tryd.func70, Tryd.ntmps70
    go_wp2
    go_ret
    exact ⟨rfl, rfl⟩
set_option maxHeartbeats 400000 in
theorem bitS6 (b : Bool) (w : World) : Calls Tryd.prog 173 #[.bool b] w fun e w' => e = .returned (.int .i64 (bif b then 1 else 0)) ∧ w = w' := by
  cases b
  all_goals
    go_enter Tryd.func173, Tryd.ntmps173
    go_wp2
    go_ret
    exact ⟨rfl, rfl⟩
def cntN (X : Nat) : Nat → Nat
  | 0 => 0
  | k + 1 => cntN X k + X / 2 ^ k % 2
theorem cntN_le (X : Nat) : ∀ k, cntN X k ≤ k
  | 0 => Nat.le_refl _
  | k + 1 => by have := cntN_le X k; unfold cntN; omega
theorem cnt_low (X : Nat) : cntN X 8 = cntN (X % 256) 8 := by
  have h : ∀ k, k ≤ 8 → cntN X k = cntN (X % 256) k := by
    intro k hk
    induction k with
    | zero => rfl
    | succ k ih =>
      unfold cntN
      rw [ih (by omega), show (256 : Nat) = 2 ^ 8 from rfl, bit_mod (by omega)]
  exact h 8 (Nat.le_refl _)
theorem cnt_pop : ∀ n, n < 256 → cntN n 8 % 2 = Lib.onesCount n % 2 := by decide +kernel
theorem cnt_par {w X : Nat} (hw : 8 ≤ w) : (cntN X 8 % 2 == 0) = parN (X % 2 ^ w) := by
  unfold parN
  have e : X % 2 ^ w % 256 = X % 256 := Nat.mod_mod_of_dvd _ (show 2 ^ 8 ∣ 2 ^ w from Nat.pow_dvd_pow 2 hw)
  rw [e, cnt_low, cnt_pop _ (Nat.mod_lt _ (by decide))]
theorem eq_one {b : Nat} : (((b : Nat) : Int) == 1) = decide (b = 1) := by
  by_cases h : b = 1
  · subst h; rfl
  · rw [decide_eq_false h, beq_eq_false_iff_ne.mpr (by omega)]
theorem w64_zero {U : Nat} (h : U < 18446744073709551616) : (wrap64 (U : Int) == 0) = (U == 0) := by
  by_cases e : U = 0
  · subst e; rw [show wrap64 ((0 : Nat) : Int) = 0 by unfold wrap64; omega]; rfl
  · rw [beq_eq_false_iff_ne.mpr e, beq_eq_false_iff_ne.mpr]; unfold wrap64; omega
theorem par_i (n : Nat) : (((n : Int) % 2) == 0) = (n % 2 == 0) := by
  rcases (by omega : n % 2 = 0 ∨ n % 2 = 1) with h | h
  · rw [h, show ((n : Int) % 2) = 0 by omega]; rfl
  · rw [h, show ((n : Int) % 2) = 1 by omega]; rfl
theorem par_t (n : Nat) : (((n : Int).tmod 2) == 0) = (n % 2 == 0) := by
  rw [Int.tmod_eq_emod_of_nonneg (by omega)]; exact par_i n
theorem pow_le64 {s : Nat} (h : s ≤ 8) : 2 ^ (8 * s) ≤ 18446744073709551616 := Nat.le_trans (Nat.pow_le_pow_right (by decide) (show 8 * s ≤ 64 by omega)) (by decide)
theorem szp_fin {w X b n U : Nat} (hw : 8 ≤ w) (hw2 : w ≤ 64) (hb : b = X / 2 ^ (w - 1) % 2) (hn : n = cntN X 8) (hU : U = X % 2 ^ w) :
    bits .or .i64 (bits .or .i64 (bif ((b : Int) == 1) then 128 else 0) (bif (wrap64 (U : Int) == 0) then 64 else 0)) (bif (n % 2 == 0) then 4 else 0) = szp w (X % 2 ^ w) := by
  subst hb hn hU
  have hlt : X % 2 ^ w < 2 ^ w := Nat.mod_lt _ (Nat.two_pow_pos w)
  have h64 : 2 ^ w ≤ 18446744073709551616 := Nat.le_trans (Nat.pow_le_pow_right (by decide) hw2) (by decide)
  rw [eq_one, w64_zero (by omega), cnt_par hw, or3]
  unfold szp
  congr 1
  refine decide_eq_decide.mpr ?_
  rw [hi_iff (by omega) hlt, bit_mod (by omega)]
set_option maxHeartbeats 1000000 in
theorem szpS (v : Int) (X size : Nat) (w : World) (hX : IntKind.u64.wrap v = (X : Int)) (hs : 1 ≤ size) (hs8 : size ≤ 8) :
    Calls Tryd.prog 29 #[.int .i64 (size : Int), .int .i64 v] w fun e w' => e = .returned (.int .i64 (szp (8 * size) (X % 2 ^ (8 * size)))) ∧ w = w' := by
  have HX := Lib.hid hX
  have HE := Lib.hid (fun b n (hb : b = X / 2 ^ (8 * size - 1) % 2) (hn : n = cntN X 8) => szp_fin (w := 8 * size) (X := X) (b := b) (n := n) (U := X % 2 ^ (8 * size)) (by omega) (by omega) hb hn rfl)
  have CI := Lib.hid ifS
  obtain ⟨n8, hn8⟩ : ∃ n, n = cntN X 8 := ⟨_, rfl⟩
  have hle := cntN_le X 8
  rw [← hn8] at hle
  have HN := Lib.hid hn8
  obtain ⟨b, hb⟩ : ∃ b : Nat, b = X / 2 ^ (8 * size - 1) % 2 := ⟨_, rfl⟩
  have hb1 := bit_le hb
  have HB := Lib.hid hb
  have CZ := Lib.hid (fun w => specZeroL v X size w hX hs hs8)
  clear hX hn8 hb
  go_enter Tryd.func29, Tryd.ntmps29
  go_wp2
  go_loop [5, 6] (fun n i => ∃ k : Nat, k ≤ 8 ∧ i = .int .i64 k ∧ n = .int .i64 ((cntN X k : Nat) : Int)) (fun _ i => 8 - (intOf i).toNat)
  case atStart => exact ⟨0, by omega, rfl, rfl⟩
  case round =>
    obtain ⟨k, hk, rfl, rfl⟩ := hrel
    by_cases hlt : k < 8
    · obtain ⟨d, hd⟩ : ∃ d : Nat, d = X / 2 ^ k % 2 := ⟨_, rfl⟩
      have hd1 := bit_le hd
      have hst : cntN X (k + 1) = cntN X k + d := by rw [hd]; rfl
      have hc := cntN_le X k
      obtain ⟨m, hm⟩ : ∃ m, m = cntN X k := ⟨_, rfl⟩
      rw [← hm] at hst hc ⊢
      have HD := Lib.hid hd; have HST := Lib.hid hst; have HM := Lib.hid hm
      clear hd hst hm
      go_wp2_with fail
      refine (bitCI v X k _ d _ HX.out (by omega) (by omega) HD.out).mono ?_
      rintro e w' ⟨rfl, rfl⟩
      go_wp2
      go_round
      case rel => exact ⟨k + 1, by omega, by go_num, by rw [HST.out]; go_num⟩
      case measure => simp [intOf]; omega
    · obtain rfl : k = 8 := by omega
      rw [← HN.out]
      go_wp2_with fail
      refine (bitCI v X (8 * size - 1) _ b _ HX.out (by omega) (by omega) HB.out).mono ?_
      rintro e w' ⟨rfl, rfl⟩
      go_wp2_with fail
      refine (CI.out _ _ _).mono ?_
      rintro e w' ⟨rfl, rfl⟩
      go_wp2_with fail
      refine (CZ.out _).mono ?_
      rintro e w' ⟨rfl, rfl⟩
      go_wp2_with fail
      refine (CI.out _ _ _).mono ?_
      rintro e w' ⟨rfl, rfl⟩
      go_wp2_with fail
      refine (CI.out _ _ _).mono ?_
      rintro e w' ⟨rfl, rfl⟩
      go_wp2
      go_ret
      refine ⟨ret_k2 ?_, rfl⟩
      first | rw [par_i] | rw [par_t]
      exact HE.out b n8 HB.out HN.out
theorem u64_w64 {N : Nat} (h : N < 18446744073709551616) : IntKind.u64.wrap (wrap64 (N : Int)) = (N : Int) := by rw [wrapU]; unfold wrap64; omega
/-- what went into bit k - 1 -/
def intoN (A B c k : Nat) : Nat := if k = 0 then 0 else cryN A B c (k - 1)
theorem into_le {A B c k : Nat} (hc : c ≤ 1) : intoN A B c k ≤ 1 := by unfold intoN; split; omega; exact cry_le hc
theorem or_out {S k n : Nat} (hk : k < 64) (hn : n = S / 2 ^ k % 2) : bits .or .u64 ((S % 2 ^ k : Nat) : Int) (IntKind.u64.wrap ((n : Int) * 2 ^ k)) = ((S % 2 ^ (k + 1) : Nat) : Int) := by
  have h1 : S % 2 ^ k < 2 ^ k := Nat.mod_lt _ (Nat.two_pow_pos k)
  have h2 : 2 ^ k ≤ 2 ^ 63 := Nat.pow_le_pow_right (by decide) (by omega)
  have h3 : n * 2 ^ k ≤ 2 ^ k := by
    have : n ≤ 1 := by omega
    rcases (by omega : n = 0 ∨ n = 1) with e | e <;> rw [e] <;> omega
  have e : ((n : Int) * 2 ^ k) = ((n * 2 ^ k : Nat) : Int) := by simp
  have h4 : (2 : Nat) ^ 63 = 9223372036854775808 := by decide
  rw [e, wrapU, Int.emod_eq_of_lt (by omega) (by omega), bits_or_u64_nat _ _ (by omega) (by omega), or_bit, hn, tail_bit]
theorem or_fin {w N c i : Nat} (hc : c ≤ 1) (hi : i ≤ 1) : bits .or .i64 (bits .or .i64 (szp w N) (bif ((c : Int) == 1) then 1 else 0)) (bif ((c : Int) != (i : Int)) then 2048 else 0) = flV (decide (c = 1)) (parN N) (N == 0) (decide (2 ^ (w - 1) ≤ N)) (decide (c ≠ i)) := by
  unfold szp
  generalize parN N = p
  generalize (N == 0) = z
  generalize decide (2 ^ (w - 1) ≤ N) = s
  rcases (by omega : c = 0 ∨ c = 1) with rfl | rfl <;> rcases (by omega : i = 0 ∨ i = 1) with rfl | rfl <;> revert p z s <;> decide +kernel
theorem sumS_n {A B c k x y cr : Nat} (hx : x = A / 2 ^ k % 2) (hy : y = B / 2 ^ k % 2) (hcr : cr = cryN A B c k) : (x + y + cr) % 2 = (A + B + c) / 2 ^ k % 2 ∧ (x + y + cr) / 2 = cryN A B c (k + 1) := by
  subst hx hy hcr
  exact ⟨(sum_bit A B c k).symm, (cry_succ A B c k).symm⟩
theorem difS_n {w A B c k x y cr : Nat} (hA : A < 2 ^ w) (hk : k < w) (hc : c ≤ 1) (hx : x = A / 2 ^ k % 2) (hy : y = B / 2 ^ k % 2) (hcr : cr = cryN (2 ^ w - 1 - A) B c k) : (x + 2 - y - cr) % 2 = difN w A B c / 2 ^ k % 2 ∧ (decide ((x : Int) - y - cr + 2 < 2) = decide (cryN (2 ^ w - 1 - A) B c (k + 1) = 1)) := by
  have hb := not_bit hA hk
  have hcl := cry_le (A := 2 ^ w - 1 - A) (B := B) (k := k) hc
  have hD : ((2 ^ w - 1 - A) + B + c) % 2 ^ w < 2 ^ w := Nat.mod_lt _ (Nat.two_pow_pos w)
  have hR := not_bit hD hk
  rw [bit_mod hk, sum_bit, ← hcr, hb, ← hx, ← hy] at hR
  have hs := cry_succ (2 ^ w - 1 - A) B c k
  rw [← hcr, hb, ← hx, ← hy] at hs
  rw [← hcr] at hcl
  unfold difN
  have hx1 : x ≤ 1 := by omega
  have hy1 : y ≤ 1 := by omega
  refine ⟨by omega, decide_eq_decide.mpr ?_⟩
  rw [hs]
  omega
set_option maxRecDepth 100000 in
set_option maxHeartbeats 2000000 in
theorem addS (a b : Int) (Xa Xb size c A B : Nat) (w : World) (ha : IntKind.u64.wrap a = (Xa : Int)) (hb : IntKind.u64.wrap b = (Xb : Int)) (hs : 1 ≤ size) (hs8 : size ≤ 8) (hc : c ≤ 1) (hA : A = Xa % 2 ^ (8 * size)) (hB : B = Xb % 2 ^ (8 * size)) :
    Calls Tryd.prog 76 #[.int .i64 (size : Int), .int .i64 a, .int .i64 b, .int .i64 (c : Int), .bool false] w fun e w' => e = .returned (.tuple #[.int .i64 (wrap64 ((sumN (8 * size) A B c : Nat) : Int)), .int .i64 (sumF (8 * size) A B c)]) ∧ w = w' := by
  have CB := Lib.hid bitS6
  have CI := Lib.hid ifS
  have HAX := Lib.hid ha; have HBX := Lib.hid hb; have LC := Lib.hid hc
  have hAlt : A < 2 ^ (8 * size) := by rw [hA]; exact Nat.mod_lt _ (Nat.two_pow_pos _)
  have h64 := pow_le64 hs8
  obtain ⟨N, hN⟩ : ∃ N, N = sumN (8 * size) A B c := ⟨_, rfl⟩
  have hNlt : N < 2 ^ (8 * size) := by rw [hN]; exact sumN_lt _ _ _ _
  have hXN : IntKind.u64.wrap (wrap64 (N : Int)) = (N : Int) := u64_w64 (Nat.lt_of_lt_of_le hNlt h64)
  have CS := Lib.hid (fun w => szpS (wrap64 (N : Int)) N size w hXN hs hs8)
  rw [Nat.mod_eq_of_lt hNlt] at CS
  have HAm := Lib.hid hA; have HBm := Lib.hid hB; have HN := Lib.hid hN; have LA := Lib.hid hAlt; have H64 := Lib.hid h64; have LN := Lib.hid hNlt
  have hF : sumF (8 * size) A B c = flV (decide (cryN A B c (8 * size) = 1)) (parN N) (N == 0) (decide (2 ^ (8 * size - 1) ≤ N)) (decide (cryN A B c (8 * size) ≠ cryN A B c (8 * size - 1))) := by rw [hN]; rfl
  rw [hF, ← hN]
  clear ha hb hc hA hB hAlt h64 hN hNlt hXN hF
  go_enter Tryd.func76, Tryd.ntmps76
  go_wp2
  go_loop [12, 13, 14, 15] (fun o cc into i => ∃ k : Nat, k ≤ 8 * size ∧ i = .int .i64 k ∧ o = .int .u64 (((A + B + c) % 2 ^ k : Nat) : Int) ∧ cc = .int .i64 ((cryN A B c k : Nat) : Int) ∧ into = .int .i64 ((intoN A B c k : Nat) : Int)) (fun _ _ _ i => 8 * size - (intOf i).toNat)
  case atStart => exact ⟨0, by omega, rfl, by simp [Nat.mod_one], by rw [cry_zero], rfl⟩
  case round =>
    obtain ⟨k, hk, rfl, rfl, rfl, rfl⟩ := hrel
    have hcr1 := cry_le (A := A) (B := B) (k := k) LC.out
    have hin1 := into_le (A := A) (B := B) (k := k) LC.out
    by_cases hlt : k < 8 * size
    · obtain ⟨x, hx⟩ : ∃ d : Nat, d = Xa / 2 ^ k % 2 := ⟨_, rfl⟩
      obtain ⟨y, hy⟩ : ∃ d : Nat, d = Xb / 2 ^ k % 2 := ⟨_, rfl⟩
      have hx1 := bit_le hx; have hy1 := bit_le hy
      have hxA : x = A / 2 ^ k % 2 := by rw [HAm.out, bit_mod hlt]; exact hx
      have hyB : y = B / 2 ^ k % 2 := by rw [HBm.out, bit_mod hlt]; exact hy
      obtain ⟨cr, hcr⟩ : ∃ d : Nat, d = cryN A B c k := ⟨_, rfl⟩
      rw [← hcr] at hcr1 ⊢
      have hst := sumS_n (c := c) hxA hyB hcr
      have hoo := or_out (S := A + B + c) (n := (x + y + cr) % 2) (show k < 64 by omega) hst.1
      have hct := hst.2
      have HX := Lib.hid hx; have HY := Lib.hid hy; have HO := Lib.hid hoo; have HC := Lib.hid hct; have HCR := Lib.hid hcr
      clear hx hy hxA hyB hcr hst hoo hct
      go_wp2_with fail
      refine (bitCI a Xa k _ x _ HAX.out (by omega) (by omega) HX.out).mono ?_
      rintro e w1 ⟨rfl, rfl⟩
      go_wp2_with fail
      refine (bitCI b Xb k _ y _ HBX.out (by omega) (by omega) HY.out).mono ?_
      rintro e w1 ⟨rfl, rfl⟩
      go_wp2
      go_round
      case rel => exact ⟨k + 1, by omega, by go_num, congrArg (Value.int .u64) (by have e := HO.out; simpa using e), congrArg (Value.int .i64) (by have e := HC.out; omega), by rw [show intoN A B c (k + 1) = cryN A B c k by simp [intoN], ← HCR.out]⟩
      case measure => simp [intOf]; omega
    · obtain rfl : k = 8 * size := by omega
      rw [show (A + B + c) % 2 ^ (8 * size) = N from HN.out.symm]
      obtain ⟨cc, hcc⟩ : ∃ d, d = cryN A B c (8 * size) := ⟨_, rfl⟩
      obtain ⟨ii, hii⟩ : ∃ d, d = intoN A B c (8 * size) := ⟨_, rfl⟩
      rw [← hcc] at hcr1 ⊢
      rw [← hii] at hin1 ⊢
      have HCC := Lib.hid hcc
      have HII := Lib.hid (hii.trans (show intoN A B c (8 * size) = cryN A B c (8 * size - 1) by unfold intoN; rw [if_neg (by omega)]))
      clear hcc hii
      go_wp2_with (first | (go_at_call 29; refine (CS.out _).mono ?_; rintro e w1 ⟨rfl, rfl⟩) | (go_at_call 70; refine (CI.out _ _ _).mono ?_; rintro e w1 ⟨rfl, rfl⟩))
      go_ret2
      refine ⟨ret_s2 rfl ?_, rfl⟩
      rw [← HII.out, ← HCC.out]
      exact or_fin hcr1 hin1
set_option maxRecDepth 100000 in
set_option maxHeartbeats 2000000 in
theorem subS (a b : Int) (Xa Xb size c A B : Nat) (w : World) (ha : IntKind.u64.wrap a = (Xa : Int)) (hb : IntKind.u64.wrap b = (Xb : Int)) (hs : 1 ≤ size) (hs8 : size ≤ 8) (hc : c ≤ 1) (hA : A = Xa % 2 ^ (8 * size)) (hB : B = Xb % 2 ^ (8 * size)) :
    Calls Tryd.prog 76 #[.int .i64 (size : Int), .int .i64 a, .int .i64 b, .int .i64 (c : Int), .bool true] w fun e w' => e = .returned (.tuple #[.int .i64 (wrap64 ((difN (8 * size) A B c : Nat) : Int)), .int .i64 (difF (8 * size) A B c)]) ∧ w = w' := by
  have CB := Lib.hid bitS6
  have CI := Lib.hid ifS
  have HAX := Lib.hid ha; have HBX := Lib.hid hb; have LC := Lib.hid hc
  have hAlt : A < 2 ^ (8 * size) := by rw [hA]; exact Nat.mod_lt _ (Nat.two_pow_pos _)
  have h64 := pow_le64 hs8
  obtain ⟨N, hN⟩ : ∃ N, N = difN (8 * size) A B c := ⟨_, rfl⟩
  have hNlt : N < 2 ^ (8 * size) := by rw [hN]; exact difN_lt _ _ _ _
  have hXN : IntKind.u64.wrap (wrap64 (N : Int)) = (N : Int) := u64_w64 (Nat.lt_of_lt_of_le hNlt h64)
  have CS := Lib.hid (fun w => szpS (wrap64 (N : Int)) N size w hXN hs hs8)
  rw [Nat.mod_eq_of_lt hNlt] at CS
  have HAm := Lib.hid hA; have HBm := Lib.hid hB; have HN := Lib.hid hN; have LA := Lib.hid hAlt; have H64 := Lib.hid h64; have LN := Lib.hid hNlt
  have hF : difF (8 * size) A B c = flV (decide (cryN (2 ^ (8 * size) - 1 - A) B c (8 * size) = 1)) (parN N) (N == 0) (decide (2 ^ (8 * size - 1) ≤ N)) (decide (cryN (2 ^ (8 * size) - 1 - A) B c (8 * size) ≠ cryN (2 ^ (8 * size) - 1 - A) B c (8 * size - 1))) := by rw [hN]; rfl
  rw [hF, ← hN]
  clear ha hb hc hA hB hAlt h64 hN hNlt hXN hF
  go_enter Tryd.func76, Tryd.ntmps76
  go_wp2
  go_loop [12, 13, 14, 15] (fun o cc into i => ∃ k : Nat, k ≤ 8 * size ∧ i = .int .i64 k ∧ o = .int .u64 ((difN (8 * size) A B c % 2 ^ k : Nat) : Int) ∧ cc = .int .i64 ((cryN (2 ^ (8 * size) - 1 - A) B c k : Nat) : Int) ∧ into = .int .i64 ((intoN (2 ^ (8 * size) - 1 - A) B c k : Nat) : Int)) (fun _ _ _ i => 8 * size - (intOf i).toNat)
  case atStart => exact ⟨0, by omega, rfl, by simp [Nat.mod_one], by rw [cry_zero], rfl⟩
  case round =>
    obtain ⟨k, hk, rfl, rfl, rfl, rfl⟩ := hrel
    have hcr1 := cry_le (A := (2 ^ (8 * size) - 1 - A)) (B := B) (k := k) LC.out
    have hin1 := into_le (A := (2 ^ (8 * size) - 1 - A)) (B := B) (k := k) LC.out
    by_cases hlt : k < 8 * size
    · obtain ⟨x, hx⟩ : ∃ d : Nat, d = Xa / 2 ^ k % 2 := ⟨_, rfl⟩
      obtain ⟨y, hy⟩ : ∃ d : Nat, d = Xb / 2 ^ k % 2 := ⟨_, rfl⟩
      have hx1 := bit_le hx; have hy1 := bit_le hy
      have hxA : x = A / 2 ^ k % 2 := by rw [HAm.out, bit_mod hlt]; exact hx
      have hyB : y = B / 2 ^ k % 2 := by rw [HBm.out, bit_mod hlt]; exact hy
      obtain ⟨cr, hcr⟩ : ∃ d : Nat, d = cryN (2 ^ (8 * size) - 1 - A) B c k := ⟨_, rfl⟩
      rw [← hcr] at hcr1 ⊢
      have hst := difS_n LA.out hlt LC.out hxA hyB hcr
      have hoo := or_out (S := difN (8 * size) A B c) (n := (x + 2 - y - cr) % 2) (show k < 64 by omega) hst.1
      have hct := hst.2
      have HX := Lib.hid hx; have HY := Lib.hid hy; have HO := Lib.hid hoo; have HC := Lib.hid hct; have HCR := Lib.hid hcr
      clear hx hy hxA hyB hcr hst hoo hct
      go_wp2_with fail
      refine (bitCI a Xa k _ x _ HAX.out (by omega) (by omega) HX.out).mono ?_
      rintro e w1 ⟨rfl, rfl⟩
      go_wp2_with fail
      refine (bitCI b Xb k _ y _ HBX.out (by omega) (by omega) HY.out).mono ?_
      rintro e w1 ⟨rfl, rfl⟩
      go_wp2_with fail
      refine (CB.out _ _).mono ?_
      rintro e w1 ⟨rfl, rfl⟩
      have hc2 : (bif decide ((x : Int) - y - cr + 2 < 2) then (1 : Int) else 0) = ((cryN (2 ^ (8 * size) - 1 - A) B c (k + 1) : Nat) : Int) := by
        have h1 := cry_le (A := 2 ^ (8 * size) - 1 - A) (B := B) (k := k + 1) LC.out
        rw [HC.out]
        rcases (by omega : cryN (2 ^ (8 * size) - 1 - A) B c (k + 1) = 0 ∨ cryN (2 ^ (8 * size) - 1 - A) B c (k + 1) = 1) with e | e <;> rw [e] <;> rfl
      have HC2 := Lib.hid hc2
      clear hc2
      go_wp2
      go_round
      case rel => exact ⟨k + 1, by omega, by go_num, congrArg (Value.int .u64) (by have e := HO.out; rw [show (((x + 2 - y - cr) % 2 : Nat) : Int) = ((x : Int) - y - cr) % 2 by omega] at e; simpa using e), congrArg (Value.int .i64) HC2.out, by rw [show intoN (2 ^ (8 * size) - 1 - A) B c (k + 1) = cryN (2 ^ (8 * size) - 1 - A) B c k by simp [intoN], ← HCR.out]⟩
      case measure => simp [intOf]; omega
    · obtain rfl : k = 8 * size := by omega
      rw [show difN (8 * size) A B c % 2 ^ (8 * size) = N from (Nat.mod_eq_of_lt (by rw [← HN.out]; exact LN.out)).trans HN.out.symm]
      obtain ⟨cc, hcc⟩ : ∃ d, d = cryN (2 ^ (8 * size) - 1 - A) B c (8 * size) := ⟨_, rfl⟩
      obtain ⟨ii, hii⟩ : ∃ d, d = intoN (2 ^ (8 * size) - 1 - A) B c (8 * size) := ⟨_, rfl⟩
      rw [← hcc] at hcr1 ⊢
      rw [← hii] at hin1 ⊢
      have HCC := Lib.hid hcc
      have HII := Lib.hid (hii.trans (show intoN (2 ^ (8 * size) - 1 - A) B c (8 * size) = cryN (2 ^ (8 * size) - 1 - A) B c (8 * size - 1) by unfold intoN; rw [if_neg (by omega)]))
      clear hcc hii
      go_wp2_with (first | (go_at_call 29; refine (CS.out _).mono ?_; rintro e w1 ⟨rfl, rfl⟩) | (go_at_call 70; refine (CI.out _ _ _).mono ?_; rintro e w1 ⟨rfl, rfl⟩))
      go_ret2
      refine ⟨ret_s2 rfl ?_, rfl⟩
      rw [← HII.out, ← HCC.out]
      exact or_fin hcr1 hin1
end Go.Proofs.YtifpcfhfglkbcaaDoor
