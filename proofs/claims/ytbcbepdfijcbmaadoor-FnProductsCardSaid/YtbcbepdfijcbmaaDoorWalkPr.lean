/-
  What laws.FnProducts calls, its numbers told; conditions: those in each head.
-/
import Derived.Test.YtbcbepdfijcbmaaDoorWalkDq
import Derived.Test.YtbcbepdfijcbmaaDoorWalkMp
namespace Go.Proofs.YtbcbepdfijcbmaaDoor
open Go.RowKit
set_option linter.unusedVariables false
/-- products and quotients of two numbers of a size: y is zero, or both quotients are x -/
structure PrF (a b n f lo hi g hs gs x y u v k w1 z1 k1 : Int) : Prop where
  c1 : ∀ w, Calls Tryd.prog 26 #[.int .i64 13, .int .i64 n, .int .i64 a, .int .i64 b, .int .i64 f] w fun e w' => e = .returned (.tuple #[.int .i64 lo, .int .i64 hi, .int .i64 g, .int .i64 0]) ∧ Below w.heap.size w w'
  c2 : ∀ w, Calls Tryd.prog 27 #[.int .i64 13, .int .i64 n, .int .i64 a, .int .i64 b, .int .i64 f] w fun e w' => e = .returned (.tuple #[.int .i64 lo, .int .i64 hi, .int .i64 g, .int .i64 0]) ∧ w = w'
  c3 : ∀ w, Calls Tryd.prog 26 #[.int .i64 14, .int .i64 n, .int .i64 a, .int .i64 b, .int .i64 f] w fun e w' => e = .returned (.tuple #[.int .i64 lo, .int .i64 hs, .int .i64 gs, .int .i64 0]) ∧ Below w.heap.size w w'
  c4 : ∀ w, Calls Tryd.prog 27 #[.int .i64 14, .int .i64 n, .int .i64 a, .int .i64 b, .int .i64 f] w fun e w' => e = .returned (.tuple #[.int .i64 lo, .int .i64 hs, .int .i64 gs, .int .i64 0]) ∧ w = w'
  c5 : ∀ w, Calls Tryd.prog 28 #[.int .i64 a, .int .i64 n] w fun e w' => e = .returned (.tuple #[.int .i64 x, .int .i64 0]) ∧ w = w'
  c6 : ∀ w, Calls Tryd.prog 28 #[.int .i64 b, .int .i64 n] w fun e w' => e = .returned (.tuple #[.int .i64 y, .int .i64 0]) ∧ w = w'
  c7 : ∀ w, Calls Tryd.prog 24 #[.int .i64 15, .int .i64 n, .int .i64 hi, .int .i64 lo, .int .i64 b] w fun e w' => e = .returned (.tuple #[.int .i64 u, .int .i64 v, .int .i64 k]) ∧ Below w.heap.size w w'
  c8 : ∀ w, Calls Tryd.prog 24 #[.int .i64 16, .int .i64 n, .int .i64 hs, .int .i64 lo, .int .i64 b] w fun e w' => e = .returned (.tuple #[.int .i64 w1, .int .i64 z1, .int .i64 k1]) ∧ Below w.heap.size w w'
  c9 : ∀ q, (Lit.int .i64 q).wf = true → ∃ o t l, (∀ w, Calls Tryd.prog 24 #[.int .i64 15, .int .i64 n, .int .i64 q, .int .i64 a, .int .i64 b] w fun e w' => e = .returned (.tuple #[.int .i64 o, .int .i64 t, .int .i64 l]) ∧ Below w.heap.size w w') ∧ (∀ w, Calls Tryd.prog 23 #[.int .i64 15, .int .i64 n, .int .i64 q, .int .i64 a, .int .i64 b] w fun e w' => e = .returned (.tuple #[.int .i64 o, .int .i64 t, .int .i64 l]) ∧ w = w')
  y0 : y = 0 → k = 16 ∧ k1 = 16
  y1 : y ≠ 0 → k = 0 ∧ u = x ∧ v = 0 ∧ k1 = 0 ∧ w1 = x ∧ z1 = 0
theorem wfW (x : Int) : (Lit.int .i64 (wrap64 x)).wf = true := wrap64_wf x
theorem back1 (P : Int) (h0 : 0 ≤ P) (h1 : P < 65536) : wrap64 (P / 256 % 256) % 256 * 256 + wrap64 (P % 256) % 256 = P := by unfold wrap64; omega
theorem backS1 (P : Int) : wrap64 (P / 256 % 256) % 256 * 256 + wrap64 (P % 256) % 256 = P % 65536 := by unfold wrap64; omega
theorem zer1 (v : Int) (w : World) : Calls Tryd.prog 28 #[.int .i64 v, .int .i64 1] w fun e w' => e = .returned (.tuple #[.int .i64 (wrap64 (v % 256)), .int .i64 0]) ∧ w = w' := by
  obtain ⟨X, hX⟩ := natU v
  have h := specZeroYes v X 1 1 w rfl hX (by unfold okSize; omega)
  have e : ((X % 2 ^ (8 * 1) : Nat) : Int) = v % 256 := by
    rw [show (2 : Nat) ^ (8 * 1) = 256 from rfl]; rw [wrapU] at hX; clear h; omega
  rw [e] at h; exact h
theorem bm0_1 (b : Int) : Int.bmod b 256 = 0 ↔ b % 256 = 0 := by rw [Int.bmod_def]; split <;> omega
theorem pr1 (a b : Int) (c p zf sf o : Bool) (ha : (Lit.int .i64 a).wf = true) (hb : (Lit.int .i64 b).wf = true) : ∃ lo hi g hs gs x y u v k w1 z1 k1, PrF a b 1 (flV c p zf sf o) lo hi g hs gs x y u v k w1 z1 k1 := by
  obtain ⟨lo, hi, g, c1, c2, l1, h1⟩ := mulP13_1 a b c p zf sf o
  obtain ⟨lo', hs, gs, c3, c4, l2, h2⟩ := mulP14_1 a b c p zf sf o ha hb
  have el : lo' = lo := by
    rw [l1, l2]
    have e1 : Int.bmod a 256 * Int.bmod b 256 % 256 = a * b % 256 := by
      rw [Int.mul_emod, show Int.bmod a 256 % 256 = a % 256 from Int.bmod_emod, show Int.bmod b 256 % 256 = b % 256 from Int.bmod_emod, ← Int.mul_emod]
    have e2 : a % 256 * (b % 256) % 256 = a * b % 256 := (Int.mul_emod a b 256).symm
    rw [e1, e2]
  subst el
  have wl : (Lit.int .i64 lo').wf = true := by rw [l2]; exact wfW _
  have wh : (Lit.int .i64 hi).wf = true := by rw [h1]; exact wfW _
  have whs : (Lit.int .i64 hs).wf = true := by rw [h2]; exact wfW _
  have ab : 0 ≤ a % 256 ∧ a % 256 < 256 := by omega
  have bb : 0 ≤ b % 256 ∧ b % 256 < 256 := by omega
  have sa := (bmod_b a).1
  have c9 := fun q (hq : (Lit.int .i64 q).wf = true) => divB15_1 q a b hq ha hb
  have P1 : hi % 256 * 256 + lo' % 256 = a % 256 * (b % 256) := by
    rw [l1, h1]
    exact back1 _ (Int.mul_nonneg ab.1 bb.1) (by
      have := Int.mul_le_mul (show a % 256 ≤ 255 by omega) (show b % 256 ≤ 255 by omega) bb.1 (by decide)
      omega)
  have P2 : hs % 256 * 256 + lo' % 256 = Int.bmod a 256 * Int.bmod b 256 % 65536 := by
    rw [l2, h2]; exact backS1 _
  have xa : wrap64 (Int.bmod a 256 % 256) = wrap64 (a % 256) := by rw [show Int.bmod a 256 % 256 = a % 256 from Int.bmod_emod]
  clear l1 l2 h1 h2
  by_cases h0 : b % 256 = 0
  · obtain ⟨u, v, d1⟩ := divZ15_1 hi lo' b wh wl hb h0
    obtain ⟨w1, z1, d2⟩ := divZ16_1 hs lo' b whs wl hb ((bm0_1 b).mpr h0)
    exact ⟨lo', hi, g, hs, gs, _, _, u, v, 16, w1, z1, 16, c1, c2, c3, c4, zer1 a, zer1 b, d1, d2, c9, fun _ => ⟨rfl, rfl⟩, fun h => absurd (by rw [h0]; exact w00) h⟩
  · have d1 := divP15_1 hi lo' b (a % 256) wh wl hb ab P1 h0
    have d2 := divP16_1 hs lo' b (Int.bmod a 256) whs wl hb sa P2 (fun e => h0 ((bm0_1 b).mp e))
    rw [xa] at d2
    exact ⟨lo', hi, g, hs, gs, _, _, _, 0, 0, _, 0, 0, c1, c2, c3, c4, zer1 a, zer1 b, d1, d2, c9, fun h => absurd h (by unfold wrap64; omega), fun _ => ⟨rfl, rfl, rfl, rfl, rfl, rfl⟩⟩
theorem back2 (P : Int) (h0 : 0 ≤ P) (h1 : P < 4294967296) : wrap64 (P / 65536 % 65536) % 65536 * 65536 + wrap64 (P % 65536) % 65536 = P := by unfold wrap64; omega
theorem backS2 (P : Int) : wrap64 (P / 65536 % 65536) % 65536 * 65536 + wrap64 (P % 65536) % 65536 = P % 4294967296 := by unfold wrap64; omega
theorem zer2 (v : Int) (w : World) : Calls Tryd.prog 28 #[.int .i64 v, .int .i64 2] w fun e w' => e = .returned (.tuple #[.int .i64 (wrap64 (v % 65536)), .int .i64 0]) ∧ w = w' := by
  obtain ⟨X, hX⟩ := natU v
  have h := specZeroYes v X 2 2 w rfl hX (by unfold okSize; omega)
  have e : ((X % 2 ^ (8 * 2) : Nat) : Int) = v % 65536 := by
    rw [show (2 : Nat) ^ (8 * 2) = 65536 from rfl]; rw [wrapU] at hX; clear h; omega
  rw [e] at h; exact h
theorem bm0_2 (b : Int) : Int.bmod b 65536 = 0 ↔ b % 65536 = 0 := by rw [Int.bmod_def]; split <;> omega
theorem pr2 (a b : Int) (c p zf sf o : Bool) (ha : (Lit.int .i64 a).wf = true) (hb : (Lit.int .i64 b).wf = true) : ∃ lo hi g hs gs x y u v k w1 z1 k1, PrF a b 2 (flV c p zf sf o) lo hi g hs gs x y u v k w1 z1 k1 := by
  obtain ⟨lo, hi, g, c1, c2, l1, h1⟩ := mulP13_2 a b c p zf sf o
  obtain ⟨lo', hs, gs, c3, c4, l2, h2⟩ := mulP14_2 a b c p zf sf o ha hb
  have el : lo' = lo := by
    rw [l1, l2]
    have e1 : Int.bmod a 65536 * Int.bmod b 65536 % 65536 = a * b % 65536 := by
      rw [Int.mul_emod, show Int.bmod a 65536 % 65536 = a % 65536 from Int.bmod_emod, show Int.bmod b 65536 % 65536 = b % 65536 from Int.bmod_emod, ← Int.mul_emod]
    have e2 : a % 65536 * (b % 65536) % 65536 = a * b % 65536 := (Int.mul_emod a b 65536).symm
    rw [e1, e2]
  subst el
  have wl : (Lit.int .i64 lo').wf = true := by rw [l2]; exact wfW _
  have wh : (Lit.int .i64 hi).wf = true := by rw [h1]; exact wfW _
  have whs : (Lit.int .i64 hs).wf = true := by rw [h2]; exact wfW _
  have ab : 0 ≤ a % 65536 ∧ a % 65536 < 65536 := by omega
  have bb : 0 ≤ b % 65536 ∧ b % 65536 < 65536 := by omega
  have sa := (bmod_b a).2.1
  have c9 := fun q (hq : (Lit.int .i64 q).wf = true) => divB15_2 q a b hq ha hb
  have P1 : hi % 65536 * 65536 + lo' % 65536 = a % 65536 * (b % 65536) := by
    rw [l1, h1]
    exact back2 _ (Int.mul_nonneg ab.1 bb.1) (by
      have := Int.mul_le_mul (show a % 65536 ≤ 65535 by omega) (show b % 65536 ≤ 65535 by omega) bb.1 (by decide)
      omega)
  have P2 : hs % 65536 * 65536 + lo' % 65536 = Int.bmod a 65536 * Int.bmod b 65536 % 4294967296 := by
    rw [l2, h2]; exact backS2 _
  have xa : wrap64 (Int.bmod a 65536 % 65536) = wrap64 (a % 65536) := by rw [show Int.bmod a 65536 % 65536 = a % 65536 from Int.bmod_emod]
  clear l1 l2 h1 h2
  by_cases h0 : b % 65536 = 0
  · obtain ⟨u, v, d1⟩ := divZ15_2 hi lo' b wh wl hb h0
    obtain ⟨w1, z1, d2⟩ := divZ16_2 hs lo' b whs wl hb ((bm0_2 b).mpr h0)
    exact ⟨lo', hi, g, hs, gs, _, _, u, v, 16, w1, z1, 16, c1, c2, c3, c4, zer2 a, zer2 b, d1, d2, c9, fun _ => ⟨rfl, rfl⟩, fun h => absurd (by rw [h0]; exact w00) h⟩
  · have d1 := divP15_2 hi lo' b (a % 65536) wh wl hb ab P1 h0
    have d2 := divP16_2 hs lo' b (Int.bmod a 65536) whs wl hb sa P2 (fun e => h0 ((bm0_2 b).mp e))
    rw [xa] at d2
    exact ⟨lo', hi, g, hs, gs, _, _, _, 0, 0, _, 0, 0, c1, c2, c3, c4, zer2 a, zer2 b, d1, d2, c9, fun h => absurd h (by unfold wrap64; omega), fun _ => ⟨rfl, rfl, rfl, rfl, rfl, rfl⟩⟩
theorem back4 (P : Int) (h0 : 0 ≤ P) (h1 : P < 18446744073709551616) : wrap64 (P / 4294967296 % 4294967296) % 4294967296 * 4294967296 + wrap64 (P % 4294967296) % 4294967296 = P := by unfold wrap64; omega
theorem backS4 (P : Int) : wrap64 (P / 4294967296 % 4294967296) % 4294967296 * 4294967296 + wrap64 (P % 4294967296) % 4294967296 = P % 18446744073709551616 := by unfold wrap64; omega
theorem zer4 (v : Int) (w : World) : Calls Tryd.prog 28 #[.int .i64 v, .int .i64 4] w fun e w' => e = .returned (.tuple #[.int .i64 (wrap64 (v % 4294967296)), .int .i64 0]) ∧ w = w' := by
  obtain ⟨X, hX⟩ := natU v
  have h := specZeroYes v X 4 4 w rfl hX (by unfold okSize; omega)
  have e : ((X % 2 ^ (8 * 4) : Nat) : Int) = v % 4294967296 := by
    rw [show (2 : Nat) ^ (8 * 4) = 4294967296 from rfl]; rw [wrapU] at hX; clear h; omega
  rw [e] at h; exact h
theorem bm0_4 (b : Int) : Int.bmod b 4294967296 = 0 ↔ b % 4294967296 = 0 := by rw [Int.bmod_def]; split <;> omega
theorem pr4 (a b : Int) (c p zf sf o : Bool) (ha : (Lit.int .i64 a).wf = true) (hb : (Lit.int .i64 b).wf = true) : ∃ lo hi g hs gs x y u v k w1 z1 k1, PrF a b 4 (flV c p zf sf o) lo hi g hs gs x y u v k w1 z1 k1 := by
  obtain ⟨lo, hi, g, c1, c2, l1, h1⟩ := mulP13_4 a b c p zf sf o
  obtain ⟨lo', hs, gs, c3, c4, l2, h2⟩ := mulP14_4 a b c p zf sf o ha hb
  have el : lo' = lo := by
    rw [l1, l2]
    have e1 : Int.bmod a 4294967296 * Int.bmod b 4294967296 % 4294967296 = a * b % 4294967296 := by
      rw [Int.mul_emod, show Int.bmod a 4294967296 % 4294967296 = a % 4294967296 from Int.bmod_emod, show Int.bmod b 4294967296 % 4294967296 = b % 4294967296 from Int.bmod_emod, ← Int.mul_emod]
    have e2 : a % 4294967296 * (b % 4294967296) % 4294967296 = a * b % 4294967296 := (Int.mul_emod a b 4294967296).symm
    rw [e1, e2]
  subst el
  have wl : (Lit.int .i64 lo').wf = true := by rw [l2]; exact wfW _
  have wh : (Lit.int .i64 hi).wf = true := by rw [h1]; exact wfW _
  have whs : (Lit.int .i64 hs).wf = true := by rw [h2]; exact wfW _
  have ab : 0 ≤ a % 4294967296 ∧ a % 4294967296 < 4294967296 := by omega
  have bb : 0 ≤ b % 4294967296 ∧ b % 4294967296 < 4294967296 := by omega
  have sa := (bmod_b a).2.2.1
  have c9 := fun q (hq : (Lit.int .i64 q).wf = true) => divB15_4 q a b hq ha hb
  have P1 : hi % 4294967296 * 4294967296 + lo' % 4294967296 = a % 4294967296 * (b % 4294967296) := by
    rw [l1, h1]
    exact back4 _ (Int.mul_nonneg ab.1 bb.1) (by
      have := Int.mul_le_mul (show a % 4294967296 ≤ 4294967295 by omega) (show b % 4294967296 ≤ 4294967295 by omega) bb.1 (by decide)
      omega)
  have P2 : hs % 4294967296 * 4294967296 + lo' % 4294967296 = Int.bmod a 4294967296 * Int.bmod b 4294967296 % 18446744073709551616 := by
    rw [l2, h2]; exact backS4 _
  have xa : wrap64 (Int.bmod a 4294967296 % 4294967296) = wrap64 (a % 4294967296) := by rw [show Int.bmod a 4294967296 % 4294967296 = a % 4294967296 from Int.bmod_emod]
  clear l1 l2 h1 h2
  by_cases h0 : b % 4294967296 = 0
  · obtain ⟨u, v, d1⟩ := divZ15_4 hi lo' b wh wl hb h0
    obtain ⟨w1, z1, d2⟩ := divZ16_4 hs lo' b whs wl hb ((bm0_4 b).mpr h0)
    exact ⟨lo', hi, g, hs, gs, _, _, u, v, 16, w1, z1, 16, c1, c2, c3, c4, zer4 a, zer4 b, d1, d2, c9, fun _ => ⟨rfl, rfl⟩, fun h => absurd (by rw [h0]; exact w00) h⟩
  · have d1 := divP15_4 hi lo' b (a % 4294967296) wh wl hb ab P1 h0
    have d2 := divP16_4 hs lo' b (Int.bmod a 4294967296) whs wl hb sa P2 (fun e => h0 ((bm0_4 b).mp e))
    rw [xa] at d2
    exact ⟨lo', hi, g, hs, gs, _, _, _, 0, 0, _, 0, 0, c1, c2, c3, c4, zer4 a, zer4 b, d1, d2, c9, fun h => absurd h (by unfold wrap64; omega), fun _ => ⟨rfl, rfl, rfl, rfl, rfl, rfl⟩⟩
theorem back8 (P : Int) (h0 : 0 ≤ P) (h1 : P < 340282366920938463463374607431768211456) : wrap64 (P / 18446744073709551616 % 18446744073709551616) % 18446744073709551616 * 18446744073709551616 + wrap64 (P % 18446744073709551616) % 18446744073709551616 = P := by unfold wrap64; omega
theorem backS8 (P : Int) : wrap64 (P / 18446744073709551616 % 18446744073709551616) % 18446744073709551616 * 18446744073709551616 + wrap64 (P % 18446744073709551616) % 18446744073709551616 = P % 340282366920938463463374607431768211456 := by unfold wrap64; omega
theorem zer8 (v : Int) (w : World) : Calls Tryd.prog 28 #[.int .i64 v, .int .i64 8] w fun e w' => e = .returned (.tuple #[.int .i64 (wrap64 (v % 18446744073709551616)), .int .i64 0]) ∧ w = w' := by
  obtain ⟨X, hX⟩ := natU v
  have h := specZeroYes v X 8 8 w rfl hX (by unfold okSize; omega)
  have e : ((X % 2 ^ (8 * 8) : Nat) : Int) = v % 18446744073709551616 := by
    rw [show (2 : Nat) ^ (8 * 8) = 18446744073709551616 from rfl]; rw [wrapU] at hX; clear h; omega
  rw [e] at h; exact h
theorem bm0_8 (b : Int) : Int.bmod b 18446744073709551616 = 0 ↔ b % 18446744073709551616 = 0 := by rw [Int.bmod_def]; split <;> omega
theorem pr8 (a b : Int) (c p zf sf o : Bool) (ha : (Lit.int .i64 a).wf = true) (hb : (Lit.int .i64 b).wf = true) : ∃ lo hi g hs gs x y u v k w1 z1 k1, PrF a b 8 (flV c p zf sf o) lo hi g hs gs x y u v k w1 z1 k1 := by
  obtain ⟨lo, hi, g, c1, c2, l1, h1⟩ := mulP13_8 a b c p zf sf o
  obtain ⟨lo', hs, gs, c3, c4, l2, h2⟩ := mulP14_8 a b c p zf sf o ha hb
  have el : lo' = lo := by
    rw [l1, l2]
    have e1 : Int.bmod a 18446744073709551616 * Int.bmod b 18446744073709551616 % 18446744073709551616 = a * b % 18446744073709551616 := by
      rw [Int.mul_emod, show Int.bmod a 18446744073709551616 % 18446744073709551616 = a % 18446744073709551616 from Int.bmod_emod, show Int.bmod b 18446744073709551616 % 18446744073709551616 = b % 18446744073709551616 from Int.bmod_emod, ← Int.mul_emod]
    have e2 : a % 18446744073709551616 * (b % 18446744073709551616) % 18446744073709551616 = a * b % 18446744073709551616 := (Int.mul_emod a b 18446744073709551616).symm
    rw [e1, e2]
  subst el
  have wl : (Lit.int .i64 lo').wf = true := by rw [l2]; exact wfW _
  have wh : (Lit.int .i64 hi).wf = true := by rw [h1]; exact wfW _
  have whs : (Lit.int .i64 hs).wf = true := by rw [h2]; exact wfW _
  have ab : 0 ≤ a % 18446744073709551616 ∧ a % 18446744073709551616 < 18446744073709551616 := by omega
  have bb : 0 ≤ b % 18446744073709551616 ∧ b % 18446744073709551616 < 18446744073709551616 := by omega
  have sa := (bmod_b a).2.2.2
  have c9 := fun q (hq : (Lit.int .i64 q).wf = true) => divB15_8 q a b hq ha hb
  have P1 : hi % 18446744073709551616 * 18446744073709551616 + lo' % 18446744073709551616 = a % 18446744073709551616 * (b % 18446744073709551616) := by
    rw [l1, h1]
    exact back8 _ (Int.mul_nonneg ab.1 bb.1) (by
      have := Int.mul_le_mul (show a % 18446744073709551616 ≤ 18446744073709551615 by omega) (show b % 18446744073709551616 ≤ 18446744073709551615 by omega) bb.1 (by decide)
      omega)
  have P2 : hs % 18446744073709551616 * 18446744073709551616 + lo' % 18446744073709551616 = Int.bmod a 18446744073709551616 * Int.bmod b 18446744073709551616 % 340282366920938463463374607431768211456 := by
    rw [l2, h2]; exact backS8 _
  have xa : wrap64 (Int.bmod a 18446744073709551616 % 18446744073709551616) = wrap64 (a % 18446744073709551616) := by rw [show Int.bmod a 18446744073709551616 % 18446744073709551616 = a % 18446744073709551616 from Int.bmod_emod]
  clear l1 l2 h1 h2
  by_cases h0 : b % 18446744073709551616 = 0
  · obtain ⟨u, v, d1⟩ := divZ15_8 hi lo' b wh wl hb h0
    obtain ⟨w1, z1, d2⟩ := divZ16_8 hs lo' b whs wl hb ((bm0_8 b).mpr h0)
    exact ⟨lo', hi, g, hs, gs, _, _, u, v, 16, w1, z1, 16, c1, c2, c3, c4, zer8 a, zer8 b, d1, d2, c9, fun _ => ⟨rfl, rfl⟩, fun h => absurd (by rw [h0]; exact w00) h⟩
  · have d1 := divP15_8 hi lo' b (a % 18446744073709551616) wh wl hb ab P1 h0
    have d2 := divP16_8 hs lo' b (Int.bmod a 18446744073709551616) whs wl hb sa P2 (fun e => h0 ((bm0_8 b).mp e))
    rw [xa] at d2
    exact ⟨lo', hi, g, hs, gs, _, _, _, 0, 0, _, 0, 0, c1, c2, c3, c4, zer8 a, zer8 b, d1, d2, c9, fun h => absurd h (by unfold wrap64; omega), fun _ => ⟨rfl, rfl, rfl, rfl, rfl, rfl⟩⟩
theorem prAll (a b n f : Int) (hn : okSize n) (hf : FlOK f) (ha : (Lit.int .i64 a).wf = true) (hb : (Lit.int .i64 b).wf = true) : ∃ lo hi g hs gs x y u v k w1 z1 k1, PrF a b n f lo hi g hs gs x y u v k w1 z1 k1 := by
  obtain ⟨c, p, z, s, o, rfl⟩ := hf
  rcases hn with rfl | rfl | rfl | rfl
  · exact pr1 a b c p z s o ha hb
  · exact pr2 a b c p z s o ha hb
  · exact pr4 a b c p z s o ha hb
  · exact pr8 a b c p z s o ha hb
end Go.Proofs.YtbcbepdfijcbmaaDoor
