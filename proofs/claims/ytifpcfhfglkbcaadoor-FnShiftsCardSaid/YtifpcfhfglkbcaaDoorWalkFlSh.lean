/-
  What the law of shifts asks of Shift and ZeroOf, as contracts on the numbers that it draws; conditions: those in each head.
-/
import Derived.Test.YtifpcfhfglkbcaaDoorWalkFlZ
import Derived.Test.YtifpcfhfglkbcaaDoorMathRot
namespace Go.Proofs.YtifpcfhfglkbcaaDoor
open Go.RowKit
set_option linter.unusedVariables false
theorem shiftYes (op a b f : Int) (X C size : Nat) (w : World) (hop : ShOp op) (hn : okSize (size : Int)) (ha : IntKind.u64.wrap a = (X : Int)) (hb : IntKind.u64.wrap b = (C : Int)) (hf : FlOK f) :
    Calls Tryd.prog 18 #[.int .i64 op, .int .i64 (size : Int), .int .i64 a, .int .i64 b, .int .i64 f] w fun e w' => e = .returned (.tuple #[.int .i64 (wrap64 (((itS (8 * size) op (X % 2 ^ (8 * size)) f (cntS size C)).1 : Nat) : Int)), .int .i64 (itS (8 * size) op (X % 2 ^ (8 * size)) f (cntS size C)).2, .int .i64 0]) ∧ Below w.heap.size w w' := by
  obtain ⟨c, p, z, s, o, rfl⟩ := hf
  obtain ⟨v, g, k, ⟨s', X', C', e1, e2, e3, h⟩, hc⟩ := ShiftI op (size : Int) a b c p z s o w hn
  obtain rfl : size = s' := by omega
  obtain rfl : X = X' := by omega
  obtain rfl : C = C' := by omega
  rcases h with ⟨_, rfl, rfl, rfl⟩ | ⟨h, _⟩
  · exact hc
  · exact absurd hop h
theorem shiftYesS (op a b f : Int) (X C size : Nat) (w : World) (hop : ShOp op) (hn : okSize (size : Int)) (ha : IntKind.u64.wrap a = (X : Int)) (hb : IntKind.u64.wrap b = (C : Int)) (hf : FlOK f) :
    Calls Tryd.prog 17 #[.int .i64 op, .int .i64 (size : Int), .int .i64 a, .int .i64 b, .int .i64 f] w fun e w' => e = .returned (.tuple #[.int .i64 (wrap64 (((itS (8 * size) op (X % 2 ^ (8 * size)) f (cntS size C)).1 : Nat) : Int)), .int .i64 (itS (8 * size) op (X % 2 ^ (8 * size)) f (cntS size C)).2, .int .i64 0]) ∧ w = w' := by
  obtain ⟨c, p, z, s, o, rfl⟩ := hf
  obtain ⟨v, g, k, ⟨s', X', C', e1, e2, e3, h⟩, hc⟩ := ShiftS op (size : Int) a b c p z s o w hn
  obtain rfl : size = s' := by omega
  obtain rfl : X = X' := by omega
  obtain rfl : C = C' := by omega
  rcases h with ⟨_, rfl, rfl, rfl⟩ | ⟨h, _⟩
  · exact hc
  · exact absurd hop h
theorem itS_rp (w : Nat) (op : Int) (X : Nat) (f : Int) : ∀ n, (itS w op X f n).1 = rp (stN w op) n X
  | 0 => rfl
  | n + 1 => by show stN w op (itS w op X f n).1 = _; rw [itS_rp w op X f n]; rfl
theorem cnt_low' {size k : Nat} (hk : k < 32) : cntS size k = k := by unfold cntS; split <;> omega
theorem st20 (w : Nat) : stN w 20 = rolN w := rfl
theorem st21 (w : Nat) : stN w 21 = rorN w := rfl
theorem st22 (w : Nat) : stN w 22 = shlN w := rfl
theorem st23 (w : Nat) : stN w 23 = (· / 2) := rfl
/-- what the law asks -/
structure ShF (op n a f : Int) (k m : Nat) (vk Fk x p q q2 low s s2 t2 : Int) (W1 H1 Y Z : Nat → Int) : Prop where
  c1 : ∀ w, Calls Tryd.prog 18 #[.int .i64 op, .int .i64 n, .int .i64 a, .int .i64 (k : Int), .int .i64 f] w fun e w' => e = .returned (.tuple #[.int .i64 vk, .int .i64 Fk, .int .i64 0]) ∧ Below w.heap.size w w'
  c2 : ∀ w, Calls Tryd.prog 17 #[.int .i64 op, .int .i64 n, .int .i64 a, .int .i64 (k : Int), .int .i64 f] w fun e w' => e = .returned (.tuple #[.int .i64 vk, .int .i64 Fk, .int .i64 0]) ∧ w = w'
  c3 : ∀ w, Calls Tryd.prog 27 #[.int .i64 a, .int .i64 n] w fun e w' => e = .returned (.tuple #[.int .i64 x, .int .i64 0]) ∧ w = w'
  c4 : ∀ j w, Calls Tryd.prog 18 #[.int .i64 op, .int .i64 n, .int .i64 (W1 j), .int .i64 1, .int .i64 (H1 j)] w fun e w' => e = .returned (.tuple #[.int .i64 (W1 (j + 1)), .int .i64 (H1 (j + 1)), .int .i64 0]) ∧ Below w.heap.size w w'
  e0 : W1 0 = x
  e1 : H1 0 = f
  e2 : W1 k = vk
  e3 : H1 k = Fk
  c5 : ∀ j w, Calls Tryd.prog 18 #[.int .i64 20, .int .i64 n, .int .i64 (Y j), .int .i64 1, .int .i64 f] w fun e w' => e = .returned (.tuple #[.int .i64 (Y (j + 1)), .int .i64 (Z j), .int .i64 0]) ∧ Below w.heap.size w w'
  y0 : Y 0 = x
  y1 : Y m = x
  c6 : ∀ w, Calls Tryd.prog 18 #[.int .i64 21, .int .i64 n, .int .i64 x, .int .i64 3, .int .i64 f] w fun e w' => e = .returned (.tuple #[.int .i64 p, .int .i64 q, .int .i64 0]) ∧ Below w.heap.size w w'
  c7 : ∀ w, Calls Tryd.prog 18 #[.int .i64 20, .int .i64 n, .int .i64 p, .int .i64 3, .int .i64 q] w fun e w' => e = .returned (.tuple #[.int .i64 x, .int .i64 q2, .int .i64 0]) ∧ Below w.heap.size w w'
  c8 : ∀ w, Calls Tryd.prog 27 #[.int .i64 a, .int .i64 1] w fun e w' => e = .returned (.tuple #[.int .i64 low, .int .i64 0]) ∧ w = w'
  c9 : ∀ w, Calls Tryd.prog 18 #[.int .i64 22, .int .i64 8, .int .i64 low, .int .i64 (k : Int), .int .i64 f] w fun e w' => e = .returned (.tuple #[.int .i64 s, .int .i64 s2, .int .i64 0]) ∧ Below w.heap.size w w'
  c10 : ∀ w, Calls Tryd.prog 18 #[.int .i64 23, .int .i64 8, .int .i64 s, .int .i64 (k : Int), .int .i64 f] w fun e w' => e = .returned (.tuple #[.int .i64 low, .int .i64 t2, .int .i64 0]) ∧ Below w.heap.size w w'
  c11 : ∀ w, Calls Tryd.prog 18 #[.int .i64 op, .int .i64 n, .int .i64 a, .int .i64 64, .int .i64 f] w fun e w' => e = .returned (.tuple #[.int .i64 x, .int .i64 f, .int .i64 0]) ∧ Below w.heap.size w w'
theorem sh_facts (op a f : Int) (k size : Nat) (hop : ShOp op) (hn : okSize (size : Int)) (hk : k < 20) (hf : FlOK f) :
    ∃ vk Fk x p q q2 low s s2 t2 W1 H1 Y Z, ShF op (size : Int) a f k (8 * size) vk Fk x p q q2 low s s2 t2 W1 H1 Y Z := by
  obtain ⟨X, hX⟩ := natU a
  have hs : 1 ≤ size ∧ size ≤ 8 := by rcases hn with h | h | h | h <;> omega
  obtain ⟨hs1, hs8⟩ := hs
  have h64 := pow_le64 hs8
  have w1 : 1 ≤ 8 * size := by omega
  have hA : X % 2 ^ (8 * size) < 2 ^ (8 * size) := Nat.mod_lt _ (Nat.two_pow_pos _)
  have hL : X % 2 ^ 8 < 256 := Nat.mod_lt _ (by decide)
  have u (N : Nat) (h : N < 2 ^ (8 * size)) : IntKind.u64.wrap (wrap64 (N : Int)) = (N : Int) := u64_w64 (Nat.lt_of_lt_of_le h h64)
  have m (N : Nat) (h : N < 2 ^ (8 * size)) : N % 2 ^ (8 * size) = N := Nat.mod_eq_of_lt h
  have uk : IntKind.u64.wrap (k : Int) = (k : Int) := by rw [wrapU]; omega
  have u1 : IntKind.u64.wrap 1 = ((1 : Nat) : Int) := by decide +kernel
  have u3 : IntKind.u64.wrap 3 = ((3 : Nat) : Int) := by decide +kernel
  have u64' : IntKind.u64.wrap 64 = ((64 : Nat) : Int) := by decide +kernel
  have k1 : cntS size 1 = 1 := cnt_low' (by decide)
  have k3 : cntS size 3 = 3 := cnt_low' (by decide)
  have kk : cntS size k = k := cnt_low' (by omega)
  have kk8 : cntS 8 k = k := cnt_low' (by omega)
  have k0 : cntS size 64 = 0 := by unfold cntS; split <;> omega
  have s20 : ShOp 20 := .inl rfl
  have s21 : ShOp 21 := .inr (.inl rfl)
  have s22 : ShOp 22 := .inr (.inr (.inl rfl))
  have s23 : ShOp 23 := .inr (.inr (.inr (.inl rfl)))
  have hok := itS_ok (w := 8 * size) (op := op) w1 hA hf
  have hy (j : Nat) : rp (rolN (8 * size)) j (X % 2 ^ (8 * size)) < 2 ^ (8 * size) := rp_lt (fun Y _ => rolN_lt w1 Y) hA j
  have hp : rp (rorN (8 * size)) 3 (X % 2 ^ (8 * size)) < 2 ^ (8 * size) := rp_lt (fun Y h => rorN_lt w1 h) hA 3
  have hq := itS_ok (w := 8 * size) (op := 21) w1 hA hf 3
  have hS : rp (shlN 64) k (X % 2 ^ 8) < 2 ^ 64 := rp_lt (fun Y _ => shlN_lt 64 Y) (Nat.lt_trans hL (by decide)) k
  have n8 : okSize ((8 : Nat) : Int) := .inr (.inr (.inr rfl))
  have uL : IntKind.u64.wrap (wrap64 ((X % 2 ^ 8 : Nat) : Int)) = ((X % 2 ^ 8 : Nat) : Int) := u64_w64 (by omega)
  have uS : IntKind.u64.wrap (wrap64 ((rp (shlN 64) k (X % 2 ^ 8) : Nat) : Int)) = ((rp (shlN 64) k (X % 2 ^ 8) : Nat) : Int) := u64_w64 (by have h : (2 : Nat) ^ 64 = 18446744073709551616 := by decide
                                                                                                                                             omega)
  refine ⟨wrap64 (((itS (8 * size) op (X % 2 ^ (8 * size)) f k).1 : Nat) : Int), (itS (8 * size) op (X % 2 ^ (8 * size)) f k).2, wrap64 ((X % 2 ^ (8 * size) : Nat) : Int), wrap64 ((rp (rorN (8 * size)) 3 (X % 2 ^ (8 * size)) : Nat) : Int), (itS (8 * size) 21 (X % 2 ^ (8 * size)) f 3).2, (itS (8 * size) 20 (rp (rorN (8 * size)) 3 (X % 2 ^ (8 * size))) (itS (8 * size) 21 (X % 2 ^ (8 * size)) f 3).2 3).2, wrap64 ((X % 2 ^ 8 : Nat) : Int), wrap64 ((rp (shlN 64) k (X % 2 ^ 8) : Nat) : Int), (itS (8 * 8) 22 (X % 2 ^ 8) f k).2, (itS (8 * 8) 23 (rp (shlN 64) k (X % 2 ^ 8)) f k).2,
    fun j => wrap64 (((itS (8 * size) op (X % 2 ^ (8 * size)) f j).1 : Nat) : Int), fun j => (itS (8 * size) op (X % 2 ^ (8 * size)) f j).2, fun j => wrap64 ((rp (rolN (8 * size)) j (X % 2 ^ (8 * size)) : Nat) : Int), fun j => (itS (8 * size) 20 (rp (rolN (8 * size)) j (X % 2 ^ (8 * size))) f 1).2,
    ⟨fun w => ?_, fun w => ?_, fun w => ?_, fun j w => ?_, rfl, rfl, rfl, rfl, fun j w => ?_, rfl, ?_, fun w => ?_, fun w => ?_, fun w => ?_, fun w => ?_, fun w => ?_, fun w => ?_⟩⟩
  · have h := shiftYes op a (k : Int) f X k size w hop hn hX uk hf
    rw [kk] at h; exact h
  · have h := shiftYesS op a (k : Int) f X k size w hop hn hX uk hf
    rw [kk] at h; exact h
  · exact specZeroYes a X size _ w rfl hX hn
  · have h := shiftYes op _ 1 _ _ 1 size w hop hn (u _ (hok j).1) u1 (hok j).2
    rw [k1, m _ (hok j).1] at h; exact h
  · have h := shiftYes 20 _ 1 f _ 1 size w s20 hn (u _ (hy j)) u1 hf
    rw [k1, m _ (hy j)] at h; exact h
  · show wrap64 ((rp (rolN (8 * size)) (8 * size) (X % 2 ^ (8 * size)) : Nat) : Int) = _
    rw [rol_all w1 hA]
  · have h := shiftYes 21 _ 3 f _ 3 size w s21 hn (u _ hA) u3 hf
    rw [k3, m _ hA, itS_rp, st21] at h; exact h
  · have h := shiftYes 20 _ 3 _ _ 3 size w s20 hn (u _ hp) u3 hq.2
    rw [k3, m _ hp, itS_rp, st20, rol_ror_n w1 3 hA] at h; exact h
  · exact specZeroYes a X 1 _ w rfl hX (.inl rfl)
  · have h := shiftYes 22 _ (k : Int) f _ k 8 w s22 n8 uL uk hf
    rw [kk8, Nat.mod_eq_of_lt (Nat.lt_trans hL (by decide)), itS_rp, st22] at h; exact h
  · have h := shiftYes 23 _ (k : Int) f _ k 8 w s23 n8 uS uk hf
    rw [kk8, Nat.mod_eq_of_lt hS, itS_rp, st23, shr_shl hL (by omega)] at h; exact h
  · have h := shiftYes op a 64 f X 64 size w hop hn hX u64' hf
    rw [k0] at h; exact h
end Go.Proofs.YtifpcfhfglkbcaaDoor
