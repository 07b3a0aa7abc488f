/-
  What impl.TakeLittle and spec.TakeLittle do: the number that some bytes of a text are, the lowest one first, or codes 2, 4 and 9, changing nothing that was there; condition: the sentinels hold what the program's text lays there.
-/
import Derived.Test.YtcchcinnjahghaaDoorWalkPut
import Derived.Test.YtcchcinnjahghaaDoorMathTake
namespace Go.Proofs.YtcchcinnjahghaaDoor
open Go.RowKit Go.Extern.Stop Go.Stop Go.Extern
theorem ret_in {a b : Int} (h : a = b) : Ending.returned (.tuple #[.int .i64 a, .nilIface]) = .returned (.tuple #[.int .i64 b, .nilIface]) := by rw [h]
theorem cast_d8 (U k : Nat) : ((U / 2 ^ (8 * k) : Nat) : Int) = (U : Int) / 2 ^ (8 * k) := by simp
theorem take_w {s : ByteArray} {a n k : Nat} (h : k < n) (hn : n ≤ 8) : IntKind.u64.wrap (IntKind.u64.wrap (256 * ((takeN s a n : Int) / 2 ^ (8 * (k + 1)))) + (nb s (a + k) : Int)) = (takeN s a n : Int) / 2 ^ (8 * k) := by
  have h1 := takeN_step s a n k h
  have h2 : takeN s a n / 2 ^ (8 * k) ≤ takeN s a n := Nat.div_le_self _ _
  have h3 := lt64 (takeN_lt s a n) hn
  rw [← cast_d8, ← cast_d8]
  generalize takeN s a n / 2 ^ (8 * k) = x at *
  generalize takeN s a n / 2 ^ (8 * (k + 1)) = y at *
  rw [wrapU, wrapU]; omega
set_option maxHeartbeats 1000000 in
theorem specTakeL (s : ByteArray) (a size : Nat) (w : World) (hm : s.size ≤ 65536) (ha : a + size ≤ s.size) (hs8 : size ≤ 8) :
    Calls Tryd.prog 39 #[.string s, .int .i64 (a : Int), .int .i64 (size : Int)] w fun e w' => e = .returned (.int .i64 (wrap64 (takeN s a size : Int))) ∧ w = w' := by
  go_enter Tryd.func39, Tryd.ntmps39
  go_wp2
  go_loop [7, 8] (fun o i => ∃ k : Nat, k ≤ size ∧ i = .int .i64 ((k : Int) - 1) ∧ o = .int .u64 ((takeN s a size : Int) / 2 ^ (8 * k))) (fun _ i => (intOf i + 1).toNat)
  case atStart =>
    have e : takeN s a size / 2 ^ (8 * size) = 0 := Nat.div_eq_of_lt (takeN_lt s a size)
    exact ⟨size, Nat.le_refl _, rfl, by rw [← cast_d8, e] <;> rfl⟩
  case round =>
    obtain ⟨k, hk, rfl, rfl⟩ := hrel
    by_cases h0 : 1 ≤ k
    · obtain ⟨m, rfl⟩ : ∃ m, k = m + 1 := ⟨k - 1, by omega⟩
      have hst := take_w (s := s) (a := a) (show m < size by omega) hs8
      have e1 : ((m + 1 : Nat) : Int) - 1 = (m : Int) := by omega
      rw [e1]
      have hi1 : (a : Int) + (m : Int) < s.size := by omega
      have hi2 : ((a : Int) + (m : Int)).toNat = a + m := by omega
      have hi3 : a + m < s.size := by omega
      have hnb := nb_at s (a + m) hi3
      have hnl : (nb s (a + m) : Int) ≤ 255 := by have := nb_lt s (a + m); omega
      have HST := Lib.hid hst
      clear hst e1
      go_wp2
      go_round
      case rel => exact ⟨m, by omega, rfl, by rw [HST.out]⟩
      case measure => first | (simp [intOf]; done) | (simp [intOf]; omega)
    · obtain rfl : k = 0 := by omega
      go_wp2
      go_ret
      exact ⟨ret_i (by simp), rfl⟩
set_option maxHeartbeats 400000 in
theorem spanYes (s : ByteArray) (a size : Nat) (w : World) (hm : s.size ≤ 65536) (ha : a + size ≤ s.size) :
    Calls Tryd.prog 101 #[.string s, .int .i64 (a : Int), .int .i64 (size : Int)] w fun e w' => e = .returned .nilIface ∧ w = w' := by
  have h1 : decide ((s.size : Int) - (size : Int) < (a : Int)) = false := decide_eq_false (by omega)
  go_enter Tryd.func101, Tryd.ntmps101
  go_wp2
  go_ret
  exact ⟨rfl, rfl⟩
set_option maxHeartbeats 400000 in
theorem spanNo (s : ByteArray) (a n : Int) (w : World) (aE aR : Addr) (hs : Sent w aE aR) (hm : s.size ≤ 65536) (hn : okSize n) (ha : a < 0 ∨ (s.size : Int) < a + n) (hw : (Lit.int .i64 a).wf = true) :
    Calls Tryd.prog 101 #[.string s, .int .i64 a, .int .i64 n] w fun e w' => e = .returned (bErr placeT a aE) ∧ w = w' := by
  have hc := hs.cE
  have hb := bounds_i64 hw
  have hn0 : 1 ≤ n ∧ n ≤ 8 := by rcases hn with h | h | h | h <;> omega
  clear hs hw hn
  by_cases h0 : a < 0
  · clear ha hb
    go_enter Tryd.func101, Tryd.ntmps101
    go_wp2
    go_ret
    exact ⟨rfl, rfl⟩
  · have h1 : decide ((s.size : Int) - n < a) = true := decide_eq_true (by omega)
    have h2 : 0 ≤ a := by omega
    clear ha h0 hb
    obtain ⟨hn1, hn2⟩ := hn0
    go_enter Tryd.func101, Tryd.ntmps101
    go_wp2
    go_ret
    exact ⟨rfl, rfl⟩
set_option maxHeartbeats 1000000 in
theorem implTakeYes (s : ByteArray) (a size : Nat) (w : World) (hm : s.size ≤ 65536) (ha : a + size ≤ s.size) (hok : okSize (size : Int)) :
    Calls Tryd.prog 89 #[.string s, .int .i64 (a : Int), .int .i64 (size : Int)] w fun e w' => e = .returned (.tuple #[.int .i64 (wrap64 (takeN s a size : Int)), .nilIface]) ∧ w = w' := by
  have hs8 : size ≤ 8 := by rcases hok with h | h | h | h <;> omega
  have C := Lib.hid (checkYes (size : Int) w hok); have C2 := Lib.hid (spanYes s a size w hm ha)
  clear hok
  go_enter Tryd.func89, Tryd.ntmps89
  go_wp2_with (first | (go_at_call 100; refine (C.out).mono ?_; rintro e w' ⟨rfl, rfl⟩) | (go_at_call 101; refine (C2.out).mono ?_; rintro e w' ⟨rfl, rfl⟩))
  go_loop [10, 11, 25] (fun o _ i => ∃ (k : Nat) (x : Int), k ≤ size ∧ i = .int .i64 (k : Int) ∧ o = .int .i64 x ∧ Hid (x = wrap64 (takeN s a k : Int))) (fun _ _ i => size - (intOf i).toNat)
  case atStart => exact ⟨0, 0, by omega, rfl, rfl, Lib.hid (by simp [takeN, wrap64])⟩
  case round =>
    obtain ⟨k, x, hk, rfl, rfl, HXK⟩ := hrel
    by_cases hlt : k < size
    · have hlt2 : (k : Int) < size := by omega
      have hi1 : (a : Int) + (k : Int) < s.size := by omega
      have hi2 : ((a : Int) + (k : Int)).toNat = a + k := by omega
      have hi3 : a + k < s.size := by omega
      have hnb := nb_at s (a + k) hi3
      have hnl : (nb s (a + k) : Int) ≤ 255 := by have := nb_lt s (a + k); omega
      have hst := or_step s a k (by omega)
      rw [← HXK.out] at hst
      have HST := Lib.hid hst
      clear hst
      go_wp2
      go_round
      case rel => exact ⟨k + 1, _, by omega, by go_num, rfl, HST⟩
      case measure => first | (simp [intOf]; done) | (simp [intOf]; omega)
    · obtain rfl : k = size := by omega
      go_wp2
      go_ret2
      exact ⟨ret_in HXK.out, rfl⟩
set_option maxHeartbeats 400000 in
theorem implTakeNo1 (s : ByteArray) (a n : Int) (w : World) (aE aR : Addr) (hs : Sent w aE aR) (h : ¬ okSize n) :
    Calls Tryd.prog 89 #[.string s, .int .i64 a, .int .i64 n] w fun e w' => e = .returned (.tuple #[.int .i64 0, bErr sizeT n aR]) ∧ w = w' := by
  have C := Lib.hid (checkNo n w aE aR hs h)
  clear h hs
  unfold bErr at C
  go_enter Tryd.func89, Tryd.ntmps89
  go_wp2_with fail
  refine (C.out).mono ?_
  rintro e w' ⟨rfl, rfl⟩
  go_wp2
  go_ret2
  exact ⟨rfl, rfl⟩
set_option maxHeartbeats 400000 in
theorem implTakeNo2 (s : ByteArray) (a n : Int) (w : World) (aE aR : Addr) (hs : Sent w aE aR) (hm : s.size ≤ 65536) (hok : okSize n) (ha : a < 0 ∨ (s.size : Int) < a + n) (hw : (Lit.int .i64 a).wf = true) :
    Calls Tryd.prog 89 #[.string s, .int .i64 a, .int .i64 n] w fun e w' => e = .returned (.tuple #[.int .i64 0, bErr placeT a aE]) ∧ w = w' := by
  have C := Lib.hid (checkYes n w hok); have C2 := Lib.hid (spanNo s a n w aE aR hs hm hok ha hw)
  clear hok hs ha hw
  unfold bErr at C2
  go_enter Tryd.func89, Tryd.ntmps89
  go_wp2_with fail
  refine (C.out).mono ?_
  rintro e w' ⟨rfl, rfl⟩
  go_wp2_with fail
  refine (C2.out).mono ?_
  rintro e w' ⟨rfl, rfl⟩
  go_wp2
  go_ret2
  exact ⟨rfl, rfl⟩
/-- what both TakeLittle answer -/
def TakeOut (s : ByteArray) (a n : Int) (r c : Int) : Prop :=
  (65536 < s.size ∧ r = 0 ∧ c = 2) ∨ (s.size ≤ 65536 ∧ ¬ okSize n ∧ r = 0 ∧ c = 4) ∨ (s.size ≤ 65536 ∧ okSize n ∧ (a < 0 ∨ (s.size : Int) < a + n) ∧ r = 0 ∧ c = 9) ∨ (s.size ≤ 65536 ∧ okSize n ∧ 0 ≤ a ∧ a + n ≤ s.size ∧ r = wrap64 (takeN s a.toNat n.toNat : Int) ∧ c = 0)
theorem TakeOut.one {s : ByteArray} {a n r c r' c' : Int} (h : TakeOut s a n r c) (h' : TakeOut s a n r' c') : r = r' ∧ c = c' := by
  rcases h with ⟨h1, rfl, rfl⟩ | ⟨h1, h2, rfl, rfl⟩ | ⟨h1, h2, h3, rfl, rfl⟩ | ⟨h1, h2, h3, h4, rfl, rfl⟩ <;> rcases h' with ⟨g1, rfl, rfl⟩ | ⟨g1, g2, rfl, rfl⟩ | ⟨g1, g2, g3, rfl, rfl⟩ | ⟨g1, g2, g3, g4, rfl, rfl⟩ <;> first | exact ⟨rfl, rfl⟩ | omega | exact absurd h2 g2 | exact absurd g2 h2
def TakeEnd (s : ByteArray) (a n : Int) (w : World) (e : Ending) (w' : World) : Prop := ∃ r c : Int, TakeOut s a n r c ∧ e = .returned (.tuple #[.int .i64 r, .int .i64 c]) ∧ Below w.heap.size w w'
end Go.Proofs.YtcchcinnjahghaaDoor
