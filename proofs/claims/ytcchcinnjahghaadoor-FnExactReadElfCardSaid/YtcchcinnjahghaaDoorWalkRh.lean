/-
  What impl.readHead answers of a text; condition: that it is no longer than MaxText.
-/
import Derived.Test.YtcchcinnjahghaaDoorWalkMg
import Derived.Test.YtcchcinnjahghaaDoorWalkRi
import Derived.Test.YtcchcinnjahghaaDoorWalkEl
namespace Go.Proofs.YtcchcinnjahghaaDoor
open Go.RowKit
set_option linter.unusedVariables false
set_option linter.unusedSimpArgs false
theorem tk2 (t : ByteArray) (a : Nat) : 0 ≤ tkN t a 2 ∧ tkN t a 2 ≤ 65535 := by
  have := takeN_lt t a 2
  unfold tkN wrap64
  omega
/-- worlds behind W -/
structure CW (W : World) where
  u : World
  b : Below W.heap.size W u
theorem CW.calls {P : Program} {f : FuncId} {args : Array Value} {v : Value} {W : World} (p : CW W) (h : Calls P f args p.u fun e w' => e = .returned v ∧ Below p.u.heap.size p.u w') : Calls P f args p.u fun e w'' => e = .returned v ∧ ∃ q : CW W, w'' = q.u :=
  h.mono fun e w' ⟨he, hb⟩ => ⟨he, ⟨w', p.b.trans (hb.mono p.b.size)⟩, rfl⟩
/-- the code of a text's head -/
def hdC (t : ByteArray) : Int := if t.size < 64 then 9 else if magicB t = false then 30 else if 4 < tkN t 56 2 then 6 else if (t.size : Int) < 64 + 56 * tkN t 56 2 then 9 else 0
set_option maxRecDepth 20000 in
set_option maxHeartbeats 2000000 in
theorem readHeadC (t : ByteArray) (w : World) (hm : t.size ≤ 65536) (n m c : Int) (hc : c = hdC t) (hn : n = if c = 0 then tkN t 24 8 else 0) (hk : m = if c = 0 then tkN t 56 2 else 0) : Calls Tryd.prog 41 #[.string t] w fun e w' => e = .returned (.tuple #[.int .i64 n, .int .i64 m, imE c]) ∧ Below w.heap.size w w' := by
  by_cases h0 : t.size < 64
  · obtain rfl : c = 9 := by rw [hc]; unfold hdC; simp [h0]
    obtain rfl : n = 0 := hn
    obtain rfl : m = 0 := hk
    have h1 : (t.size : Int) < 64 := by omega
    clear hc
    go_enter Tryd.func41, Tryd.ntmps41
    go_wp2
    go_returns
    exact ⟨rfl, Below.refl _ _⟩
  have h64 : 64 ≤ t.size := by omega
  have HM := Lib.hid (magic_iff t h64)
  have N1 := Lib.hid (fun g W h => numNext8 t g 24 32 W h hm (by omega) (by omega))
  have N2 := Lib.hid (fun g W (h : NumB W g t ((56 : Nat) : Int)) => numNext t g 56 2 W h hm (by omega) (.inr (.inl rfl)))
  have hb2 := tk2 t 56
  have hE : ((t.extract 0 64).toList == (headT (tkN t 24 8) (tkN t 56 2)).toList) = magicB t := by
    rw [Bool.eq_iff_iff, byt_eq]; exact HM.out.symm
  have HI := Lib.hid (fun W => headI (tkN t 24 8) (tkN t 56 2) W)
  have hcode : c = if magicB t = false then 30 else if 4 < tkN t 56 2 then 6 else if (t.size : Int) < 64 + 56 * tkN t 56 2 then 9 else 0 := by rw [hc]; unfold hdC; rw [if_neg h0]
  generalize headT (tkN t 24 8) (tkN t 56 2) = H at hE HI
  generalize tkN t 24 8 = X at N1 hn HI
  generalize tkN t 56 2 = Y at N2 hk HI hb2 hcode
  generalize magicB t = mb at hE hcode
  have HC := Lib.hid hcode; have HN := Lib.hid hn; have HK := Lib.hid hk; have HE := Lib.hid hE
  clear hcode hn hk hE hc h0 HM
  have e0 : decide ((t.size : Int) < 64) = false := decide_eq_false (by omega)
  have k64 : (64 : Int) ≤ (t.size : Int) := by omega
  go_enter Tryd.func41, Tryd.ntmps41
  go_wp2_with fail
  refine (numFrom t 24 w).mono ?_
  rintro e w1 ⟨rfl, n1, b1⟩
  have K1 := Lib.hid n1; have B1 := Lib.hid b1
  clear n1 b1
  go_wp2_with fail
  go_at_call 88
  refine (N1.out _ _ K1.out).mono ?_
  rintro e w2 ⟨rfl, _, b2⟩
  have B2 := Lib.hid (B1.out.trans b2)
  clear b2
  go_wp2_with fail
  refine (numFrom t 56 w2).mono ?_
  rintro e w3 ⟨rfl, n3, b3⟩
  have K3 := Lib.hid n3; have B3 := Lib.hid (B2.out.trans (b3.mono B2.out.size))
  have Z3 := Lib.hid B2.out.size
  clear n3 b3
  go_wp2_with fail
  go_at_call 88
  refine (N2.out _ _ K3.out).mono ?_
  rintro e w4 ⟨rfl, _, b4⟩
  have B4 := Lib.hid (B3.out.trans (b4.mono Z3.out))
  clear b4 N1 N2 K1 K3
  go_wp2_with fail
  have hne : Nonempty (CW w4) := ⟨⟨w4, Below.refl _ _⟩⟩
  have hE := HE.out
  refine wp_region_quietC (C := fun w' => ∃ q : CW w4, w' = q.u) (by kernel_rfl) (by kernel_rfl) ⟨⟨w4.drew, belowD w4⟩, rfl⟩ ?_
  repeat (quiet_step (first | (go_at_call 72; (with_reducible exact CW.calls _ (HI.out _)))))
  refine wpQuiet_nil ?_
  rintro _ ⟨q, rfl⟩
  have B5 := Lib.hid (B4.out.trans (q.b.mono B4.out.size))
  generalize q.u = w5 at B5 ⊢
  clear hne hE HI HE
  cases mb with
  | false =>
    obtain rfl : c = 30 := by have := HC.out; simpa using this
    obtain rfl : n = 0 := by have := HN.out; simpa using this
    obtain rfl : m = 0 := by have := HK.out; simpa using this
    go_wp2
    go_returns
    exact ⟨rfl, B5.out⟩
  | true =>
    have hc := HC.out
    simp only [Bool.true_eq_false, if_false] at hc
    by_cases h4 : 4 < Y
    · obtain rfl : c = 6 := by rw [hc, if_pos h4]
      obtain rfl : n = 0 := by have := HN.out; simpa using this
      obtain rfl : m = 0 := by have := HK.out; simpa using this
      have e4 : decide (4 < Y) = true := decide_eq_true h4
      clear hc h4
      go_wp2
      go_returns
      exact ⟨rfl, B5.out⟩
    · rw [if_neg h4] at hc
      have e4 : decide (4 < Y) = false := decide_eq_false h4
      have y5 : Y ≤ 4 := by omega
      by_cases h9 : (t.size : Int) < 64 + 56 * Y
      · obtain rfl : c = 9 := by rw [hc, if_pos h9]
        obtain rfl : n = 0 := by have := HN.out; simpa using this
        obtain rfl : m = 0 := by have := HK.out; simpa using this
        have e5 : decide ((t.size : Int) < 64 + Y * 56) = true := decide_eq_true (by omega)
        clear hc h4 h9
        go_wp2
        go_returns
        exact ⟨rfl, B5.out⟩
      · obtain rfl : c = 0 := by rw [hc, if_neg h9]
        obtain rfl : n = X := by have := HN.out; simpa using this
        obtain rfl : m = Y := by have := HK.out; simpa using this
        have e5 : decide ((t.size : Int) < 64 + m * 56) = false := decide_eq_false (by omega)
        clear hc h4 h9
        go_wp2
        go_returns
        exact ⟨rfl, B5.out⟩
end Go.Proofs.YtcchcinnjahghaaDoor
