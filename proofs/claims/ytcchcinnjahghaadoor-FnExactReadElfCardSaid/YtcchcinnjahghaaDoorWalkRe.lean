/-
  What impl.ReadElf answers of a text that is not too long; condition: the library's own variable of errors.As holds what Go's text lays there.
-/
import Derived.Test.YtcchcinnjahghaaDoorWalkRx
import Derived.Test.YtcchcinnjahghaaDoorWalkFa
namespace Go.Proofs.YtcchcinnjahghaaDoor
open Go.RowKit
set_option linter.unusedVariables false
set_option linter.unusedSimpArgs false
/-- the code with which a text is refused -/
def RcIs (t : ByteArray) (c : Int) : Prop := c ≠ 0 ∧ ((hdC t ≠ 0 ∧ c = hdC t) ∨ (hdC t = 0 ∧ ∃ m : Nat, (m : Int) = tkN t 56 2 ∧ ((∃ k, k < m ∧ RsTo t k ∧ rsAt t (64 + 56 * k) ≠ 0 ∧ c = rsAt t (64 + 56 * k)) ∨ (RsTo t m ∧ ∃ k, Chk (tkN t 24 8) (lstT t m) k c))))
/-- what ReadElf answers of a text that is not too long -/
def ReOut (w w' : World) (t : ByteArray) (e : Ending) : Prop :=
  (∃ c, RcIs t c ∧ e = .returned (.tuple #[.agg #[.int .i64 0, .slice none 0 0], .int .i64 c]))
  ∨ (hdC t = 0 ∧ ∃ m : Nat, (m : Int) = tkN t 56 2 ∧ RsTo t m ∧ (∃ k, Chk (tkN t 24 8) (lstT t m) k 0) ∧ ∃ g cap, e = .returned (.tuple #[.agg #[.int .i64 (tkN t 24 8), .slice (some ⟨g, 0, none⟩) m cap], .int .i64 0]) ∧ w'.ownsRow w.heap.size 61 4 (.slice (some ⟨g, 0, none⟩) m cap) m (SV (lstT t m)))
theorem rx_fault {w w' : World} {t : ByteArray} {e : Ending} (h : RxOut w w' t e) : (∃ E k c, e = .returned (.tuple #[.agg #[.int .i64 0, .slice none 0 0], E]) ∧ ErrIs k c E ∧ RcIs t c) ∨ (hdC t = 0 ∧ ∃ m : Nat, (m : Int) = tkN t 56 2 ∧ RsTo t m ∧ (∃ k, Chk (tkN t 24 8) (lstT t m) k 0) ∧ ∃ g cap, e = .returned (.tuple #[.agg #[.int .i64 (tkN t 24 8), .slice (some ⟨g, 0, none⟩) m cap], .nilIface]) ∧ w'.ownsRow w.heap.size 61 4 (.slice (some ⟨g, 0, none⟩) m cap) m (SV (lstT t m))) := by
  rcases h with ⟨E, he, h⟩ | h
  · refine .inl ?_
    rcases h with ⟨h1, h2⟩ | ⟨h1, m, hm, ⟨k, hk, hr, hb, h2⟩ | ⟨hr, k, c, hc, hz, h2⟩⟩
    · exact ⟨E, 0, hdC t, he, .inl ⟨rfl, h2⟩, h1, .inl ⟨h1, rfl⟩⟩
    · exact ⟨E, k, _, he, .inr ⟨hb, h2⟩, hb, .inr ⟨h1, m, hm, .inl ⟨k, hk, hr, hb, rfl⟩⟩⟩
    · exact ⟨E, k, c, he, h2, hz, .inr ⟨h1, m, hm, .inr ⟨hr, k, hc⟩⟩⟩
  · exact .inr h
set_option maxHeartbeats 2000000 in
theorem readElfI (t : ByteArray) (w : World) (hg : EtOk w) (hm : t.size ≤ 65536) : Calls Tryd.prog 6 #[.string t] w fun e w' => ReOut w w' t e ∧ Below w.heap.size w w' := by
  obtain ⟨W, hW⟩ : ∃ W, W = w.alloc (.cells #[.int .i64 0, .slice none 0 0] 24) := ⟨_, rfl⟩
  have LW : Hid (Below w.heap.size w W) := Lib.hid (by rw [hW]; exact belowA _ _)
  have IW : Hid (ImAt W w.heap.size 0 none 0 0) := Lib.hid (by rw [hW]; exact ImAt.new _ _ _ _ _ _)
  have FW : Hid (∀ k, W.frozen? ⟨w.heap.size, k, none⟩ = false) := Lib.hid (by rw [hW]; intro k; simp [go_sem])
  have HWW := Lib.hid hW
  have C := Lib.hid (readImageC t W hm)
  have HG := Lib.hid (hg.next LW.out)
  have e0 : decide ((65536 : Int) < (t.size : Int)) = false := decide_eq_false (by omega)
  clear hW hg
  go_enter Tryd.func6, Tryd.ntmps6
  go_wp2_with fail
  rw [← HWW.out]
  refine (C.out).mono ?_
  rintro e w1 ⟨ho, b1⟩
  have B1 := Lib.hid b1
  rcases rx_fault ho with ⟨E, k, c, rfl, hE, hR⟩ | ⟨h0, m, hmY, hr, hc, g, cap, rfl, hown⟩
  · obtain ⟨V1, hV1⟩ : ∃ V1, V1 = w1.alloc (.cells #[.int .i64 0, .slice none 0 0] 24) := ⟨_, rfl⟩
    have A1 : Hid (Below W.heap.size W V1) := Lib.hid (by rw [hV1]; exact B1.out.alloc B1.out.size _)
    have J1 : Hid (ImAt V1 w1.heap.size 0 none 0 0) := Lib.hid (by rw [hV1]; exact ImAt.new _ _ _ _ _ _)
    have D := Lib.hid (faultC k c E V1 (HG.out.next A1.out) hE)
    have HV := Lib.hid hV1
    have HR := Lib.hid hR
    clear ho b1 hE hR hV1
    go_wp2_with fail
    rw [← HV.out]
    refine (D.out).mono ?_
    rintro e w2 ⟨rfl, b2⟩
    have A2 := Lib.hid (bthenS A1.out b2)
    obtain ⟨x0, x1, x2⟩ := J1.out.next b2
    obtain ⟨j0, j1, j2⟩ := IW.out.next A2.out
    have p0 : w2.frozen? ⟨w.heap.size, 0, none⟩ = false := (A2.out.frozen (p := ⟨w.heap.size, 0, none⟩) IW.out.1).trans (FW.out 0)
    have p1 : w2.frozen? ⟨w.heap.size, 1, none⟩ = false := (A2.out.frozen (p := ⟨w.heap.size, 1, none⟩) IW.out.1).trans (FW.out 1)
    have R := Lib.hid (two_res (v0 := .int .i64 0) (v1 := .slice none 0 0) j1 j2)
    clear b2 D
    go_wp2
    obtain ⟨r0, r1⟩ := R.out
    refine bodyPost_ret (v := .tuple #[.agg #[.int .i64 0, .slice none 0 0], .int .i64 c]) (by simp [results, Tryd.results6, go_sem, r0, r1]) rfl ?_
    exact ⟨.inl ⟨c, HR.out, rfl⟩, ((LW.out.trans (A2.out.mono LW.out.size)).setCell (Nat.le_refl _) _).setCell (Nat.le_refl _) _⟩
  · obtain ⟨X, hX⟩ : ∃ X, X = tkN t 24 8 := ⟨_, rfl⟩
    have HH := Lib.hid h0; have HY := Lib.hid hmY; have HR := Lib.hid hr; have HC := Lib.hid hc; have HX := Lib.hid hX; have OW := Lib.hid hown
    rw [← hX]
    obtain ⟨V1, hV1⟩ : ∃ V1, V1 = w1.alloc (.cells #[.int .i64 X, .slice (some ⟨g, 0, none⟩) m cap] 24) := ⟨_, rfl⟩
    have A0 : Hid (Below w1.heap.size w1 V1) := Lib.hid (by rw [hV1]; exact belowA _ _)
    have A1 : Hid (Below W.heap.size W V1) := Lib.hid (bthenS B1.out A0.out)
    have J1 : Hid (ImAt V1 w1.heap.size X (some ⟨g, 0, none⟩) m cap) := Lib.hid (by rw [hV1]; exact ImAt.new _ _ _ _ _ _)
    have D := Lib.hid (faultC 0 0 .nilIface V1 (HG.out.next A1.out) (.inl ⟨rfl, rfl⟩))
    have HV := Lib.hid hV1
    clear ho b1 h0 hmY hr hc hX hown hV1
    go_wp2_with fail
    rw [← HV.out]
    refine (D.out).mono ?_
    rintro e w2 ⟨rfl, b2⟩
    have A2 := Lib.hid (bthenS A1.out b2)
    have O2 := Lib.hid (own_below (own_below OW.out A0.out) b2)
    obtain ⟨x0, x1, x2⟩ := J1.out.next b2
    obtain ⟨j0, j1, j2⟩ := IW.out.next A2.out
    have p0 : w2.frozen? ⟨w.heap.size, 0, none⟩ = false := (A2.out.frozen (p := ⟨w.heap.size, 0, none⟩) IW.out.1).trans (FW.out 0)
    have p1 : w2.frozen? ⟨w.heap.size, 1, none⟩ = false := (A2.out.frozen (p := ⟨w.heap.size, 1, none⟩) IW.out.1).trans (FW.out 1)
    have R := Lib.hid (two_res (v0 := .int .i64 X) (v1 := .slice (some ⟨g, 0, none⟩) m cap) j1 j2)
    have hlt := Lib.hid IW.out.1
    clear b2 D
    go_wp2
    obtain ⟨r0, r1⟩ := R.out
    refine bodyPost_ret (v := .tuple #[.agg #[.int .i64 X, .slice (some ⟨g, 0, none⟩) m cap], .int .i64 0]) (by simp [results, Tryd.results6, go_sem, r0, r1]) rfl ?_
    refine ⟨.inr ⟨HH.out, m, HY.out, HR.out, HC.out, g, cap, by rw [← HX.out], ?_⟩, ((LW.out.trans (A2.out.mono LW.out.size)).setCell (Nat.le_refl _) _).setCell (Nat.le_refl _) _⟩
    have hne : (Value.slice (some ⟨g, 0, none⟩) m cap).ownBlock ≠ some w.heap.size := by
      intro e
      have := (O2.out.lt _ e).1
      have := hlt.out
      omega
    exact ownsRow_setCell_other (ownsRow_setCell_other (Joins.ownsRow_le O2.out LW.out.size) hne _) hne _
end Go.Proofs.YtcchcinnjahghaaDoor
