/-
  What spec.ReadElf and impl.ReadElf answer of any text: the same image and code, in memory of its own; condition (impl): the library's own variable of errors.As holds what Go's text lays there.
-/
import Derived.Test.YtcchcinnjahghaaDoorWalkRb
namespace Go.Proofs.YtcchcinnjahghaaDoor
open Go.RowKit
set_option linter.unusedVariables false
set_option linter.unusedSimpArgs false
/-- what ReadElf answers of t: entry, segments, code -/
def RdW (t : ByteArray) (X : Int) (l : List Sg) (c : Int) : Prop :=
  (65536 < t.size ∧ X = 0 ∧ l = [] ∧ c = 2) ∨ (t.size ≤ 65536 ∧ RcIs t c ∧ X = 0 ∧ l = []) ∨ (t.size ≤ 65536 ∧ c = 0 ∧ hdC t = 0 ∧ ∃ m : Nat, (m : Int) = tkN t 56 2 ∧ RsTo t m ∧ (∃ k, Chk (tkN t 24 8) (lstT t m) k 0) ∧ X = tkN t 24 8 ∧ l = lstT t m)
theorem RdW.one {t : ByteArray} {X Y : Int} {l r : List Sg} {c d : Int} (h : RdW t X l c) (g : RdW t Y r d) : X = Y ∧ l = r ∧ c = d := by
  rcases h with ⟨h0, rfl, rfl, rfl⟩ | ⟨h0, h1, rfl, rfl⟩ | ⟨h0, rfl, h1, m, hm, hr, ⟨k, hk⟩, rfl, rfl⟩
  · rcases g with ⟨g0, rfl, rfl, rfl⟩ | ⟨g0, g1, rfl, rfl⟩ | ⟨g0, rfl, g1, m', gm, gr, ⟨j, gk⟩, rfl, rfl⟩
    · exact ⟨rfl, rfl, rfl⟩
    · omega
    · omega
  · rcases g with ⟨g0, rfl, rfl, rfl⟩ | ⟨g0, g1, rfl, rfl⟩ | ⟨g0, rfl, g1, m', gm, gr, ⟨j, gk⟩, rfl, rfl⟩
    · omega
    · exact ⟨rfl, rfl, rc_one h1 g1⟩
    · exact (rc_not h1 g1 gm gr gk).elim
  · rcases g with ⟨g0, rfl, rfl, rfl⟩ | ⟨g0, g1, rfl, rfl⟩ | ⟨g0, rfl, g1, m', gm, gr, ⟨j, gk⟩, rfl, rfl⟩
    · omega
    · exact (rc_not g1 h1 hm hr hk).elim
    · obtain rfl : m = m' := by omega
      exact ⟨rfl, rfl, rfl⟩
theorem RdW.small {t : ByteArray} {X : Int} {l : List Sg} {c : Int} (h : RdW t X l c) : l.length ≤ 4 ∧ SmallS l := by
  rcases h with ⟨h0, rfl, rfl, rfl⟩ | ⟨h0, h1, rfl, rfl⟩ | ⟨h0, rfl, h1, m, hm, hr, hk, rfl, rfl⟩
  · exact ⟨by simp, by simp [SmallS]⟩
  · exact ⟨by simp, by simp [SmallS]⟩
  · have := (hd_zero h1).2.1
    have h4 : m ≤ 4 := by omega
    exact ⟨by rw [lstT_len]; exact h4, lstT_small t m h4 h0⟩
/-- a call's answer: an image in memory of its own, and a code -/
def RdE (w w' : World) (t : ByteArray) (e : Ending) : Prop :=
  ∃ (X : Int) (l : List Sg) (c : Int) (q : Option Addr) (cap : Nat), RdW t X l c ∧ e = .returned (.tuple #[.agg #[.int .i64 X, .slice q l.length cap], .int .i64 c]) ∧ w'.ownsRow w.heap.size 61 4 (.slice q l.length cap) l.length (SV l)
theorem RdE.of {w w' : World} {t : ByteArray} {e : Ending} (h : ReOut w w' t e) (hm : t.size ≤ 65536) : RdE w w' t e := by
  rcases h with ⟨c, hc, rfl⟩ | ⟨h0, m, hm', hr, hk, g, cap, rfl, own⟩
  · exact ⟨0, [], c, none, 0, .inr (.inl ⟨hm, hc, rfl, rfl⟩), rfl, World.ownsRow_nil _ _ _ _⟩
  · have e := lstT_len t m
    refine ⟨_, lstT t m, 0, some ⟨g, 0, none⟩, cap, .inr (.inr ⟨hm, rfl, h0, m, hm', hr, hk, rfl, rfl⟩), by rw [e], by rw [e]; exact own⟩
set_option maxHeartbeats 1000000 in
theorem rdS (t : ByteArray) (w : World) : Calls Tryd.prog 5 #[.string t] w fun e w' => RdE w w' t e ∧ Below w.heap.size w w' := by
  obtain ⟨W, hW⟩ : ∃ W, W = w.alloc (.cells #[.int .i64 0, .slice none 0 0] 24) := ⟨_, rfl⟩
  have LW : Hid (Below w.heap.size w W) := Lib.hid (by rw [hW]; exact belowA _ _)
  have IW : Hid (BxI W w.heap.size 0 none 0 0) := Lib.hid (by rw [hW]; exact BxI.new _ _ _ _ _ _)
  have HWW := Lib.hid hW
  clear hW
  by_cases hm : t.size ≤ 65536
  · have e0 : decide ((65536 : Int) < (t.size : Int)) = false := decide_eq_false (by omega)
    have C := Lib.hid (readS t W hm)
    have HM := Lib.hid hm
    clear hm
    go_enter Tryd.func5, Tryd.ntmps5
    go_wp2_with fail
    rw [← HWW.out]
    refine (C.out).mono ?_
    rintro e w1 ⟨ho, b1⟩
    obtain ⟨X, l, c, q, cap, hd, rfl, own⟩ := RdE.of ho HM.out
    have HD := Lib.hid hd; have OW := Lib.hid own
    have LX := Lib.hid (bthenS LW.out b1)
    have IX := Lib.hid (IW.out.next b1)
    obtain ⟨j0, j1, j2⟩ := IX.out.1
    have p0 := IX.out.2 0
    have p1 := IX.out.2 1
    have R := Lib.hid (two_res (v0 := .int .i64 X) (v1 := .slice q l.length cap) j1 j2)
    have hlt := Lib.hid IW.out.1.1
    clear ho b1 hd own C
    go_wp2
    obtain ⟨r0, r1⟩ := R.out
    refine bodyPost_ret (v := .tuple #[.agg #[.int .i64 X, .slice q l.length cap], .int .i64 c]) (by simp [results, Tryd.results5, go_sem, r0, r1]) rfl ?_
    have hne : (Value.slice q l.length cap).ownBlock ≠ some w.heap.size := by
      intro e
      have := (OW.out.lt _ e).1
      have := hlt.out
      omega
    exact ⟨⟨X, l, c, q, cap, HD.out, rfl, ownsRow_setCell_other (ownsRow_setCell_other (Joins.ownsRow_le OW.out (by have := hlt.out; omega)) hne _) hne _⟩, (LX.out.setCell (Nat.le_refl _) _).setCell (Nat.le_refl _) _⟩
  · have e0 : decide ((65536 : Int) < (t.size : Int)) = true := decide_eq_true (by omega)
    have HM := Lib.hid hm
    clear hm
    go_enter Tryd.func5, Tryd.ntmps5
    go_wp2_with fail
    rw [← HWW.out]
    obtain ⟨j0, j1, j2⟩ := IW.out.1
    refine bodyPost_ret (v := .tuple #[.agg #[.int .i64 0, .slice none 0 0], .int .i64 2]) (by simp [results, Tryd.results5, go_sem, j1, j2]) rfl ?_
    exact ⟨⟨0, [], 2, none, 0, .inl ⟨by have := HM.out; omega, rfl, rfl, rfl⟩, rfl, World.ownsRow_nil _ _ _ _⟩, LW.out⟩
set_option maxHeartbeats 1000000 in
theorem rdI (t : ByteArray) (w : World) (hg : EtOk w) : Calls Tryd.prog 6 #[.string t] w fun e w' => RdE w w' t e ∧ Below w.heap.size w w' := by
  by_cases hm : t.size ≤ 65536
  · exact (readElfI t w hg hm).mono fun e w' ⟨ho, hb⟩ => ⟨RdE.of ho hm, hb⟩
  · obtain ⟨W, hW⟩ : ∃ W, W = w.alloc (.cells #[.int .i64 0, .slice none 0 0] 24) := ⟨_, rfl⟩
    have LW : Hid (Below w.heap.size w W) := Lib.hid (by rw [hW]; exact belowA _ _)
    have IW : Hid (BxI W w.heap.size 0 none 0 0) := Lib.hid (by rw [hW]; exact BxI.new _ _ _ _ _ _)
    have HWW := Lib.hid hW
    clear hW
    have e0 : decide ((65536 : Int) < (t.size : Int)) = true := decide_eq_true (by omega)
    have HM := Lib.hid hm
    clear hm
    go_enter Tryd.func6, Tryd.ntmps6
    go_wp2_with fail
    rw [← HWW.out]
    obtain ⟨j0, j1, j2⟩ := IW.out.1
    refine bodyPost_ret (v := .tuple #[.agg #[.int .i64 0, .slice none 0 0], .int .i64 2]) (by simp [results, Tryd.results6, go_sem, j1, j2]) rfl ?_
    exact ⟨⟨0, [], 2, none, 0, .inl ⟨by have := HM.out; omega, rfl, rfl, rfl⟩, rfl, World.ownsRow_nil _ _ _ _⟩, LW.out⟩
end Go.Proofs.YtcchcinnjahghaaDoor
