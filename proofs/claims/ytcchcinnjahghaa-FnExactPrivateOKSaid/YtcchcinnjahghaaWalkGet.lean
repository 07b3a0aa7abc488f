/-
  What impl.GetBytes and spec.GetBytes do: bytes from an address on, whatever their pages allow, or a code, changing nothing that was there; conditions: those in each head.
-/
import Derived.Test.YtcchcinnjahghaaWalkGetS
import Derived.Test.YtcchcinnjahghaaOpenMem
namespace Go.Proofs.Ytcchcinnjahghaa
open Go.RowKit Go.Sort
theorem ft_tk {l : List Pg} {a : Int} {n : Nat} {perm c : Int} (h : FtOut l a n perm c) : ∃ t, TkOut l a n perm t c := by
  rcases h with ⟨rfl, h⟩ | ⟨i, hi, h, hc⟩
  · obtain ⟨t, ht, hq⟩ := list_of (Q := fun i v => ByteAt l perm (a + (i : Int)) v) n h
    exact ⟨t, hq, .inl ⟨rfl, ht⟩⟩
  · obtain ⟨t, ht, hq⟩ := list_of (Q := fun i v => ByteAt l perm (a + (i : Int)) v) i h
    exact ⟨t, hq, .inr ⟨by omega, by rw [ht]; exact hc⟩⟩
set_option maxHeartbeats 1000000 in
theorem hasS (p : Option Addr) (cap : Nat) (l : List Pg) (a : Int) (n : Nat) (w : World) (hm : MemOk l) (hr : Rd w p l) (hn : n ≤ 8192) :
    Calls Try.prog 25 #[.agg #[.slice p l.length cap], .int .i64 a, .int .i64 n] w fun e w' => ((e = .returned (.bool true) ∧ FtOut l a n 0 0) ∨ (e = .returned (.bool false) ∧ FtOut l a n 0 13)) ∧ Below w.heap.size w w' := by
  obtain ⟨W, hW⟩ : ∃ W, W = w.alloc (.cells #[.slice p l.length cap] 32) := ⟨_, rfl⟩
  have L0 : Hid (Below w.heap.size w W) := Lib.hid (by rw [hW]; exact below1 w _)
  have A0 : Hid (Bx W w.heap.size p cap l) := Lib.hid (by rw [hW]; exact Bx.new _ hr)
  have HW := Lib.hid hW; have HM := Lib.hid hm
  clear hr hm hW
  by_cases h0 : n = 0
  · subst h0
    go_enter Try.func25, Try.ntmps25
    go_wp2
    refine wp_loop_rounds 1 ?_
    rw [rounds_succ]
    go_wp2
    go_ret
    exact ⟨.inl ⟨rfl, .inl ⟨rfl, fun i hi => by omega⟩⟩, by rw [← HW.out]; exact L0.out⟩
  · have hn0 : 0 < n := by omega
    have hn1 : (0 : Int) < (n : Int) := by omega
    clear h0
    by_cases hin : 0 ≤ a ∧ a ≤ 65535
    · obtain ⟨i1, i2⟩ := hin
      have C := Lib.hid (fun W => inYes a 0 65535 W i1 i2)
      go_enter Try.func25, Try.ntmps25
      go_wp2_with (go_at_call 12; refine (C.out _).mono ?_; rintro e w' ⟨rfl, rfl⟩)
      rw [← HW.out]
      go_loopw [7] (fun i wr => ∃ k : Nat, k ≤ n ∧ i = .int .i64 k ∧ Hid (∀ (j : Nat), j < k → ∃ v, ByteAt l 0 (a + j) v) ∧ Hid (Below w.heap.size w wr) ∧ Hid (Bx wr w.heap.size p cap l)) (fun i _ => n - (intOf i).toNat)
      case atStart => exact ⟨0, Nat.zero_le _, rfl, Lib.hid (fun j h => by omega), L0, A0⟩
      case round =>
        obtain ⟨k, hk, rfl, HI, HL, HA⟩ := hrel
        have x1 := HA.out.2.1
        by_cases hlt : k < n
        · have hlt2 : (k : Int) < (n : Int) := by omega
          have C2 := Lib.hid (findS p cap l (a + k) wr HM.out HA.out.2.2 (by omega) (by omega))
          go_wp2_with fail
          refine (C2.out).mono ?_
          rintro e w1 ⟨r, rfl, HFd, b1⟩
          have L1 := Lib.hid (bthen HL.out b1); have A1 := Lib.hid (HA.out.next b1)
          clear b1 x1 C2
          rcases HFd.out with ⟨j, x, hh, rfl⟩ | ⟨hno, rfl⟩
          · have HH := Lib.hid hh
            clear hh
            go_wp2
            go_roundw
            case rel =>
              refine ⟨k + 1, by omega, by go_num, Lib.hid (fun i hi => ?_), L1, A1⟩
              by_cases e : i = k
              · subst e; exact has_byte HM.out HH.out (allow0 _)
              · exact HI.out i (by omega)
            case measure => simp [intOf]; omega
          · have HN := Lib.hid hno
            clear hno
            go_wp2
            go_ret
            exact ⟨.inr ⟨rfl, .inr ⟨k, hlt, HI.out, .inr ⟨HN.out, rfl⟩⟩⟩, L1.out⟩
        · obtain rfl : k = n := by omega
          go_wp2
          go_ret
          exact ⟨.inl ⟨rfl, .inl ⟨rfl, HI.out⟩⟩, HL.out⟩
    · have C := Lib.hid (fun W => inNo a 0 65535 W (by omega))
      have HIN := Lib.hid hin
      clear hin
      go_enter Try.func25, Try.ntmps25
      go_wp2_with (go_at_call 12; refine (C.out _).mono ?_; rintro e w' ⟨rfl, rfl⟩)
      go_ret
      refine ⟨.inr ⟨rfl, .inr ⟨0, hn0, fun j hj => by omega, .inr ⟨fun k x hh => ?_, rfl⟩⟩⟩, by rw [← HW.out]; exact L0.out⟩
      have h1 := has_bounds HM.out hh
      have h3 := HIN.out
      omega
/-- what both GetBytes answer -/
def GetOut (l : List Pg) (a n : Int) (r : ByteArray) (c : Int) : Prop :=
  (¬ MemOk l ∧ r = ⟨#[]⟩ ∧ c = 1) ∨ (MemOk l ∧ ¬ (0 ≤ n ∧ n ≤ 8192) ∧ r = ⟨#[]⟩ ∧ c = 4) ∨ (MemOk l ∧ (0 ≤ n ∧ n ≤ 8192) ∧ ∃ t c', TkOut l a n.toNat 0 t c' ∧ ((c' = 0 ∧ r = ⟨t.toArray⟩ ∧ c = 0) ∨ (c' ≠ 0 ∧ r = ⟨#[]⟩ ∧ c = c')))
theorem GetOut.one {l : List Pg} {a n : Int} {r r' : ByteArray} {c c' : Int} (h : GetOut l a n r c) (h' : GetOut l a n r' c') : r = r' ∧ c = c' := by
  rcases h with ⟨h1, rfl, rfl⟩ | ⟨h1, h2, rfl, rfl⟩ | ⟨h1, h2, t, k, ht, h3⟩ <;> rcases h' with ⟨g1, rfl, rfl⟩ | ⟨g1, g2, rfl, rfl⟩ | ⟨g1, g2, t', k', ht', g3⟩ <;> first | exact ⟨rfl, rfl⟩ | exact absurd h1 g1 | exact absurd g1 h1 | exact absurd h2 g2 | exact absurd g2 h2 | skip
  obtain ⟨rfl, rfl⟩ := TkOut.one h1 ht ht'
  rcases h3 with ⟨e1, rfl, rfl⟩ | ⟨e1, rfl, rfl⟩ <;> rcases g3 with ⟨f1, rfl, rfl⟩ | ⟨f1, rfl, rfl⟩ <;> first | exact ⟨rfl, rfl⟩ | exact absurd e1 f1 | exact absurd f1 e1
theorem ba_self (T : ByteArray) : T = ⟨T.data.toList.toArray⟩ := by cases T; rfl
end Go.Proofs.Ytcchcinnjahghaa
