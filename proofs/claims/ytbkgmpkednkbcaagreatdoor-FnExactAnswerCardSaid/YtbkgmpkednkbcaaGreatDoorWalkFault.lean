/-
  What spec.l02Fault and spec.l02Get do: why bytes may not be had, and bytes that may, changing nothing that was there; conditions: those in each head.
-/
import Derived.Test.YtbkgmpkednkbcaaGreatDoorWalkTakeP
namespace Go.Proofs.YtbkgmpkednkbcaaGreatDoor
open Go.RowKit Go.Sort
theorem has_bounds {l : List Pg} (hm : MemOk l) {a : Int} {k : Nat} {x : Pg} (h : Has l a k x) : 0 ≤ a ∧ a ≤ 65535 := by
  have h1 := hm.2.1 k x h.1
  have h2 := h.2
  unfold PgOk at h1
  omega
theorem perm_bit {p perm : Int} (h0 : 0 ≤ p) (h7 : p ≤ 7) (hp : perm = 1 ∨ perm = 2 ∨ perm = 4) : (bits .and .i64 p perm == 0) = !allowB p perm := by
  rcases (show p = 0 ∨ p = 1 ∨ p = 2 ∨ p = 3 ∨ p = 4 ∨ p = 5 ∨ p = 6 ∨ p = 7 by omega) with h | h | h | h | h | h | h | h <;> rcases hp with e | e | e <;> subst h <;> subst e <;> decide
/-- what l02Fault answers -/
def FtOut (l : List Pg) (a : Int) (n : Nat) (perm c : Int) : Prop :=
  (c = 0 ∧ ∀ (i : Nat), i < n → ∃ v, ByteAt l perm (a + i) v) ∨ (∃ i : Nat, i < n ∧ (∀ (j : Nat), j < i → ∃ v, ByteAt l perm (a + j) v) ∧ CodeAt l perm (a + i) c)
theorem has_byte {l : List Pg} (hm : MemOk l) {a perm : Int} {k : Nat} {x : Pg} (h : Has l a k x) (hal : allowB x.p perm = true) : ∃ v, ByteAt l perm a v := by
  have hs := (hm.2.1 k x h.1).2.2.2.2.2
  have h2 := h.2
  have hlt : (a - x.b).toNat < x.d.data.toList.length := by rw [ba_len, hs]; omega
  exact ⟨_, k, x, h, hal, List.getElem?_eq_getElem hlt⟩
theorem tk_fault {l : List Pg} (hm : MemOk l) {a : Int} {n : Nat} {perm : Int} {t : List UInt8} {c c' : Int} (h : TkOut l a n perm t c) (h' : FtOut l a n perm c') : c = c' := by
  rcases h' with ⟨rfl, hall⟩ | ⟨i, hi, hb, hc⟩
  · rcases h.2 with ⟨e, _⟩ | ⟨hlt, hcode⟩
    · exact e
    · obtain ⟨v, hv⟩ := hall _ hlt
      exact (byte_code hm hv hcode).elim
  · rcases h.2 with ⟨rfl, hl⟩ | ⟨hlt, hcode⟩
    · exact (byte_code hm (h.1 i _ (List.getElem?_eq_getElem (by omega))) hc).elim
    · rcases Nat.lt_trichotomy t.length i with g | g | g
      · obtain ⟨v, hv⟩ := hb _ g
        exact (byte_code hm hv hcode).elim
      · rw [← g] at hc; exact code_one hcode hc
      · exact (byte_code hm (h.1 i _ (List.getElem?_eq_getElem g)) hc).elim
theorem findHas (p : Option Addr) (cap : Nat) (l : List Pg) (a : Int) (k : Nat) (x : Pg) (w : World) (hm : MemOk l) (hr : Rd w p l) (hh : Has l a k x) :
    Calls Tryz.prog 62 #[.agg #[.slice p l.length cap], .int .i64 a] w fun e w' => e = .returned (.int .i64 (k : Int)) ∧ Below w.heap.size w w' := by
  have hb := has_bounds hm hh
  refine (findS p cap l a w hm hr (by omega) (by omega)).mono ?_
  rintro e w' ⟨r, rfl, hf, b⟩
  rcases hf.out with ⟨k', x', hh', rfl⟩ | ⟨hno, _⟩
  · obtain ⟨rfl, _⟩ := Has.one hm hh hh'
    exact ⟨rfl, b⟩
  · exact absurd hh (hno k x)
set_option maxHeartbeats 1000000 in
theorem faultS (p : Option Addr) (cap : Nat) (l : List Pg) (a perm : Int) (n : Nat) (w : World) (hm : MemOk l) (hr : Rd w p l) (hn : n ≤ 8192) (hp : perm = 1 ∨ perm = 2 ∨ perm = 4) :
    Calls Tryz.prog 80 #[.agg #[.slice p l.length cap], .int .i64 a, .int .i64 n, .int .i64 perm] w fun e w' => ∃ c, e = .returned (.int .i64 c) ∧ Hid (FtOut l a n perm c) ∧ Below w.heap.size w w' := by
  obtain ⟨W, hW⟩ : ∃ W, W = w.alloc (.cells #[.slice p l.length cap] 34) := ⟨_, rfl⟩
  have L0 : Hid (Below w.heap.size w W) := Lib.hid (by rw [hW]; exact below1 w _)
  have A0 : Hid (Bx W w.heap.size p cap l) := Lib.hid (by rw [hW]; exact Bx.new _ hr)
  have HW := Lib.hid hW; have HM := Lib.hid hm; have HP := Lib.hid hp
  clear hr hm hW hp
  go_enter Tryz.func80, Tryz.ntmps80
  go_wp2
  rw [← HW.out]
  go_loopw [9] (fun i wr => ∃ k : Nat, k ≤ n ∧ i = .int .i64 k ∧ Hid (∀ (j : Nat), j < k → ∃ v, ByteAt l perm (a + j) v) ∧ Hid (Below w.heap.size w wr) ∧ Hid (Bx wr w.heap.size p cap l)) (fun i _ => n - (intOf i).toNat)
  case atStart => exact ⟨0, Nat.zero_le _, rfl, Lib.hid (fun j h => by omega), L0, A0⟩
  case round =>
    obtain ⟨k, hk, rfl, HI, HL, HA⟩ := hrel
    have x1 := HA.out.2.1
    by_cases hlt : k < n
    · have hlt2 : (k : Int) < (n : Int) := by omega
      by_cases hin : -(n : Int) ≤ a ∧ a ≤ 65535
      · obtain ⟨i1, i2⟩ := hin
        have C := Lib.hid (inYes a (-(n : Int)) 65535 wr i1 i2)
        have C2 := Lib.hid (findS p cap l (a + k) wr HM.out HA.out.2.2 (by omega) (by omega))
        go_wp2_with fail
        refine (C.out).mono ?_
        rintro e wz ⟨rfl, rfl⟩
        go_wp2_with fail
        refine (C2.out).mono ?_
        rintro e w1 ⟨r, rfl, HFd, b1⟩
        have L1 := Lib.hid (bthen HL.out b1); have A1 := Lib.hid (HA.out.next b1)
        have x2 := A1.out.2.1
        clear b1 x1 C C2
        rcases HFd.out with ⟨j, x, hh, rfl⟩ | ⟨hno, rfl⟩
        · have hjl : j < l.length := (List.getElem?_eq_some_iff.1 hh.1).1
          have hl := HM.out.1
          obtain ⟨b, off, rfl, q0, a0, a1, a2⟩ := A1.out.2.2 j x hh.1
          have hok := HM.out.2.1 j x hh.1
          have hpb := perm_bit hok.2.2.2.1 hok.2.2.2.2.1 HP.out
          have HH := Lib.hid hh
          clear hh q0 a0 a2 hok
          cases hal : allowB x.p perm with
          | true =>
            rw [hal] at hpb
            simp only [Bool.not_true] at hpb
            have HAL := Lib.hid hal
            clear hal
            go_wp2
            go_roundw
            case rel =>
              refine ⟨k + 1, by omega, by go_num, Lib.hid (fun i hi => ?_), L1, A1⟩
              by_cases e : i = k
              · subst e; exact has_byte HM.out HH.out HAL.out
              · exact HI.out i (by omega)
            case measure => simp [intOf]; omega
          | false =>
            rw [hal] at hpb
            simp only [Bool.not_false] at hpb
            have HAL := Lib.hid hal
            clear hal
            go_wp2
            go_ret
            exact ⟨_, rfl, Lib.hid (.inr ⟨k, hlt, HI.out, .inl ⟨j, x, HH.out, HAL.out, rfl⟩⟩), L1.out⟩
        · have HN := Lib.hid hno
          clear hno
          go_wp2
          go_ret
          exact ⟨_, rfl, Lib.hid (.inr ⟨k, hlt, HI.out, .inr ⟨HN.out, rfl⟩⟩), L1.out⟩
      · have C := Lib.hid (inNo a (-(n : Int)) 65535 wr (by omega))
        have hk0 : k = 0 := by
          by_cases h0 : k = 0
          · exact h0
          · obtain ⟨v, hv⟩ := HI.out 0 (by omega)
            obtain ⟨j, x, hh, _⟩ := hv
            have := has_bounds HM.out hh
            omega
        have HK := Lib.hid hk0; have HIN := Lib.hid hin
        clear hk0 hin
        go_wp2_with fail
        refine (C.out).mono ?_
        rintro e wz ⟨rfl, rfl⟩
        clear C
        go_wp2
        go_ret
        refine ⟨_, rfl, Lib.hid (.inr ⟨k, hlt, HI.out, .inr ⟨fun j x hh => ?_, rfl⟩⟩), HL.out⟩
        have h1 := has_bounds HM.out hh
        have h2 := HK.out
        have h3 := HIN.out
        omega
    · obtain rfl : k = n := by omega
      go_wp2
      go_ret
      exact ⟨_, rfl, Lib.hid (.inl ⟨rfl, HI.out⟩), HL.out⟩
end Go.Proofs.YtbkgmpkednkbcaaGreatDoor
