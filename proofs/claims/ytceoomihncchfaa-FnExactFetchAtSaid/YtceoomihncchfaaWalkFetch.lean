/-
  What spec.FetchAt does: the bytes from an address on that may be run, at most 15, or a code, changing nothing that was there; conditions: those in each head.
-/
import Derived.Test.YtceoomihncchfaaWalkFetchI
import Derived.Test.YtceoomihncchfaaWalkGetS
namespace Go.Proofs.Ytceoomihncchfaa
open Go.RowKit Go.Sort
theorem up_bytes {l : List Pg} (hm : MemOk l) {a perm : Int} {T : List UInt8} {n : Nat} (hl : T.length = n) (h : ∀ (i : Nat) v, T[i]? = some v → ByteAt l 0 (a + i) v) (hb : ∀ i : Nat, i < n → ∃ v, ByteAt l perm (a + i) v) : ∀ (i : Nat) v, T[i]? = some v → ByteAt l perm (a + i) v := by
  intro i v hv
  have hi := (List.getElem?_eq_some_iff.1 hv).1
  obtain ⟨u, hu⟩ := hb i (by omega)
  rw [byte_one hm (h i v hv) (byte0 hu)]
  exact hu
theorem ft_one {l : List Pg} {a perm c : Int} (h : FtOut l a 1 perm c) : (c = 0 ∧ ∃ v, ByteAt l perm a v) ∨ CodeAt l perm a c := by
  rcases h with ⟨h1, h2⟩ | ⟨i, hi, _, hc⟩
  · exact .inl ⟨h1, by simpa using h2 0 (by omega)⟩
  · obtain rfl : i = 0 := by omega
    exact .inr (by simpa using hc)
set_option maxHeartbeats 1000000 in
theorem fetchS0 (p : Option Addr) (cap : Nat) (l : List Pg) (a : Int) (w : World) (hm : MemOk l) (hr : Rd w p l) :
    Calls Try.prog 52 #[.agg #[.slice p l.length cap], .int .i64 a] w fun e w' => ∃ r c, e = .returned (.tuple #[.string r, .int .i64 c]) ∧ Hid (FetchOut l a r c) ∧ Below w.heap.size w w' := by
  obtain ⟨W, hW⟩ : ∃ W, W = w.alloc (.cells #[.slice p l.length cap] 29) := ⟨_, rfl⟩
  have L0 : Hid (Below w.heap.size w W) := Lib.hid (by rw [hW]; exact below1 w _)
  have A0 : Hid (Bx W w.heap.size p cap l) := Lib.hid (by rw [hW]; exact Bx.new _ hr)
  have HW := Lib.hid hW; have HM := Lib.hid hm
  clear hr hm hW
  go_enter Try.func52, Try.ntmps52
  go_wp2_with fail
  rw [← HW.out]
  refine (faultS p cap l a 4 1 W HM.out A0.out.2.2 (by omega) (.inr (.inr rfl))).mono ?_
  rintro e w1 ⟨f, rfl, HFt, b1⟩
  have L1 := Lib.hid (bthen L0.out b1); have A1 := Lib.hid (A0.out.next b1)
  clear b1 L0 A0
  rcases ft_one HFt.out with ⟨rfl, hby⟩ | hco
  · have HBY := Lib.hid hby
    have hab := (by obtain ⟨v, hv⟩ := hby; exact byte_bounds HM.out hv : 0 ≤ a ∧ a ≤ 65790)
    obtain ⟨ha1, ha2⟩ := hab
    clear hby
    go_wp2
    go_loopw [7] (fun i wr => ∃ k : Nat, 1 ≤ k ∧ k ≤ 15 ∧ i = .int .i64 k ∧ Hid (∀ (j : Nat), j < k → ∃ v, ByteAt l 4 (a + j) v) ∧ Hid (Below w.heap.size w wr) ∧ Hid (Bx wr w.heap.size p cap l)) (fun i _ => 15 - (intOf i).toNat)
    case atStart => exact ⟨1, by omega, by omega, rfl, Lib.hid (fun j h => by have e : j = 0 := (by omega); subst e; simpa using HBY.out), L1, A1⟩
    case round =>
      obtain ⟨k, hk0, hk, rfl, HI, HL, HA⟩ := hrel
      have x1 := HA.out.2.1
      have fin (wz : World) (hL : Below w.heap.size w wz) (hA : Bx wz w.heap.size p cap l) (c' : Int) (hc : (k = 15 ∧ c' = 0) ∨ (k < 15 ∧ CodeAt l 4 (a + k) c')) : Calls Try.prog 56 #[.agg #[.slice p l.length cap], .int .i64 a, .int .i64 (k : Int)] wz fun e w' => ∃ T, e = .returned (.string T) ∧ Hid (FetchOut l a T 0) ∧ Below w.heap.size w w' := by
        refine (getBS p cap l a k wz HM.out hA.2.2 (by omega) (fun i hi => by obtain ⟨v, hv⟩ := HI.out i hi; exact ⟨v, byte0 hv⟩)).mono ?_
        rintro e w' ⟨T, rfl, HT, b⟩
        refine ⟨_, rfl, Lib.hid (.inr ⟨HM.out, T, c', ⟨up_bytes HM.out HT.out.1 HT.out.2 HI.out, ?_⟩, .inr ⟨?_, rfl, rfl⟩⟩), bthen hL b⟩
        · rw [HT.out.1]
          rcases hc with ⟨h1, h2⟩ | ⟨h1, h2⟩
          · exact .inl ⟨h2, h1⟩
          · exact .inr ⟨h1, h2⟩
        · intro e; have := HT.out.1; rw [e] at this; simp at this; omega
      have HFIN := Lib.hid fin
      clear fin
      by_cases hlt : k < 15
      · have hlt2 : (k : Int) < 15 := by omega
        have C2 := Lib.hid (faultS p cap l (a + k) 4 1 wr HM.out HA.out.2.2 (by omega) (.inr (.inr rfl)))
        go_wp2_with fail
        refine (C2.out).mono ?_
        rintro e w2 ⟨f, rfl, HF2, b2⟩
        have L2 := Lib.hid (bthen HL.out b2); have A2 := Lib.hid (HA.out.next b2)
        have x2 := A2.out.2.1
        clear b2 x1 C2
        rcases ft_one HF2.out with ⟨rfl, hby⟩ | hco
        · have HB2 := Lib.hid hby
          clear hby
          go_wp2
          go_roundw
          case rel =>
            refine ⟨k + 1, by omega, by omega, by go_num, Lib.hid (fun i hi => ?_), L2, A2⟩
            by_cases e : i = k
            · subst e; exact HB2.out
            · exact HI.out i (by omega)
          case measure => simp [intOf]; omega
        · have hne : (f == 0) = false := by rw [beq_eq_false_iff_ne]; have := code_pos hco; omega
          have HCO := Lib.hid hco
          clear hco
          go_wp2_with fail
          refine (HFIN.out w2 L2.out A2.out f (.inr ⟨hlt, HCO.out⟩)).mono ?_
          rintro e w3 ⟨T, rfl, HT, b3⟩
          go_wp2
          go_ret2
          exact ⟨_, _, rfl, HT, b3⟩
      · have hlt2 : decide ((k : Int) < 15) = false := decide_eq_false (by omega)
        go_wp2_with fail
        refine (HFIN.out wr HL.out HA.out 0 (.inl ⟨by omega, rfl⟩)).mono ?_
        rintro e w3 ⟨T, rfl, HT, b3⟩
        go_wp2
        go_ret2
        exact ⟨_, _, rfl, HT, b3⟩
  · have hne : (f != 0) = true := by rw [bne_iff_ne]; have := code_pos hco; omega
    have HCO := Lib.hid hco
    clear hco
    go_wp2
    go_ret2
    exact ⟨_, _, rfl, Lib.hid (.inr ⟨HM.out, [], f, ⟨fun i v h => by simp at h, .inr ⟨by simp, by simpa using HCO.out⟩⟩, .inl ⟨rfl, rfl, rfl⟩⟩), L1.out⟩
set_option maxHeartbeats 1000000 in
theorem fetchS (p : Option Addr) (cap : Nat) (l : List Pg) (a : Int) (w : World) (hf : Fits l) (hr : Rd w p l) :
    Calls Try.prog 24 #[.agg #[.slice p l.length cap], .int .i64 a] w fun e w' => ∃ r c, e = .returned (.tuple #[.string r, .int .i64 c]) ∧ Hid (FetchOut l a r c) ∧ Below w.heap.size w w' := by
  obtain ⟨W, hW⟩ : ∃ W, W = w.alloc (.cells #[.slice p l.length cap] 29) := ⟨_, rfl⟩
  have L0 : Hid (Below w.heap.size w W) := Lib.hid (by rw [hW]; exact below1 w _)
  have A0 : Hid (Bx W w.heap.size p cap l) := Lib.hid (by rw [hW]; exact Bx.new _ hr)
  have HW := Lib.hid hW; have HF := Lib.hid hf
  clear hr hf hW
  go_enter Try.func24, Try.ntmps24
  go_wp2_with fail
  rw [← HW.out]
  refine (specOk p cap l W HF.out A0.out.2.2).mono ?_
  rintro e w1 ⟨rfl, b1⟩
  have L1 := Lib.hid (bthen L0.out b1); have A1 := Lib.hid (A0.out.next b1)
  have x1 := A1.out.2.1
  clear b1 L0 A0
  by_cases hm : MemOk l
  · have hy := okB_yes hm
    have HM := Lib.hid hm
    clear hm
    go_wp2_with fail
    refine (fetchS0 p cap l a w1 HM.out A1.out.2.2).mono ?_
    rintro e w2 ⟨r, c, rfl, HO, b2⟩
    have L2 := Lib.hid (bthen L1.out b2)
    clear b2
    go_wp2
    go_ret2
    exact ⟨_, _, rfl, HO, L2.out⟩
  · have hn := okB_no hm
    have HM := Lib.hid hm
    clear hm
    go_wp2
    go_ret2
    exact ⟨_, _, rfl, Lib.hid (.inl ⟨HM.out, rfl, rfl⟩), L1.out⟩
end Go.Proofs.Ytceoomihncchfaa
