/-
  What impl.GetBytes and spec.GetBytes do: bytes from an address on, whatever their pages allow, or a code, changing nothing that was there; conditions: those in each head.
-/
import Derived.Test.YtceoomihncchfaaWalkGetS
import Derived.Test.YtceoomihncchfaaOpenMem
namespace Go.Proofs.Ytceoomihncchfaa
open Go.RowKit Go.Sort
theorem ft_tk {l : List Pg} {a : Int} {n : Nat} {perm c : Int} (h : FtOut l a n perm c) : ∃ t, TkOut l a n perm t c := by
  rcases h with ⟨rfl, h⟩ | ⟨i, hi, h, hc⟩
  · obtain ⟨t, ht, hq⟩ := list_of (Q := fun i v => ByteAt l perm (a + (i : Int)) v) n h
    exact ⟨t, hq, .inl ⟨rfl, ht⟩⟩
  · obtain ⟨t, ht, hq⟩ := list_of (Q := fun i v => ByteAt l perm (a + (i : Int)) v) i h
    exact ⟨t, hq, .inr ⟨by omega, by rw [ht]; exact hc⟩⟩
set_option maxHeartbeats 1000000 in
theorem hasS (p : Option Addr) (cap : Nat) (l : List Pg) (a : Int) (n : Nat) (w : World) (hm : MemOk l) (hr : Rd w p l) (hn : n ≤ 8192) :
    Calls Try.prog 55 #[.agg #[.slice p l.length cap], .int .i64 a, .int .i64 n] w fun e w' => ((e = .returned (.bool true) ∧ FtOut l a n 0 0) ∨ (e = .returned (.bool false) ∧ FtOut l a n 0 13)) ∧ Below w.heap.size w w' := by
  obtain ⟨W, hW⟩ : ∃ W, W = w.alloc (.cells #[.slice p l.length cap] 29) := ⟨_, rfl⟩
  have L0 : Hid (Below w.heap.size w W) := Lib.hid (by rw [hW]; exact below1 w _)
  have A0 : Hid (Bx W w.heap.size p cap l) := Lib.hid (by rw [hW]; exact Bx.new _ hr)
  have HW := Lib.hid hW; have HM := Lib.hid hm
  clear hr hm hW
  by_cases h0 : n = 0
  · subst h0
    go_enter Try.func55, Try.ntmps55
    go_wp2
    refine wp_loop_rounds 1 ?_
    rw [rounds_succ]
    go_wp2
    go_ret
    exact ⟨.inl ⟨rfl, .inl ⟨rfl, fun i hi => by omega⟩⟩, by rw [← HW.out]; exact L0.out⟩
  · have hn0 : 0 < n := by omega
    have hn1 : (0 : Int) < (n : Int) := by omega
    clear h0
    by_cases hin : 0 ≤ a ∧ a ≤ 65535
    · obtain ⟨i1, i2⟩ := hin
      have C := Lib.hid (fun W => inYes a 0 65535 W i1 i2)
      go_enter Try.func55, Try.ntmps55
      go_wp2_with (go_at_call 54; refine (C.out _).mono ?_; rintro e w' ⟨rfl, rfl⟩)
      rw [← HW.out]
      go_loopw [7] (fun i wr => ∃ k : Nat, k ≤ n ∧ i = .int .i64 k ∧ Hid (∀ (j : Nat), j < k → ∃ v, ByteAt l 0 (a + j) v) ∧ Hid (Below w.heap.size w wr) ∧ Hid (Bx wr w.heap.size p cap l)) (fun i _ => n - (intOf i).toNat)
      case atStart => exact ⟨0, Nat.zero_le _, rfl, Lib.hid (fun j h => by omega), L0, A0⟩
      case round =>
        obtain ⟨k, hk, rfl, HI, HL, HA⟩ := hrel
        have x1 := HA.out.2.1
        by_cases hlt : k < n
        · have hlt2 : (k : Int) < (n : Int) := by omega
          have C2 := Lib.hid (findS p cap l (a + k) wr HM.out HA.out.2.2 (by omega) (by omega))
          go_wp2_with fail
          refine (C2.out).mono ?_
          rintro e w1 ⟨r, rfl, HFd, b1⟩
          have L1 := Lib.hid (bthen HL.out b1); have A1 := Lib.hid (HA.out.next b1)
          clear b1 x1 C2
          rcases HFd.out with ⟨j, x, hh, rfl⟩ | ⟨hno, rfl⟩
          · have HH := Lib.hid hh
            clear hh
            go_wp2
            go_roundw
            case rel =>
              refine ⟨k + 1, by omega, by go_num, Lib.hid (fun i hi => ?_), L1, A1⟩
              by_cases e : i = k
              · subst e; exact has_byte HM.out HH.out (allow0 _)
              · exact HI.out i (by omega)
            case measure => simp [intOf]; omega
          · have HN := Lib.hid hno
            clear hno
            go_wp2
            go_ret
            exact ⟨.inr ⟨rfl, .inr ⟨k, hlt, HI.out, .inr ⟨HN.out, rfl⟩⟩⟩, L1.out⟩
        · obtain rfl : k = n := by omega
          go_wp2
          go_ret
          exact ⟨.inl ⟨rfl, .inl ⟨rfl, HI.out⟩⟩, HL.out⟩
    · have C := Lib.hid (fun W => inNo a 0 65535 W (by omega))
      have HIN := Lib.hid hin
      clear hin
      go_enter Try.func55, Try.ntmps55
      go_wp2_with (go_at_call 54; refine (C.out _).mono ?_; rintro e w' ⟨rfl, rfl⟩)
      go_ret
      refine ⟨.inr ⟨rfl, .inr ⟨0, hn0, fun j hj => by omega, .inr ⟨fun k x hh => ?_, rfl⟩⟩⟩, by rw [← HW.out]; exact L0.out⟩
      have h1 := has_bounds HM.out hh
      have h3 := HIN.out
      omega
/-- what both GetBytes answer -/
def GetOut (l : List Pg) (a n : Int) (r : ByteArray) (c : Int) : Prop :=
  (¬ MemOk l ∧ r = ⟨#[]⟩ ∧ c = 1) ∨ (MemOk l ∧ ¬ (0 ≤ n ∧ n ≤ 8192) ∧ r = ⟨#[]⟩ ∧ c = 4) ∨ (MemOk l ∧ (0 ≤ n ∧ n ≤ 8192) ∧ ∃ t c', TkOut l a n.toNat 0 t c' ∧ ((c' = 0 ∧ r = ⟨t.toArray⟩ ∧ c = 0) ∨ (c' ≠ 0 ∧ r = ⟨#[]⟩ ∧ c = c')))
theorem GetOut.one {l : List Pg} {a n : Int} {r r' : ByteArray} {c c' : Int} (h : GetOut l a n r c) (h' : GetOut l a n r' c') : r = r' ∧ c = c' := by
  rcases h with ⟨h1, rfl, rfl⟩ | ⟨h1, h2, rfl, rfl⟩ | ⟨h1, h2, t, k, ht, h3⟩ <;> rcases h' with ⟨g1, rfl, rfl⟩ | ⟨g1, g2, rfl, rfl⟩ | ⟨g1, g2, t', k', ht', g3⟩ <;> first | exact ⟨rfl, rfl⟩ | exact absurd h1 g1 | exact absurd g1 h1 | exact absurd h2 g2 | exact absurd g2 h2 | skip
  obtain ⟨rfl, rfl⟩ := TkOut.one h1 ht ht'
  rcases h3 with ⟨e1, rfl, rfl⟩ | ⟨e1, rfl, rfl⟩ <;> rcases g3 with ⟨f1, rfl, rfl⟩ | ⟨f1, rfl, rfl⟩ <;> first | exact ⟨rfl, rfl⟩ | exact absurd e1 f1 | exact absurd f1 e1
set_option maxHeartbeats 1000000 in
theorem getS (p : Option Addr) (cap : Nat) (l : List Pg) (a n : Int) (w : World) (hf : Fits l) (hr : Rd w p l) :
    Calls Try.prog 26 #[.agg #[.slice p l.length cap], .int .i64 a, .int .i64 n] w fun e w' => ∃ r c, e = .returned (.tuple #[.string r, .int .i64 c]) ∧ Hid (GetOut l a n r c) ∧ Below w.heap.size w w' := by
  obtain ⟨W, hW⟩ : ∃ W, W = w.alloc (.cells #[.slice p l.length cap] 29) := ⟨_, rfl⟩
  have L0 : Hid (Below w.heap.size w W) := Lib.hid (by rw [hW]; exact below1 w _)
  have A0 : Hid (Bx W w.heap.size p cap l) := Lib.hid (by rw [hW]; exact Bx.new _ hr)
  have HW := Lib.hid hW; have HF := Lib.hid hf
  clear hr hf hW
  go_enter Try.func26, Try.ntmps26
  go_wp2_with fail
  rw [← HW.out]
  refine (specOk p cap l W HF.out A0.out.2.2).mono ?_
  rintro e w1 ⟨rfl, b1⟩
  have L1 := Lib.hid (bthen L0.out b1); have A1 := Lib.hid (A0.out.next b1)
  have x1 := A1.out.2.1
  clear b1 L0 A0
  by_cases hm : MemOk l
  · have hy := okB_yes hm
    have HM := Lib.hid hm
    clear hm
    by_cases hn : 0 ≤ n ∧ n ≤ 8192
    · obtain ⟨m, rfl⟩ : ∃ m : Nat, n = (m : Int) := ⟨n.toNat, by omega⟩
      have hm8 : m ≤ 8192 := by omega
      have C := Lib.hid (fun W => inYes (m : Int) 0 8192 W hn.1 hn.2)
      have HN := Lib.hid hn
      clear hn
      go_wp2_with (go_at_call 54; refine (C.out _).mono ?_; rintro e wz ⟨rfl, rfl⟩)
      refine (hasS p cap l a m _ HM.out A1.out.2.2 hm8).mono ?_
      rintro e w2 ⟨ho, b2⟩
      have L2 := Lib.hid (bthen L1.out b2); have A2 := Lib.hid (A1.out.next b2)
      have x2 := A2.out.2.1
      clear b2 x1 L1 A1 C
      rcases ho with ⟨rfl, hft⟩ | ⟨rfl, hft⟩
      · have hall : ∀ i : Nat, i < m → ∃ v, ByteAt l 0 (a + i) v := by
          rcases hft with ⟨_, h⟩ | ⟨i, _, _, hc⟩
          · exact h
          · have := code_pos hc; omega
        have HA := Lib.hid hall
        clear hall hft
        go_wp2_with fail
        refine (getBS p cap l a m w2 HM.out A2.out.2.2 hm8 HA.out).mono ?_
        rintro e w3 ⟨T, rfl, HT, b3⟩
        have L3 := Lib.hid (bthen L2.out b3)
        clear b3
        go_wp2
        go_ret2
        exact ⟨_, _, rfl, Lib.hid (.inr (.inr ⟨HM.out, HN.out, T, 0, ⟨HT.out.2, .inl ⟨rfl, by rw [HT.out.1]; rfl⟩⟩, .inl ⟨rfl, rfl, rfl⟩⟩)), L3.out⟩
      · obtain ⟨t, ht⟩ := ft_tk hft
        have HT := Lib.hid ht
        clear ht hft
        go_wp2
        go_ret2
        exact ⟨_, _, rfl, Lib.hid (.inr (.inr ⟨HM.out, HN.out, t, 13, HT.out, .inr ⟨by decide, rfl, rfl⟩⟩)), L2.out⟩
    · have C := Lib.hid (fun W => inNo n 0 8192 W (by omega))
      have HN := Lib.hid hn
      clear hn
      go_wp2_with (go_at_call 54; refine (C.out _).mono ?_; rintro e wz ⟨rfl, rfl⟩)
      go_ret2
      exact ⟨_, _, rfl, Lib.hid (.inr (.inl ⟨HM.out, HN.out, rfl, rfl⟩)), L1.out⟩
  · have hn := okB_no hm
    have HM := Lib.hid hm
    clear hm
    go_wp2
    go_ret2
    exact ⟨_, _, rfl, Lib.hid (.inl ⟨HM.out, rfl, rfl⟩), L1.out⟩
theorem ba_self (T : ByteArray) : T = ⟨T.data.toList.toArray⟩ := by cases T; rfl
set_option maxHeartbeats 1000000 in
theorem getI (p : Option Addr) (cap : Nat) (l : List Pg) (a n : Int) (w : World) (hp : Ad p) (hs : Small l) (hr : Rd w p l) (h1 : -9223372036854775808 ≤ a) (h2 : a ≤ 9223372036854775807) :
    Calls Try.prog 27 #[.agg #[.slice p l.length cap], .int .i64 a, .int .i64 n] w fun e w' => ∃ r c, e = .returned (.tuple #[.string r, .int .i64 c]) ∧ Hid (GetOut l a n r c) ∧ Below w.heap.size w w' := by
  have hb0 := below1 w (.cells #[.slice p l.length cap] 29)
  have C := Lib.hid (openAll p cap l _ hp hs (hr.below hb0))
  clear hr hs hp
  go_enter Try.func27, Try.ntmps27
  go_wp2_with fail
  refine (C.out).mono ?_
  rintro e w1 ⟨ho, hb1⟩
  have L1 := Lib.hid (bthen hb0 hb1)
  clear hb0 hb1 C
  rcases ho with ⟨hn, q, m, c, rfl⟩ | ⟨hy, q, c, g, rfl, htab⟩
  · have HM := Lib.hid hn
    clear hn
    go_wp2
    go_ret2
    exact ⟨_, _, rfl, Lib.hid (.inl ⟨HM.out, rfl, rfl⟩), bbox L1.out _⟩
  · obtain ⟨V, hV⟩ : ∃ V, V = w1.alloc (.cells #[.slice q l.length c] 55) := ⟨_, rfl⟩
    have L2 : Hid (Below w.heap.size w V) := Lib.hid (by rw [hV]; exact bbox L1.out _)
    have hB : V.cell? ⟨w1.heap.size, 0, none⟩ = some (.slice q l.length c) := by rw [hV]; exact cell_of_one (heap_alloc_new w1 _)
    have hB0 : w1.heap.size < V.heap.size := by rw [hV]; simp
    have hT : Tab V q g l := by rw [hV]; exact htab.tab.below (below1 _ _)
    have HT := Lib.hid hT; have HV := Lib.hid hV; have HM := Lib.hid hy; have HB := Lib.hid hB
    clear hT hV hy htab L1 hB
    by_cases hn : 0 ≤ n ∧ n ≤ 8192
    · obtain ⟨m, rfl⟩ : ∃ m : Nat, n = (m : Int) := ⟨n.toNat, by omega⟩
      have hm8 : m ≤ 8192 := by omega
      have d1 : decide ((8192 : Int) < (m : Int)) = false := decide_eq_false (by omega)
      have HN := Lib.hid hn
      clear hn
      go_wp2_with fail
      rw [← HV.out]
      refine (takeC w1.heap.size c g q l a 0 m V HM.out HB.out hB0 HT.out h1 h2 hm8).mono ?_
      rintro e w2 ⟨T, k, rfl, HTk, b2⟩
      have L3 := Lib.hid (bthen L2.out b2)
      clear b2
      by_cases hk : k = 0
      · subst hk
        go_wp2
        go_ret2
        exact ⟨_, _, rfl, Lib.hid (.inr (.inr ⟨HM.out, HN.out, _, _, HTk.out, .inl ⟨rfl, ba_self T, rfl⟩⟩)), L3.out⟩
      · have d2 : (k != 0) = true := by rw [bne_iff_ne]; exact hk
        have HK := Lib.hid hk
        clear hk
        go_wp2
        go_ret2
        exact ⟨_, _, rfl, Lib.hid (.inr (.inr ⟨HM.out, HN.out, _, _, HTk.out, .inr ⟨HK.out, rfl, rfl⟩⟩)), L3.out⟩
    · have HN := Lib.hid hn
      by_cases hneg : n < 0
      · clear hn
        go_wp2
        go_ret2
        exact ⟨_, _, rfl, Lib.hid (.inr (.inl ⟨HM.out, HN.out, rfl, rfl⟩)), by rw [← HV.out]; exact L2.out⟩
      · have d1 : 8192 < n := by omega
        have d2 : 0 ≤ n := by omega
        clear hn hneg
        go_wp2
        go_ret2
        exact ⟨_, _, rfl, Lib.hid (.inr (.inl ⟨HM.out, HN.out, rfl, rfl⟩)), by rw [← HV.out]; exact L2.out⟩
end Go.Proofs.Ytceoomihncchfaa
