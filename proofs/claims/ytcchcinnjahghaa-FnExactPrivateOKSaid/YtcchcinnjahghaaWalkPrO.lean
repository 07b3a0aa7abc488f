/-
  What impl.PrivateOK and spec.PrivateOK answer: whether both private pages are there and hold what they held; conditions: those in each head.
-/
import Derived.Test.YtcchcinnjahghaaWalkPrv
import Derived.Test.YtcchcinnjahghaaWalkGet
namespace Go.Proofs.Ytcchcinnjahghaa
open Go.RowKit Go.Sort
set_option linter.unusedVariables false
set_option linter.unusedSimpArgs false
/-- a page with base a that holds a private page's bytes -/
def Prv (l : List Pg) (a : Int) : Prop := ∃ (k : Nat) (x : Pg), l[k]? = some x ∧ x.b = a ∧ x.d = prvT
/-- what PrivateOK answers -/
def PvIs (l : List Pg) (b : Bool) (c : Int) : Prop := (¬ MemOk l ∧ b = false ∧ c = 1) ∨ (MemOk l ∧ c = 0 ∧ (b = true ↔ Prv l 4096 ∧ Prv l 32768))
theorem PvIs.one {l : List Pg} {b d : Bool} {c e : Int} (h : PvIs l b c) (g : PvIs l d e) : b = d ∧ c = e := by
  rcases h with ⟨h1, rfl, rfl⟩ | ⟨h1, rfl, hb⟩
  · rcases g with ⟨_, rfl, rfl⟩ | ⟨g1, _⟩
    · exact ⟨rfl, rfl⟩
    · exact absurd g1 h1
  · rcases g with ⟨g1, _⟩ | ⟨_, rfl, gb⟩
    · exact absurd h1 g1
    · refine ⟨?_, rfl⟩
      have := hb.trans gb.symm
      cases b <;> cases d <;> simp_all
theorem byt_eqP (a b : ByteArray) : (a.toList == b.toList) = true ↔ a = b := by
  rw [beq_iff_eq, ByteArray.toList_eq, ByteArray.toList_eq]
  refine ⟨fun h => ?_, fun h => by rw [h]⟩
  apply ByteArray.ext
  exact Array.ext' h
theorem page_one {l : List Pg} (hm : MemOk l) {k j : Nat} {x y : Pg} (hk : l[k]? = some x) (hj : l[j]? = some y) (e : x.b = y.b) : x = y :=
  (Has.one hm (a := x.b) ⟨hk, by omega, by omega⟩ ⟨hj, by omega, by omega⟩).2
theorem prv_iff {l : List Pg} (hm : MemOk l) {k : Nat} {x : Pg} (hk : l[k]? = some x) : Prv l x.b ↔ x.d = prvT := by
  constructor
  · rintro ⟨j, y, hj, e, h⟩
    rw [page_one hm hk hj e.symm]; exact h
  · intro h; exact ⟨k, x, hk, rfl, h⟩
theorem prv_no {l : List Pg} {a : Int} (h : ∀ (k : Nat) x, l[k]? = some x → x.b ≠ a) : ¬ Prv l a := by
  rintro ⟨k, x, hk, e, _⟩; exact h k x hk e
theorem ft_page {l : List Pg} (hm : MemOk l) {a : Int} (ha : a % 256 = 0) (h : FtOut l a 256 0 0) : ∃ (k : Nat) (x : Pg), l[k]? = some x ∧ x.b = a := by
  have h0 : ∃ v, ByteAt l 0 (a + (0 : Nat)) v := by
    rcases h with ⟨_, h⟩ | ⟨i, _, _, hc⟩
    · exact h 0 (by omega)
    · have := code_pos hc; omega
  obtain ⟨v, k, x, ⟨hk, h1, h2⟩, _⟩ := h0
  have := hm.2.1 k x hk
  exact ⟨k, x, hk, by have := this.2.2.1; omega⟩
theorem ft_none {l : List Pg} (hm : MemOk l) {a : Int} (h : FtOut l a 256 0 13) : ∀ (k : Nat) x, l[k]? = some x → x.b ≠ a := by
  intro k x hk e
  rcases h with ⟨h, _⟩ | ⟨i, hi, _, hc⟩
  · cases h
  · rcases hc with ⟨j, y, _, _, h⟩ | ⟨hn, _⟩
    · cases h
    · exact hn k x ⟨hk, by omega, by omega⟩
theorem page_text {l : List Pg} (hm : MemOk l) {k : Nat} {x : Pg} (hk : l[k]? = some x) {T : List UInt8} (hl : T.length = 256) (h : ∀ (i : Nat) v, T[i]? = some v → ByteAt l 0 (x.b + i) v) : (⟨T.toArray⟩ : ByteArray) = x.d := by
  have hs := (hm.2.1 k x hk).2.2.2.2.2
  have hd : x.d.data.toList.length = 256 := hs
  have e : T = x.d.data.toList := by
    apply List.ext_getElem?
    intro i
    by_cases hi : i < 256
    · have hv : T[i]? = some (T[i]'(by omega)) := List.getElem?_eq_getElem (by omega)
      obtain ⟨j, y, hh, _, hb⟩ := h i _ hv
      obtain ⟨rfl, rfl⟩ := Has.one hm hh ⟨hk, by omega, by omega⟩
      rw [hv, ← hb]
      congr 1
      omega
    · rw [List.getElem?_eq_none (by omega), List.getElem?_eq_none (by omega)]
  rw [e]
set_option maxHeartbeats 2000000 in
theorem keptS (p : Option Addr) (cap : Nat) (l : List Pg) (w : World) (hm : MemOk l) (hr : Rd w p l) :
    Calls Try.prog 16 #[.agg #[.slice p l.length cap]] w fun e w' => (∃ b : Bool, e = .returned (.bool b) ∧ (b = true ↔ Prv l 4096 ∧ Prv l 32768)) ∧ Below w.heap.size w w' := by
  obtain ⟨W, hW⟩ : ∃ W, W = w.alloc (.cells #[.slice p l.length cap] 32) := ⟨_, rfl⟩
  have L0 : Hid (Below w.heap.size w W) := Lib.hid (by rw [hW]; exact below1 w _)
  have A0 : Hid (Bx W w.heap.size p cap l) := Lib.hid (by rw [hW]; exact Bx.new _ hr)
  have HW := Lib.hid hW; have HM := Lib.hid hm
  clear hr hm hW
  go_enter Try.func16, Try.ntmps16
  go_wp2_with fail
  rw [← HW.out]
  refine (hasS p cap l 4096 256 W HM.out A0.out.2.2 (by omega)).mono ?_
  rintro e w1 ⟨ho, b1⟩
  have L1 := Lib.hid (bthen L0.out b1); have A1 := Lib.hid (A0.out.next b1)
  have x1 := A1.out.2.1
  clear b1 L0 A0
  rcases ho with ⟨rfl, h1⟩ | ⟨rfl, h1⟩
  · obtain ⟨k1, y1, hk1, e1⟩ := ft_page HM.out (by decide) h1
    have HF1 := Lib.hid h1; have HK1 := Lib.hid hk1; have E1 := Lib.hid e1
    clear h1 hk1 e1
    go_wp2_with fail
    refine (hasS p cap l 32768 256 w1 HM.out A1.out.2.2 (by omega)).mono ?_
    rintro e w2 ⟨ho, b2⟩
    have L2 := Lib.hid (bthen L1.out b2); have A2 := Lib.hid (A1.out.next b2)
    have x2 := A2.out.2.1
    clear b2 L1 A1 x1
    rcases ho with ⟨rfl, h2⟩ | ⟨rfl, h2⟩
    · obtain ⟨k2, y2, hk2, e2⟩ := ft_page HM.out (by decide) h2
      have HF2 := Lib.hid h2; have HK2 := Lib.hid hk2; have E2 := Lib.hid e2
      clear h2 hk2 e2
      go_wp2_with fail
      have hall (a : Int) (h : FtOut l a 256 0 0) : ∀ i : Nat, i < 256 → ∃ v, ByteAt l 0 (a + i) v := by
        rcases h with ⟨_, h⟩ | ⟨i, _, _, hc⟩
        · exact h
        · have := code_pos hc; omega
      refine (getBS p cap l 4096 256 w2 HM.out A2.out.2.2 (by omega) (hall _ HF1.out)).mono ?_
      rintro e w3 ⟨T, rfl, HT, b3⟩
      have hT := page_text HM.out HK1.out HT.out.1 (by rw [E1.out]; exact HT.out.2)
      rw [hT]
      have L3 := Lib.hid (bthen L2.out b3); have A3 := Lib.hid (A2.out.next b3)
      have x3 := A3.out.2.1
      have HA := Lib.hid hall
      clear b3 L2 A2 x2 HT hT T hall
      go_wp2_with fail
      refine (prvS w3).mono ?_
      rintro e w4 ⟨rfl, b4⟩
      have L4 := Lib.hid (bthen L3.out b4); have A4 := Lib.hid (A3.out.next b4)
      have x4 := A4.out.2.1
      clear b4 L3 A3 x3
      by_cases q1 : (y1.d.toList == prvT.toList) = true
      · have P1 : Hid (Prv l 4096) := Lib.hid ⟨k1, y1, HK1.out, E1.out, (byt_eqP _ _).1 q1⟩
        go_wp2_with fail
        refine (getBS p cap l 32768 256 w4 HM.out A4.out.2.2 (by omega) (HA.out _ HF2.out)).mono ?_
        rintro e w5 ⟨T, rfl, HT, b5⟩
        have hT := page_text HM.out HK2.out HT.out.1 (by rw [E2.out]; exact HT.out.2)
        rw [hT]
        have L5 := Lib.hid (bthen L4.out b5)
        clear b5 L4 A4 x4 HT hT T
        go_wp2_with fail
        refine (prvS w5).mono ?_
        rintro e w6 ⟨rfl, b6⟩
        have L6 := Lib.hid (bthen L5.out b6)
        clear b6 L5
        obtain ⟨B, hB⟩ : ∃ B : Bool, B = (y2.d.toList == prvT.toList) := ⟨_, rfl⟩
        have HB := Lib.hid hB
        have hB' := hB.symm
        clear hB
        go_wp2
        go_ret
        refine ⟨⟨B, rfl, ?_⟩, L6.out⟩
        rw [HB.out, byt_eqP, ← prv_iff HM.out HK2.out, E2.out]
        exact ⟨fun h => ⟨P1.out, h⟩, fun h => h.2⟩
      · have N1 : Hid (¬ Prv l 4096) := Lib.hid (by rw [← E1.out, prv_iff HM.out HK1.out, ← byt_eqP]; exact q1)
        have q1' : (y1.d.toList == prvT.toList) = false := by simpa using q1
        clear q1
        go_wp2
        go_ret
        exact ⟨⟨false, rfl, by simp [N1.out]⟩, L4.out⟩
    · have N2 := Lib.hid (prv_no (ft_none HM.out h2))
      clear h2
      go_wp2
      go_ret
      exact ⟨⟨false, rfl, by simp [N2.out]⟩, L2.out⟩
  · have N1 := Lib.hid (prv_no (ft_none HM.out h1))
    clear h1
    go_wp2
    go_ret
    exact ⟨⟨false, rfl, by simp [N1.out]⟩, L1.out⟩
set_option maxHeartbeats 1000000 in
theorem pokS (p : Option Addr) (cap : Nat) (l : List Pg) (w : World) (hf : Fits l) (hr : Rd w p l) :
    Calls Try.prog 8 #[.agg #[.slice p l.length cap]] w fun e w' => ∃ (b : Bool) (c : Int), e = .returned (.tuple #[.bool b, .int .i64 c]) ∧ Hid (PvIs l b c) ∧ Below w.heap.size w w' := by
  obtain ⟨W, hW⟩ : ∃ W, W = w.alloc (.cells #[.slice p l.length cap] 32) := ⟨_, rfl⟩
  have L0 : Hid (Below w.heap.size w W) := Lib.hid (by rw [hW]; exact below1 w _)
  have A0 : Hid (Bx W w.heap.size p cap l) := Lib.hid (by rw [hW]; exact Bx.new _ hr)
  have HW := Lib.hid hW; have HF := Lib.hid hf
  clear hr hf hW
  go_enter Try.func8, Try.ntmps8
  go_wp2_with fail
  rw [← HW.out]
  refine (specOk p cap l W HF.out A0.out.2.2).mono ?_
  rintro e w1 ⟨rfl, b1⟩
  have L1 := Lib.hid (bthen L0.out b1); have A1 := Lib.hid (A0.out.next b1)
  have x1 := A1.out.2.1
  clear b1 L0 A0
  by_cases hm : MemOk l
  · have hy := okB_yes hm
    have HM := Lib.hid hm
    clear hm
    go_wp2_with fail
    refine (keptS p cap l w1 HM.out A1.out.2.2).mono ?_
    rintro e w2 ⟨⟨b, rfl, hb⟩, b2⟩
    have L2 := Lib.hid (bthen L1.out b2)
    have HB := Lib.hid hb
    clear hb b2
    go_wp2
    go_ret2
    exact ⟨_, _, rfl, Lib.hid (.inr ⟨HM.out, rfl, HB.out⟩), L2.out⟩
  · have hn := okB_no hm
    have HM := Lib.hid hm
    clear hm
    go_wp2
    go_ret2
    exact ⟨_, _, rfl, Lib.hid (.inl ⟨HM.out, rfl, rfl⟩), L1.out⟩
theorem ix2a (a b : Int) (w : World) : (Instr.index 49 (.agg #[.int .i64 a, .int .i64 b]) (.int .i64 0)).run Try.prog w = .ok (.int .i64 a) w := rfl
theorem ix2b (a b : Int) (w : World) : (Instr.index 49 (.agg #[.int .i64 a, .int .i64 b]) (.int .i64 1)).run Try.prog w = .ok (.int .i64 b) w := rfl
set_option maxHeartbeats 2000000 in
theorem pokI (p : Option Addr) (cap : Nat) (l : List Pg) (w : World) (hp : Ad p) (hs : Small l) (hr : Rd w p l) :
    Calls Try.prog 10 #[.agg #[.slice p l.length cap]] w fun e w' => ∃ (b : Bool) (c : Int), e = .returned (.tuple #[.bool b, .int .i64 c]) ∧ Hid (PvIs l b c) ∧ Below w.heap.size w w' := by
  have hb0 := below1 w (.cells #[.slice p l.length cap] 32)
  have C := Lib.hid (openAll p cap l _ hp hs (hr.below hb0))
  have L0 := Lib.hid hb0
  have x0 := ix2a 4096 32768
  have x1 := ix2b 4096 32768
  clear hp hs hr hb0
  go_enter Try.func10, Try.ntmps10
  go_wp2_with fail
  refine (C.out).mono ?_
  rintro e w1 ⟨ho, b1⟩
  have L1 := Lib.hid (bthen L0.out b1)
  clear b1 L0 C
  rcases ho with ⟨hn, q, n, c, rfl⟩ | ⟨hy, q, c, g, rfl, htab⟩
  · have HN := Lib.hid hn
    clear hn
    go_wp2
    go_ret2
    exact ⟨_, _, rfl, Lib.hid (.inl ⟨HN.out, rfl, rfl⟩), bbox L1.out _⟩
  · obtain ⟨V, hV⟩ : ∃ V, V = w1.alloc (.cells #[.slice q l.length c] 44) := ⟨_, rfl⟩
    have L2 : Hid (Below w.heap.size w V) := Lib.hid (by rw [hV]; exact bbox L1.out _)
    have hB : V.cell? ⟨w1.heap.size, 0, none⟩ = some (.slice q l.length c) := by rw [hV]; exact cell_of_one (heap_alloc_new w1 _)
    have hB0 : Hid (w1.heap.size < V.heap.size) := Lib.hid (by rw [hV]; simp)
    have hT : Tab V q g l := by rw [hV]; exact htab.tab.below (below1 _ _)
    have HT := Lib.hid hT; have HV := Lib.hid hV; have HM := Lib.hid hy; have HB := Lib.hid hB
    clear hT hV hy htab L1 hB
    go_wp2_with fail
    rw [← HV.out]
    refine (prvI V).mono ?_
    rintro e w2 ⟨rfl, own2, b2⟩
    have hstr := str_own own2
    have L3 := Lib.hid (bthen L2.out b2)
    have HT2 := Lib.hid (HT.out.below b2)
    have HB2 : Hid (w2.cell? ⟨w1.heap.size, 0, none⟩ = some (.slice q l.length c) ∧ w1.heap.size < w2.heap.size) := Lib.hid ⟨(b2.cell (p := ⟨w1.heap.size, 0, none⟩) hB0.out).trans HB.out, by have := b2.size; have := hB0.out; omega⟩
    clear b2 own2 L2 HT HB hB0
    rw [show (⟨(prvL 256).toArray⟩ : ByteArray) = prvT from rfl] at hstr
    obtain ⟨pT, hpT⟩ : ∃ T, T = prvT := ⟨_, rfl⟩
    rw [← hpT] at hstr
    have HP := Lib.hid hpT
    clear hpT
    go_wp2
    clear hstr
    go_loopw [21] (fun i wr => ∃ k : Nat, k ≤ 2 ∧ i = .int .i64 k ∧ Hid (Below w2.heap.size w2 wr) ∧ Hid (0 < k → Prv l 4096) ∧ Hid (1 < k → Prv l 32768)) (fun i _ => 2 - (intOf i).toNat)
    case atStart => exact ⟨0, by omega, rfl, Lib.hid (Below.refl _ _), Lib.hid (fun h => by omega), Lib.hid (fun h => by omega)⟩
    case round =>
      obtain ⟨k, hk, rfl, HL, H1, H2⟩ := hrel
      have HTr := Lib.hid (HT2.out.below HL.out)
      have hcr := (HL.out.cell (p := ⟨w1.heap.size, 0, none⟩) HB2.out.2).trans HB2.out.1
      have hlr : w1.heap.size < wr.heap.size := by have := HL.out.size; have := HB2.out.2; omega
      rcases (show k = 0 ∨ k = 1 ∨ k = 2 by omega) with rfl | rfl | rfl
      · have C := Lib.hid (findC w1.heap.size c g q l 4096 wr HM.out hcr hlr HTr.out)
        clear hcr hlr
        go_wp2_with fail
        refine (C.out).mono ?_
        rintro e w3 ⟨hf, b3⟩
        have L4 := Lib.hid (bthen HL.out b3)
        rcases hf with ⟨j, x, hj, hxb, rfl⟩ | ⟨hno, rfl⟩
        · obtain ⟨h, rfl, _, _, _, a0, a1, a2⟩ := (HTr.out.below b3) j x hj
          have HJ := Lib.hid hj; have HX := Lib.hid hxb
          clear hj hxb b3 C HTr a0 a1
          by_cases q1 : (x.d.toList == pT.toList) = true
          · have HQ : Hid (Prv l 4096) := Lib.hid ⟨j, x, HJ.out, HX.out, by rw [← HP.out]; exact (byt_eqP _ _).1 q1⟩
            go_wp2
            go_roundw
            case rel => exact ⟨1, by omega, rfl, L4, Lib.hid (fun _ => HQ.out), Lib.hid (fun h => by omega)⟩
            case measure => simp [intOf]
          · have q1' : (x.d.toList == pT.toList) = false := by simpa using q1
            have HQ : Hid (¬ Prv l 4096) := Lib.hid (by rw [← HX.out, prv_iff HM.out HJ.out, ← HP.out, ← byt_eqP]; exact q1)
            clear q1
            go_wp2
            go_ret2
            exact ⟨_, _, rfl, Lib.hid (.inr ⟨HM.out, rfl, by simp [HQ.out]⟩), bthen L3.out L4.out⟩
        · have HQ := Lib.hid (prv_no hno)
          clear hno b3 C HTr
          go_wp2
          go_ret2
          exact ⟨_, _, rfl, Lib.hid (.inr ⟨HM.out, rfl, by simp [HQ.out]⟩), bthen L3.out L4.out⟩
      · have C := Lib.hid (findC w1.heap.size c g q l 32768 wr HM.out hcr hlr HTr.out)
        clear hcr hlr
        go_wp2_with fail
        refine (C.out).mono ?_
        rintro e w3 ⟨hf, b3⟩
        have L4 := Lib.hid (bthen HL.out b3)
        rcases hf with ⟨j, x, hj, hxb, rfl⟩ | ⟨hno, rfl⟩
        · obtain ⟨h, rfl, _, _, _, a0, a1, a2⟩ := (HTr.out.below b3) j x hj
          have HJ := Lib.hid hj; have HX := Lib.hid hxb
          clear hj hxb b3 C HTr a0 a1
          by_cases q1 : (x.d.toList == pT.toList) = true
          · have HQ : Hid (Prv l 32768) := Lib.hid ⟨j, x, HJ.out, HX.out, by rw [← HP.out]; exact (byt_eqP _ _).1 q1⟩
            go_wp2
            go_roundw
            case rel => exact ⟨2, by omega, rfl, L4, Lib.hid (fun _ => H1.out (by omega)), Lib.hid (fun _ => HQ.out)⟩
            case measure => simp [intOf]
          · have q1' : (x.d.toList == pT.toList) = false := by simpa using q1
            have HQ : Hid (¬ Prv l 32768) := Lib.hid (by rw [← HX.out, prv_iff HM.out HJ.out, ← HP.out, ← byt_eqP]; exact q1)
            clear q1
            go_wp2
            go_ret2
            exact ⟨_, _, rfl, Lib.hid (.inr ⟨HM.out, rfl, by simp [HQ.out]⟩), bthen L3.out L4.out⟩
        · have HQ := Lib.hid (prv_no hno)
          clear hno b3 C HTr
          go_wp2
          go_ret2
          exact ⟨_, _, rfl, Lib.hid (.inr ⟨HM.out, rfl, by simp [HQ.out]⟩), bthen L3.out L4.out⟩
      · clear hcr hlr
        go_wp2
        go_ret2
        exact ⟨_, _, rfl, Lib.hid (.inr ⟨HM.out, rfl, ⟨fun _ => ⟨H1.out (by omega), H2.out (by omega)⟩, fun _ => rfl⟩⟩), bthen L3.out HL.out⟩
end Go.Proofs.Ytcchcinnjahghaa
