/-
  Proved: for every two slices of bytes, laws.FnMemory returns true (what is stored into drawn pages is loaded again, and no other byte changes); condition: the two sentinel errors hold what the program's text lays there, which the card ties to that text.
-/
import Derived.Test.YtlijjbdhoooamaaDoorCards
import Derived.Test.YtlijjbdhoooamaaDoorTie
import Derived.LaidMore
import Derived.Stop.Joined
import Derived.OpenVars
import Derived.WalkKit
import Derived.ProofKit
import Derived.OpenShut
import Derived.ShutString
import Derived.Test.YtlijjbdhoooamaaDoorMathMd
import Derived.ChangeOld
import Derived.Below
namespace Go.Proofs.YtlijjbdhoooamaaDoor.fnMemory
open Go.ChangeShapes Go.WideShapes Go.ChangeAt Go.RowKit
open Go.ChangeMaps (open_string shut_string)
set_option linter.unusedVariables false

theorem own : ownKnob Tryd.prog.godebug = none := by kernel_rfl
theorem laidOut : laidOutB Tryd.prog = true := by kernel_rfl

/-- WHAT THE WALK IS TOLD OF A SLICE OF INTEGERS THAT CAME IN: it is nil; or it leads to a row of 'cap' cells, the numbers 'zs' (the first 'len' are its elements, the rest its spare room), each fitting its kind. -/
def IsRow (k : IntKind) (w : World) (a : Option Addr) (len cap : Nat) (zs : List Int) : Prop :=
  (a = none ∧ len = 0 ∧ cap = 0 ∧ zs = []) ∨
  ∃ x, a = some x ∧ len ≤ cap ∧ cap ≤ maxLen ∧ zs.length = cap ∧ (∀ i, i < zs.length → w.cell? (x.add i) = some (.int k (zs.getD i 0))) ∧ ∀ n ∈ zs, (Lit.int k n).wf = true

theorem rdb_of_row {w : World} {a : Option Addr} {len cap : Nat} {zs : List Int} (h : IsRow .u8 w a len cap zs) : Rdb w w.heap.size a len := by
  intro hl
  rcases h with ⟨_, h0, _, _⟩ | ⟨x, rfl, hlc, hm, hz, hc, hwf⟩
  · omega
  · obtain ⟨b, off, rfl, hcell⟩ := ints_at hc (by omega)
    refine ⟨b, off, rfl, ?_, fun j hj => ⟨_, hcell j (by omega), ?_⟩⟩
    · have h0 := hcell 0 (by omega)
      rcases Nat.lt_or_ge b w.heap.size with h | h
      · exact h
      · simp [World.cell?, Array.getElem?_eq_none h] at h0
    · have hj' : j < zs.length := by omega
      have := bounds_u8 (hwf zs[j] (List.getElem_mem hj'))
      simp [List.getElem?_eq_getElem hj']; omega
theorem owns_ad {W : World} {B : Nat} {p : Option Addr} {cap : Nat} {l : List Pg} (h : Owns W B p cap l) : Ad p := by
  rcases Joins.ownsRow_forms h with ⟨h1, _⟩ | ⟨g, c, e⟩
  · injection h1 with e1 e2 e3; exact .inl e1
  · injection e with e1 e2 e3; rw [e1]; exact Ad.own g
theorem byte_get {d : ByteArray} {q : Nat} (h : q < d.size) : d.data.toList[q]? = some (d[q]'h) := by
  rw [Array.getElem?_toList]; exact Array.getElem?_eq_getElem h
theorem byte_eq {d e : ByteArray} {q j : Nat} (h : q < d.size) (g : j < e.size) (he : d.data.toList[q]? = e.data.toList[j]?) : (((d[q]'h).toNat : Int) != ((e[j]'g).toNat : Int)) = false := by
  rw [byte_get h, byte_get g] at he; rw [Option.some.inj he]; simp
/-- block mb is a variable's box that holds the memory l, at p -/
def Sp (w W : World) (mb : Nat) (p : Option Addr) (cap : Nat) (l : List Pg) : Prop :=
  Below w.heap.size w W ∧ w.heap.size ≤ mb ∧ W.heap[mb]? = some (.cells #[.slice p l.length cap] 25 (0, 0)) ∧ Rd W p l
theorem Sp.cell {w W : World} {mb cap : Nat} {p : Option Addr} {l : List Pg} (h : Sp w W mb p cap l) : W.cell? ⟨mb, 0, none⟩ = some (.slice p l.length cap) := cell_of_row _ _ 0 _ _ (0, 0) h.2.2.1
theorem Sp.lt {w W : World} {mb cap : Nat} {p : Option Addr} {l : List Pg} (h : Sp w W mb p cap l) : mb < W.heap.size := (Array.getElem?_eq_some_iff.1 h.2.2.1).1
theorem Sp.next {w W W' : World} {mb cap : Nat} {p : Option Addr} {l : List Pg} (h : Sp w W mb p cap l) (b : Below W.heap.size W W') : Sp w W' mb p cap l :=
  ⟨bthen h.1 b, h.2.1, (b.block _ h.lt).trans h.2.2.1, h.2.2.2.below b⟩
theorem Sp.box {w w1 : World} {cap : Nat} {p : Option Addr} {l : List Pg} (h : Below w.heap.size w w1) (hr : Rd w1 p l) : Sp w (w1.alloc (.cells #[.slice p l.length cap] 25)) w1.heap.size p cap l :=
  ⟨bbox h _, h.size, heap_alloc_new w1 _, hr.below (below1 _ _)⟩
set_option maxRecDepth 100000 in
set_option maxHeartbeats 4000000 in
theorem walk (a0 : Option Addr) (len0 cap0 : Nat) (z0 : List Int) (a1 : Option Addr) (len1 cap1 : Nat) (z1 : List Int) (w : World) (w0 : IsRow .u8 w a0 len0 cap0 z0) (w1 : IsRow .u8 w a1 len1 cap1 z1) (hL : laidMetH Tryd.prog Rows.fnMemoryRow.laid w) :
    Calls Tryd.prog 3 #[.slice a0 len0 cap0, .slice a1 len1 cap1] w fun e w' => e = .returned (.bool true) ∧ Below w.heap.size w w' := by
  obtain ⟨aE, aR, hs⟩ := sent_of_laid (W := w) rfl hL
  have HS := Lib.hid hs
  clear hL hs
  have hr0 := rdb_of_row w0
  have hr1 := rdb_of_row w1
  clear w0 w1
  by_cases hb0 : (1048576 : Int) < len0
  · go_enter Tryd.func3, Tryd.ntmps3
    go_wp2
    go_ret
    exact ⟨rfl, Below.refl _ _⟩
  by_cases hb1 : (1048576 : Int) < len1
  · go_enter Tryd.func3, Tryd.ntmps3
    go_wp2
    go_ret
    exact ⟨rfl, Below.refl _ _⟩
  have R1 := Lib.hid hr1
  have CM := Lib.hid (memoryD len0 cap0 a0 w (by omega) hr0)
  clear hr0 hr1
  go_enter Tryd.func3, Tryd.ntmps3
  go_wp2_with fail
  refine (CM.out).mono ?_
  rintro e wa ⟨p, c, l, rfl, hm, ⟨⟨pb, rfl⟩, hd8⟩, hrd, hba⟩
  obtain ⟨Wa, hWa⟩ : ∃ W, W = wa.alloc (.cells #[.slice (some ⟨pb, 0, none⟩) l.length c] 25) := ⟨_, rfl⟩
  have Sa : Hid (Sp w Wa wa.heap.size (some ⟨pb, 0, none⟩) c l) := Lib.hid (by rw [hWa]; exact Sp.box hba hrd)
  have HM := Lib.hid hm; have HD := Lib.hid hd8; have HWa := Lib.hid hWa
  clear hm hd8 hrd hWa
  have CSZ : Hid (Calls Tryd.prog 5 #[.slice a1 len1 cap1, .int .i64 0] Wa (SizeOut Wa)) := Lib.hid (lawSizeAt 0 len1 cap1 a1 Wa ((R1.out.below Sa.out.1).more Sa.out.1.size) (by omega) (by omega))
  go_wp2_with fail
  rw [← HWa.out]
  refine (CSZ.out).mono ?_
  rintro e wb ⟨n, hok, rfl, hwb⟩
  have HOK := Lib.hid hok
  have hn8 : n ≤ 8 := by rcases hok with h | h | h | h <;> omega
  have hn1 : 1 ≤ n := by rcases hok with h | h | h | h <;> omega
  have Sb := Lib.hid (Sa.out.next hwb)
  have CAD := Lib.hid (addressD len1 cap1 a1 wb (by omega) ((R1.out.below Sb.out.1).more Sb.out.1.size))
  clear hok hwb CSZ
  go_wp2_with fail
  refine (CAD.out).mono ?_
  rintro e wc ⟨a, ha, rfl, hwc⟩
  have HA := Lib.hid ha
  have hab := bounds_i64 ha
  have ha1 : -9223372036854775808 ≤ a := by omega
  have ha2 : a ≤ 9223372036854775807 := by omega
  have Sc := Lib.hid (Sb.out.next hwc)
  have CNU := Lib.hid (numberOf len1 cap1 a1 wc (by omega) ((R1.out.below Sc.out.1).more Sc.out.1.size))
  clear ha hab hwc CAD
  go_wp2_with fail
  refine (CNU.out).mono ?_
  rintro e wd ⟨v, hv, rfl, hwd⟩
  have Sd := Lib.hid (Sc.out.next hwd)
  obtain ⟨X, hX⟩ := natU v
  have HX := Lib.hid hX
  have hsm : Small l := ⟨by have := HM.out.1; omega, fun k x hx => by have := (HM.out.2.1 k x hx).2.2.2.2.2; omega⟩
  have HSM := Lib.hid hsm
  have xd := Sd.out.cell
  clear hX hsm hv hwd CNU
  go_wp2_with fail
  refine (storeI (some ⟨pb, 0, none⟩) c l a n v X wd aE aR (HS.out.below Sd.out.1) HX.out (Ad.own pb) HSM.out Sd.out.2.2.2 ha1 ha2).mono ?_
  rintro e we ⟨l1, p1, c1, k1, rfl, ho1, hw1, hb1⟩
  obtain ⟨We, hWe⟩ : ∃ W, W = we.alloc (.cells #[.slice p1 l1.length c1] 25) := ⟨_, rfl⟩
  have Se : Hid (Sp w We wa.heap.size (some ⟨pb, 0, none⟩) c l) := Lib.hid (by rw [hWe]; exact (Sd.out.next hb1).next (below1 _ _))
  have Xe : Hid (Sp w We we.heap.size p1 c1 l1) := Lib.hid (by rw [hWe]; exact Sp.box (Sd.out.next hb1).1 (owns_rd hw1.out))
  have xe := (Sd.out.next hb1).cell; have ze := (Sd.out.next hb1).lt
  have HWe := Lib.hid hWe
  clear hb1 hWe xd
  go_wp2_with fail
  rw [← HWe.out]
  clear xe ze
  refine (storeS pb 0 c l a n v X We HSM.out Se.out.2.2.2 HX.out).mono ?_
  rintro e wf ⟨l2, p2, c2, k2, rfl, ho2, hw2, hb2⟩
  obtain ⟨rfl, rfl⟩ := StoreOut.one ho1.out ho2.out
  have ST := Lib.hid (LayR.out l a n X l1 k1 ho1.out HM.out HD.out HOK.out)
  have hm1 : MemOk l1 := by
    rcases ST.out with ⟨_, rfl⟩ | ⟨_, h, _⟩
    · exact HM.out
    · exact (h.shape HM.out).ok HM.out
  have HM1 := Lib.hid hm1
  have HSM1 := Lib.hid (StoreOut.small ho1.out HSM.out)
  obtain ⟨Wf, hWf⟩ : ∃ W, W = wf.alloc (.cells #[.slice p2 l1.length c2] 25) := ⟨_, rfl⟩
  have Sf : Hid (Sp w Wf wa.heap.size (some ⟨pb, 0, none⟩) c l) := Lib.hid (by rw [hWf]; exact (Se.out.next hb2).next (below1 _ _))
  have Xf : Hid (Sp w Wf we.heap.size p1 c1 l1) := Lib.hid (by rw [hWf]; exact (Xe.out.next hb2).next (below1 _ _))
  have Yf : Hid (Sp w Wf wf.heap.size p2 c2 l1) := Lib.hid (by rw [hWf]; exact Sp.box (Se.out.next hb2).1 (owns_rd hw2.out))
  have xf := (Xe.out.next hb2).cell; have zf := (Xe.out.next hb2).lt
  have HWf := Lib.hid hWf
  have hap : Ad p1 := owns_ad hw1.out
  have HAP := Lib.hid hap
  clear hb2 hWf hm1 hap ho1 ho2
  go_wp2_with fail
  rw [← HWf.out]
  refine (sameR p1 p2 c1 c2 l1 Wf HSM1.out HM1.out HAP.out Xf.out.2.2.2 Yf.out.2.2.2).mono ?_
  rintro e wg ⟨rfl, hbg⟩
  have Sg := Lib.hid (Sf.out.next hbg); have Xg := Lib.hid (Xf.out.next hbg)
  have xg := Xg.out.cell; have sg := Sg.out.cell
  clear hbg xf zf Yf
  rcases ST.out with ⟨hk, rfl⟩ | ⟨rfl, hlay, hft⟩
  · have CSM := Lib.hid (sameR p1 (some ⟨pb, 0, none⟩) c1 c l1 wg HSM1.out HM1.out HAP.out Xg.out.2.2.2 Sg.out.2.2.2)
    rcases hk with rfl | rfl
    · go_wp2_with fail
      refine (CSM.out).mono ?_
      rintro e wh ⟨rfl, hbh⟩
      go_wp2
      go_ret
      exact ⟨rfl, (Sg.out.next hbh).1⟩
    · go_wp2_with fail
      refine (CSM.out).mono ?_
      rintro e wh ⟨rfl, hbh⟩
      go_wp2
      go_ret
      exact ⟨rfl, (Sg.out.next hbh).1⟩
  · have HL := Lib.hid hlay; have HF := Lib.hid hft
    clear hlay hft
    have CLD := Lib.hid (loadI p1 c1 l1 a n wg aE aR (HS.out.below Sg.out.1) HAP.out HSM1.out Xg.out.2.2.2 ha1 ha2)
    go_wp2_with fail
    refine (CLD.out).mono ?_
    rintro e wh ⟨y, k2, rfl, hy, hbh⟩
    obtain ⟨T, hT⟩ : ∃ T : ByteArray, T = ⟨(leB X n).toArray⟩ := ⟨_, rfl⟩
    have hTs : T.size = n := leB_size hT
    obtain ⟨hyv, rfl⟩ := load_laid HL.out HF.out HM.out HOK.out hy.out
    have C1 : Hid (∀ w, Calls Tryd.prog 13 #[.int .i64 v, .int .i64 (n : Int)] w fun e w' => e = .returned (.tuple #[.string T, .int .i64 0]) ∧ Below w.heap.size w w') := Lib.hid (fun w => by rw [hT]; exact implPutYes v X n w HX.out HOK.out)
    have C2 : Hid (∀ w, Calls Tryd.prog 12 #[.int .i64 v, .int .i64 (n : Int)] w fun e w' => e = .returned (.tuple #[.int .i64 y, .int .i64 0]) ∧ Below w.heap.size w w') := Lib.hid (fun w => by rw [hyv]; exact implZero v X n w HX.out HOK.out)
    have HL1 : Hid (LayR 0 l a T l1 0) := Lib.hid (by rw [hT]; exact HL.out)
    have hlen : l.length = l1.length := (HL.out.shape HM.out).1
    have tl : ((T.size : Int) == (n : Int)) = true := beq_iff_eq.mpr (by omega)
    have ml : ((l1.length : Int) == (l.length : Int)) = true := beq_iff_eq.mpr (by omega)
    have Sh := Lib.hid (Sg.out.next hbh); have Xh := Lib.hid (Xg.out.next hbh)
    clear hbh xg sg hy
    clear hyv hT HL
    go_wp2_with fail
    refine (C2.out _).mono ?_
    rintro e wi ⟨rfl, hbi⟩
    have Si := Lib.hid (Sh.out.next hbi); have Xi := Lib.hid (Xh.out.next hbi)
    clear hbi
    go_wp2_with fail
    refine (C1.out _).mono ?_
    rintro e wj ⟨rfl, hbj⟩
    have Sj := Lib.hid (Si.out.next hbj); have Xj := Lib.hid (Xi.out.next hbj)
    clear hbj
    have xj := Xj.out.cell; have sj := Sj.out.cell
    have hl32 : l.length ≤ 32 := HM.out.1
    go_wp2
    obtain ⟨ap0, ap1⟩ : 0 ≤ a ∧ a ≤ 65791 := by
      rcases HF.out with ⟨_, h⟩ | ⟨i, _, _, hc⟩
      · obtain ⟨v, k, x, h1, _, _⟩ := h 0 (by omega)
        have h2 := HM1.out.2.1 k x h1.1
        have h3 := h1.2
        have h4 := h2.1; have h5 := h2.2.1
        omega
      · have := code_pos hc; omega
    have HLEN := Lib.hid hlen
    clear C1 C2 CLD HF tl ml xj sj HS ST hlen
    go_loopw [19] (fun i wr => ∃ k : Nat, k ≤ l.length ∧ i = .int .i64 k ∧ Hid (Sp w wr wa.heap.size (some ⟨pb, 0, none⟩) c l) ∧ Hid (Sp w wr we.heap.size p1 c1 l1)) (fun i _ => l.length - (intOf i).toNat)
    case atStart => exact ⟨0, Nat.zero_le _, rfl, Sj, Xj⟩
    case round =>
      obtain ⟨k, hk, rfl, Sk, Xk⟩ := hrel
      have xk := Xk.out.cell; have sk := Sk.out.cell
      by_cases hlt : k < l.length
      · have hlt1 : k < l1.length := by have := HLEN.out; omega
        obtain ⟨x, hx⟩ : ∃ x, l[k]? = some x := ⟨_, List.getElem?_eq_getElem hlt⟩
        obtain ⟨y, hy⟩ : ∃ y, l1[k]? = some y := ⟨_, List.getElem?_eq_getElem hlt1⟩
        obtain ⟨b, off, e, q0, s0, s1, s2⟩ := Sk.out.2.2.2 k x hx
        cases e
        simp only [Nat.zero_add] at s0 s1 s2
        obtain ⟨d, dff, rfl, r0, y0, y1, y2⟩ := Xk.out.2.2.2 k y hy
        have HB := Lib.hid (fun q hq => laid_at (q := q) HL1.out HM.out hx hy hq)
        have hx1 := HM.out.2.1 k x hx
        have xb0 := hx1.1; have xb1 := hx1.2.1; have xd := hx1.2.2.2.2.2
        have yd := (HM1.out.2.1 k y hy).2.2.2.2.2
        have yl : ((y.d.size : Int) != 256) = false := by rw [bne_eq_false_iff_eq]; omega
        have zx := Xk.out.lt
        have nx : we.heap.size ≠ wr.heap.size := by omega
        have nd : d ≠ wr.heap.size := by omega
        obtain ⟨V, hV⟩ : ∃ V, V = wr.alloc (.cells #[.int .i64 x.b, .int .i64 x.p, .string x.d] 38) := ⟨_, rfl⟩
        have SV : Hid (Sp w V wa.heap.size (some ⟨pb, 0, none⟩) c l) := Lib.hid (by rw [hV]; exact Sk.out.next (below1 _ _))
        have XV : Hid (Sp w V we.heap.size (some ⟨d, dff, none⟩) c1 l1) := Lib.hid (by rw [hV]; exact Xk.out.next (below1 _ _))
        have PB : Hid (V.heap[wr.heap.size]? = some (.cells #[.int .i64 x.b, .int .i64 x.p, .string x.d] 38 (0, 0))) := Lib.hid (by rw [hV]; exact heap_alloc_new wr _)
        have HV := Lib.hid hV
        clear hx hy hx1 hV
        go_wp2
        rw [← HV.out]
        clear xk sk s0 s1 s2 y0 y1 y2 zx nx nd q0 r0 yl
        go_loopw [23] (fun i wv => ∃ q : Nat, q ≤ 256 ∧ i = .int .i64 q ∧ Hid (Below V.heap.size V wv)) (fun i _ => 256 - (intOf i).toNat)
        case atStart => exact ⟨0, by omega, rfl, Lib.hid (Below.refl _ _)⟩
        case round =>
          obtain ⟨q, hq, rfl, BV⟩ := hrel
          have S2 := Lib.hid (SV.out.next BV.out); have X2 := Lib.hid (XV.out.next BV.out)
          have pb0 := cell_of_row _ _ 0 _ _ _ ((BV.out.block _ (lt_blk PB.out)).trans PB.out)
          simp only [List.getElem?_toArray, List.getElem?_cons_zero] at pb0
          by_cases hq2 : q < 256
          · have hql : (q : Int) < 256 := by omega
            have qx : q < x.d.size := by omega
            have qy : q < y.d.size := by omega
            by_cases hin : 0 ≤ x.b + q - a ∧ x.b + q - a < n
            · have qt : (x.b + q - a).toNat < T.size := by omega
              have hcmp := byte_eq qy qt ((HB.out q hq2).1 (x.b + q - a).toNat (by omega) qt)
              go_wp2
              go_roundw
              case rel => exact ⟨q + 1, by omega, by go_num, BV⟩
              case measure => simp [intOf]; omega
            · have hcmp := byte_eq qy qx ((HB.out q hq2).2 (by omega))
              rcases (by omega : x.b + q - a < 0 ∨ (0 ≤ x.b + q - a ∧ (n : Int) ≤ x.b + q - a)) with hlo | ⟨hlo, hhi⟩
              · go_wp2
                go_roundw
                case rel => exact ⟨q + 1, by omega, by go_num, BV⟩
                case measure => simp [intOf]; omega
              · go_wp2
                go_roundw
                case rel => exact ⟨q + 1, by omega, by go_num, BV⟩
                case measure => simp [intOf]; omega
          · obtain rfl : q = 256 := by omega
            go_wp2
            go_roundw
            case rel => exact ⟨k + 1, by omega, by go_num, S2, X2⟩
            case measure => simp [intOf]; omega
      · obtain rfl : k = l.length := by omega
        go_wp2
        go_ret
        exact ⟨rfl, Sk.out.1⟩

theorem door_met (os : Os) (args : Array Value) : laidMetH Tryd.prog Rows.fnMemoryRow.laid ((World.doorLaid Tryd.prog 400 os).forCall (fun _ _ => 0) ⟨#[], args, []⟩).memory :=
  laidMetH_of_parts3 (fuel := 8) (laidMet_of_run' 8 (by kernel_rfl) (by kernel_rfl)) (by kernel_rfl) (by kernel_rfl)
theorem n_vars {H : Type} {enc : TypeId × Value → H} {P : Program} {w : World} {sp : Nat → Bool} {n1 n2 : String} {gs : List (DataW H)} {ps : List MemPlace} (h : DataW.TrodVars enc P w sp [n1, n2] gs ps) : ∃ g1 g2, gs = [g1, g2] := by
  match gs, h with
  | [], h => exact h.elim
  | [a1], ⟨_, _, _, _, _, _, _, _, _, _, h, _⟩ => exact h.elim
  | [a1, a2], _ => exact ⟨a1, a2, rfl⟩
  | a1 :: a2 :: b :: r, ⟨_, _, _, _, _, _, _, _, _, _, ⟨_, _, _, _, _, _, _, _, _, _, h, _⟩, _⟩ => exact h.elim
/-! ### THE ROW's STEP: WRITTEN OUT: LEAVE IT -/
set_option maxRecDepth 100000 in
theorem lifted (os : Os) (started : os.Started) (H : Type) (enc : TypeId × Value → H) :
    ReturnsInHanded {} Tryd.checked os 3 .any (fun w args => (Rows.fnMemorySpec.pre enc Tryd.prog Tryd.f3 [] false w args ∧ laidMetH Tryd.prog Rows.fnMemoryRow.laid w) ∧ sizedMet enc Tryd.prog Tryd.f3 (OpenSpec.ofChange Rows.fnMemorySpec) false w args)
      (Rows.fnMemorySpec.post enc Tryd.prog Tryd.f3 false true false false) := by
  refine returnsInHanded_of_change_and (C := Tryd.checked) (X := fun w _ => laidMetH Tryd.prog Rows.fnMemoryRow.laid w) (fun _ _ _ hh h => h.of_heap hh) own started (by kernel_rfl) Tryd.func3
    (ChangeSpec.witness_shaped (enc := enc) (C := Tryd.checked) (os := os) (X := fun w _ => laidMetH Tryd.prog Rows.fnMemoryRow.laid w) false (World.doorLaid Tryd.prog 400 os) #[.slice none 0 0, .slice none 0 0] 8 rfl (World.shaped_of_RefB (by kernel_rfl) (by kernel_rfl)) (by kernel_rfl) (by kernel_rfl) (by kernel_rfl) (door_met os _)) ?_
  intro W base args ds gs before hval0 hW _ _ hL _
  have hval : ∀ (j : Nat) t v, Tryd.f3.params[j]? = some t → args[j]? = some v → Value.okWide Tryd.prog W .any base t v := hval0
  have hW' := hW
  obtain ⟨p, q, hA0, hV, rfl, hfz, hnd⟩ := hW
  have hA : DataW.TrodAll enc Tryd.prog W 0 (fun _ => true) true Tryd.f3.params.toList args.toList ds p := hA0
  rw [Tryd.params3] at hA hval
  obtain ⟨v0, vs0, d0, ds0, p0, q0, hargs, rfl, rfl, h0, r0⟩ := trodAll_cons hA
  obtain ⟨v1, vs1, d1, ds1, p1, q1, rfl, rfl, rfl, h1, r1⟩ := trodAll_cons r0
  obtain ⟨rfl, rfl, rfl⟩ := trodAll_nil r1
  obtain rfl : args = #[v0, v1] := by cases args; simp_all
  obtain ⟨g1, g2, rfl⟩ : ∃ g1 g2, gs = [g1, g2] := n_vars hV
  obtain ⟨a0, len0, cap0, rfl⟩ := okWide_slice Tryd.underlying22 (hval 0 22 v0 rfl rfl)
  have k0 := h0
  have lt0 : ∀ x ∈ p0, x.block < W.heap.size := by obtain ⟨m, hm⟩ := k0; exact DataW.trod_lt m _ _ _ hm
  obtain ⟨z0, w0⟩ : ∃ zs, IsRow .u8 W a0 len0 cap0 zs := by
    obtain ⟨fuel, hf⟩ := h0
    rcases open_ints Tryd.underlying22 Tryd.underlying5 (by kernel_rfl) hf with ⟨hcs, _⟩ | ⟨x, l, c, zs, hcs, _, hl, hm, hz, _, hcell, hwz⟩
    · simp [Value.cells] at hcs
      obtain ⟨rfl, rfl, rfl⟩ := hcs
      exact ⟨[], .inl ⟨rfl, rfl, rfl, rfl⟩⟩
    · simp [Value.cells] at hcs
      obtain ⟨rfl, rfl, rfl⟩ := hcs
      exact ⟨zs, .inr ⟨_, rfl, hl, hm, by simpa using hz, hcell, hwz⟩⟩
  obtain ⟨a1, len1, cap1, rfl⟩ := okWide_slice Tryd.underlying22 (hval 1 22 v1 rfl rfl)
  have k1 := h1
  have lt1 : ∀ x ∈ p1, x.block < W.heap.size := by obtain ⟨m, hm⟩ := k1; exact DataW.trod_lt m _ _ _ hm
  obtain ⟨z1, w1⟩ : ∃ zs, IsRow .u8 W a1 len1 cap1 zs := by
    obtain ⟨fuel, hf⟩ := h1
    rcases open_ints Tryd.underlying22 Tryd.underlying5 (by kernel_rfl) hf with ⟨hcs, _⟩ | ⟨x, l, c, zs, hcs, _, hl, hm, hz, _, hcell, hwz⟩
    · simp [Value.cells] at hcs
      obtain ⟨rfl, rfl, rfl⟩ := hcs
      exact ⟨[], .inl ⟨rfl, rfl, rfl, rfl⟩⟩
    · simp [Value.cells] at hcs
      obtain ⟨rfl, rfl, rfl⟩ := hcs
      exact ⟨zs, .inr ⟨_, rfl, hl, hm, by simpa using hz, hcell, hwz⟩⟩
  clear hA0 hval0
  refine (walk a0 len0 cap0 z0 a1 len1 cap1 z1 W w0 w1 hL).mono fun e W' ⟨he, hg⟩ => ?_
  subst he
  exact ⟨_, rfl, _, _, _, [], _, _, hW', trodAll_mk1 (shut_bool Tryd.underlying4 _), (trodAll_cons_mk (Below.trod laidOut (by kernel_rfl) (of_decide_eq_true (by kernel_rfl)) k0 hg lt0) (trodAll_cons_mk (Below.trod laidOut (by kernel_rfl) (of_decide_eq_true (by kernel_rfl)) k1 hg lt1) trodAll_mk0)), Below.trodVars laidOut hg (by kernel_rfl) hV, hg.frame _, fun h => by cases h⟩

theorem over : Rows.fnMemoryRow.holds Tryd.pinned (OpenSpec.ofChange Rows.fnMemorySpec) :=
  OpenClaim.holds_of_wide 3 Tryd.f3 rfl rfl rfl rfl rfl rfl rfl ⟨rfl, rfl, rfl, rfl, rfl⟩ rfl rfl rfl rfl rfl (by kernel_rfl) Tryd.func3 (by kernel_rfl)
    (of_decide_eq_true (by kernel_rfl)) (by unfold Func.isWrapper; first | (rw [if_pos (by decide +kernel)]; kernel_rfl) | (rw [if_neg (by decide +kernel)]; exact ⟨rfl, rfl⟩))
    (fun os started H enc _ => lifted os started H enc)

theorem plain (f : FuncId) (fn : Func) (hf : Tryd.pinned.checked.prog.funcNamed "loop.example/g00664/laws.FnMemory" = some f) (hfn : Tryd.pinned.checked.prog.funcs[f]? = some fn) :
    true = Tryd.pinned.checked.prog.looks [] ∧ ∀ (j : Nat) t, fn.params[j]? = some t → Tryd.pinned.checked.prog.wantsStandIn t = false := by
  obtain rfl : f = 3 := Option.some.inj ((show Tryd.prog.funcNamed "loop.example/g00664/laws.FnMemory" = some 3 by kernel_rfl).symm.trans hf) |>.symm
  obtain rfl : fn = Tryd.f3 := (Option.some.inj (Tryd.func3.symm.trans hfn)).symm
  refine ⟨by kernel_rfl, fun j t ht => ?_⟩
  rw [Tryd.params3] at ht
  have hm := Array.mem_of_getElem? ht
  simp only [List.mem_toArray, List.mem_cons, List.not_mem_nil, or_false] at hm
  rcases hm with rfl | rfl
  · exact (show Tryd.prog.wantsStandIn 22 = false by kernel_rfl)
  · exact (show Tryd.prog.wantsStandIn 22 = false by kernel_rfl)
/-- THE CARD -/
theorem card : Rows.FnMemoryCardSaid :=
  Claim7.holds_tied_plain_at .later [] _ _ _ _ over (fun _ h => by cases h) (by kernel_rfl) (fun _ h => by cases h) fnMemory_row_tie rfl ⟨rfl, rfl⟩ (by kernel_rfl) rfl plain (by kernel_rfl)
#print axioms card
end Go.Proofs.YtlijjbdhoooamaaDoor.fnMemory
