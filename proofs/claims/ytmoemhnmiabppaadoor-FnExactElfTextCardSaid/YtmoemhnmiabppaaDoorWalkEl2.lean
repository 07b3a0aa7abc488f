/-
  What impl.ElfText answers of an image: its text, if it is right; conditions: those in each head.
-/
import Derived.Test.YtmoemhnmiabppaaDoorWalkEl
namespace Go.Proofs.YtmoemhnmiabppaaDoor
open Go.RowKit
set_option linter.unusedVariables false
set_option linter.unusedSimpArgs false
set_option maxRecDepth 100000 in
set_option maxHeartbeats 4000000 in
theorem elfI (n : Int) (p : Option Addr) (cap : Nat) (l : List Sg) (w : World) (hcap : l.length ≤ cap) (hr : RdS w p l) (hs : SmallS l) (k : Nat) (c : Int) (hc : Chk n l k c) :
    Calls Tryd.prog 12 #[.agg #[.int .i64 n, .slice p l.length cap]] w fun e w' => ElfIs n l c e ∧ Below w.heap.size w w' := by
  have B0 := Lib.hid (belowA w (.cells #[.int .i64 n, .slice p l.length cap] 30))
  have I0 := Lib.hid (ImAt.new w n p l.length cap 30)
  have C := Lib.hid (fun b => okI n p cap l _ hcap (hr.below B0.out) hs k c hc b)
  have HR := Lib.hid hr; have HS := Lib.hid hs
  by_cases h0 : c = 0
  · subst h0
    have h4 := chk_four hc
    clear hr hs hc
    go_enter Tryd.func12, Tryd.ntmps12
    go_wp2_with fail
    refine (C.out true rfl).mono ?_
    rintro e w0 ⟨rfl, b0⟩
    obtain ⟨i0, i1, i2⟩ := I0.out.next b0
    have L0 := Lib.hid (B0.out.trans (b0.mono B0.out.size))
    have J0 := Lib.hid (I0.out.next b0)
    clear b0 C I0 B0
    go_wp2_with fail
    refine (headI n (l.length : Int) _).mono ?_
    rintro e w1 ⟨rfl, b1⟩
    have I1 := Lib.hid (J0.out.next b1)
    have L1 := Lib.hid (L0.out.trans (b1.mono L0.out.size))
    clear i0 i1 i2 b1 J0 L0
    have i1 := I1.out.2.2; have i0 := I1.out.1
    obtain ⟨H, hH⟩ : ∃ H, H = headT n (l.length : Int) := ⟨_, rfl⟩
    have hHs : H.size = 64 := by rw [hH]; exact headT_size _ _
    have HH := Lib.hid hH
    have HHs := Lib.hid hHs
    rw [← hH]
    clear hH hHs
    go_wp2
    go_loopw [4, 5, 26] (fun t d i wr => ∃ (k : Nat) (T U : ByteArray), k ≤ l.length ∧ i = .int .i64 k ∧ t = .string T ∧ d = .string U ∧ Hid (T = H ++ segsT (l.take k) (64 + 56 * l.length)) ∧ Hid (U = dataT (l.take k)) ∧ Hid (ImAt wr w.heap.size n p l.length cap) ∧ Hid (Below w.heap.size w wr)) (fun _ _ i _ => l.length - (intOf i).toNat)
    case atStart => exact ⟨0, _, _, Nat.zero_le _, rfl, rfl, rfl, Lib.hid (by simp only [List.take_zero, segsT, app_nil]), Lib.hid (by simp only [List.take_zero, dataT]), I1, L1⟩
    case round =>
      obtain ⟨k, T, U, hk, rfl, rfl, rfl, HT, HU, HI, HB⟩ := hrel
      clear i1 i0
      have hTs : T.size = 64 + 56 * k := by rw [HT.out]; have := HHs.out; simp only [ByteArray.size_append, segsT_size, List.length_take]; omega
      have hA := dlen_hi HS.out k hk
      have hU : (U.size : Int) = dlen (l.take k) := by rw [HU.out]; exact dataT_size _
      have hUz : U.size ≤ 4194304 := by omega
      by_cases hlt : k < l.length
      · obtain ⟨x, hx⟩ : ∃ x, l[k]? = some x := ⟨_, List.getElem?_eq_getElem hlt⟩
        obtain ⟨b, off, rfl, h0, q0, q1, q2, q3⟩ := HR.out k x hx
        have hb := HB.out
        have g0 := (hb.cell (p := ⟨b, off + k * 4, none⟩) h0).trans q0
        have g1 := (hb.cell (p := ⟨b, off + k * 4 + 1, none⟩) h0).trans q1
        have g2 := (hb.cell (p := ⟨b, off + k * 4 + 2, none⟩) h0).trans q2
        have g3 := (hb.cell (p := ⟨b, off + k * 4 + 3, none⟩) h0).trans q3
        have hxd := HS.out.2 k x hx
        have HX := Lib.hid hx
        have hbT : ¬ 9223372036854775807 < T.size + 56 := by omega
        have hbU : ¬ 9223372036854775807 < U.size + x.d.size := by omega
        have HTs := Lib.hid hTs; have HU2 := Lib.hid hU
        obtain ⟨Z, hZ⟩ : ∃ Z, Z = segT (64 + 56 * l.length + dlen (l.take k)) x := ⟨_, rfl⟩
        have zs : Z.size = 56 := by rw [hZ]; exact segT_size _ _
        have eA : (64 + 56 * l.length + dlen (l.take k) : Int) = 64 + (l.length : Int) * 56 + (U.size : Int) := by omega
        have D := Lib.hid (fun W => segI (64 + 56 * l.length + dlen (l.take k)) x W)
        rw [← hZ, eA] at D
        clear eA
        have HZ := Lib.hid hZ
        obtain ⟨W, hW⟩ : ∃ W, W = wr.alloc (.cells #[.int .i64 x.f, .int .i64 x.v, .int .i64 x.m, .string x.d] 51) := ⟨_, rfl⟩
        have LW : Hid (Below w.heap.size w W) := Lib.hid (by rw [hW]; exact hb.alloc hb.size _)
        have IW : Hid (ImAt W w.heap.size n (some ⟨b, off, none⟩) l.length cap) := Lib.hid (by rw [hW]; exact HI.out.next (belowA _ _))
        have SW : Hid (SgAt W wr.heap.size x) := Lib.hid (by rw [hW]; exact sgAlloc _ _ _)
        have HW := Lib.hid hW
        clear hx q0 q1 q2 q3 h0 hW hb hTs hU hA hZ
        go_upto_region 8 with fail
        clear g0 g1 g2 g3
        rw [← HW.out]
        clear HW HI HB
        obtain ⟨s0, s1, s2, s3, s4⟩ := SW.out
        go_wp2_with fail
        with_reducible refine Calls.mono (D.out _) ?_
        rintro e w2 ⟨rfl, b2⟩
        have L2 := Lib.hid (LW.out.trans (b2.mono LW.out.size))
        have I2 := Lib.hid (IW.out.next b2)
        obtain ⟨t0, t1, t2, t3, t4⟩ := SW.out.next b2
        clear s0 s1 s2 s3 s4 b2 D LW IW SW
        go_wp2
        go_roundw
        case rel =>
          refine ⟨k + 1, _, _, by omega, by go_num, rfl, rfl, Lib.hid ?_, Lib.hid ?_, I2, L2⟩
          · rw [take_snoc HX.out, segsT_snoc, ← HZ.out]
            have e := HT.out
            generalize segsT (l.take k) (64 + 56 * l.length) = Y at e ⊢
            rw [e, ByteArray.append_assoc]
          · rw [take_snoc HX.out, dataT_snoc, ← HU.out]
        case measure => simp [intOf]; omega
      · obtain rfl : k = l.length := by omega
        have hbT : ¬ 9223372036854775807 < T.size + U.size := by omega
        have hfin : textT n l = T ++ U := by
          have e1 := HT.out
          have e2 := HU.out
          rw [List.take_length] at e1 e2
          rw [e1, e2, HH.out]; rfl
        have HF := Lib.hid hfin
        have HTs := Lib.hid hTs
        clear hfin hTs hA hU
        go_wp2
        go_returns
        exact ⟨.inr ⟨rfl, by rw [HF.out]; rfl⟩, HB.out⟩
  · have hb : (c == 0) = false := beq_eq_false_iff_ne.2 h0
    have HN := Lib.hid h0
    clear h0 hr hs hc
    go_enter Tryd.func12, Tryd.ntmps12
    go_wp2_with fail
    refine (C.out false hb).mono ?_
    rintro e w1 ⟨rfl, b1⟩
    have L := B0.out.trans (b1.mono B0.out.size)
    clear hb
    go_wp2
    go_returns
    exact ⟨.inl ⟨HN.out, rfl⟩, L⟩
end Go.Proofs.YtmoemhnmiabppaaDoor
