/-
  What impl.checkImage and impl.ImageOK answer of an image: what Chk tells, as an error; conditions: those in each head.
-/
import Derived.Test.YtcchcinnjahghaaDoorWalkImI
namespace Go.Proofs.YtcchcinnjahghaaDoor
open Go.RowKit
set_option linter.unusedVariables false
set_option linter.unusedSimpArgs false
theorem RdS.take {w : World} {p : Option Addr} {l : List Sg} (h : RdS w p l) (k : Nat) : RdS w p (l.take k) := by
  intro j x hx
  rw [List.getElem?_take] at hx
  split at hx
  · exact h j x hx
  · cases hx
theorem OkTo.take {l : List Sg} {k : Nat} (h : OkTo l k) (hk : k ≤ l.length) : OkTo (l.take k) (l.take k).length := by
  intro j x hj hx
  rw [List.length_take, Nat.min_eq_left hk] at hj
  rw [List.getElem?_take, if_pos hj] at hx
  have e : (l.take k).take j = l.take j := by rw [List.take_take, Nat.min_eq_left (Nat.le_of_lt hj)]
  rw [e]; exact h j x hj hx
/-- an error that tells a segment and a code -/
def sgE (k : Nat) (c : Int) : Value := .iface 79 (.agg #[.int .i64 (k : Int), .iface 83 (.int .i64 c)])
/-- the error that impl.checkImage answers: k and c are what CheckImage tells -/
def ErrIs (k : Nat) (c : Int) (V : Value) : Prop := (k = 0 ∧ V = imE c) ∨ (c ≠ 0 ∧ V = sgE k c)
theorem chk_bad {n : Int} {l : List Sg} {k j : Nat} {c : Int} {x : Sg} (h : Chk n l k c) (h4 : l.length ≤ 4) (ho : OkTo l j) (hx : l[j]? = some x) (hb : segC (freeOf (l.take j)) (runOf (l.take j)) x ≠ 0) : k = j ∧ c = segC (freeOf (l.take j)) (runOf (l.take j)) x := by
  have hj := (List.getElem?_eq_some_iff.1 hx).1
  cases h with
  | none h => omega
  | many h => omega
  | seg _ y _ hk hy hc => obtain rfl := bad_one hk hy hc ho hx hb; rw [hx] at hy; cases hy; exact ⟨rfl, rfl⟩
  | norun _ _ h => exact absurd (h j x hj hx) hb
  | entry _ _ _ h => exact absurd (h j x hj hx) hb
  | ok _ _ _ h => exact absurd (h j x hj hx) hb
theorem chk_end {n : Int} {l : List Sg} {k : Nat} {c : Int} (h : Chk n l k c) (h4 : l.length ≤ 4) (h0 : 0 < l.length) (ho : OkTo l l.length) : k = 0 ∧ ((runOf l = false ∧ c = 28) ∨ ∃ j x, FirstRun l j x ∧ ((entB n x = false ∧ c = 32) ∨ (entB n x = true ∧ c = 0))) := by
  cases h with
  | none h => omega
  | many h => omega
  | seg _ y _ hk hy hc => exact absurd (ho _ y (List.getElem?_eq_some_iff.1 hy).1 hy) hc
  | norun _ _ _ h => exact ⟨rfl, .inl ⟨run_nil h, rfl⟩⟩
  | entry j x _ _ hf he => exact ⟨rfl, .inr ⟨j, x, hf, .inl ⟨he, rfl⟩⟩⟩
  | ok j x _ _ hf he => exact ⟨rfl, .inr ⟨j, x, hf, .inr ⟨he, rfl⟩⟩⟩
theorem entYes2 {e : Int} {x : Sg} (h : entB e x = true) : decide (x.v ≤ e ∧ e < x.v + x.m) = true ∧ e.tmod 32 = 0 := by
  unfold entB at h; simp at h; exact ⟨decide_eq_true (by omega), h.2⟩
theorem entNo2 {e : Int} {x : Sg} (h : entB e x = false) : decide (x.v ≤ e ∧ e < x.v + x.m) = false ∨ (decide (x.v ≤ e ∧ e < x.v + x.m) = true ∧ (e.tmod 32 != 0) = true) := by
  by_cases h1 : x.v ≤ e ∧ e < x.v + x.m
  · refine .inr ⟨decide_eq_true h1, bne_iff_ne.2 fun h2 => ?_⟩
    have : entB e x = true := by unfold entB; simp [h2]; omega
    rw [this] at h; cases h
  · exact .inl (decide_eq_false h1)
theorem keep5 {w : World} {a b : Nat} {u v0 v1 v2 v3 : Option Value} (h : w.cell? ⟨a, 1, none⟩ = u ∧ w.cell? ⟨b, 0, none⟩ = v0 ∧ w.cell? ⟨b, 1, none⟩ = v1 ∧ w.cell? ⟨b, 2, none⟩ = v2 ∧ w.cell? ⟨b, 3, none⟩ = v3) : w.drew.cell? ⟨a, 1, none⟩ = u ∧ w.drew.cell? ⟨b, 0, none⟩ = v0 ∧ w.drew.cell? ⟨b, 1, none⟩ = v1 ∧ w.drew.cell? ⟨b, 2, none⟩ = v2 ∧ w.drew.cell? ⟨b, 3, none⟩ = v3 := h
set_option maxRecDepth 20000 in
set_option maxHeartbeats 4000000 in
theorem chkI (n : Int) (p : Option Addr) (cap : Nat) (l : List Sg) (w : World) (hcap : l.length ≤ cap) (hr : RdS w p l) (hs : SmallS l) (k : Nat) (c : Int) (hc : Chk n l k c) :
    Calls Tryd.prog 43 #[.agg #[.int .i64 n, .slice p l.length cap]] w fun e w' => (∃ V, e = .returned V ∧ ErrIs k c V) ∧ Below w.heap.size w w' := by
  have hn := hs.1
  have hds : ∀ (k : Nat) x, l[k]? = some x → x.d.size ≤ 9223372036854775807 := fun k x hx => by have := hs.2 k x hx; omega
  have b0 : Below w.heap.size w (w.alloc (.cells #[.int .i64 n, .slice p l.length cap] 24)) := (Below.refl _ _).alloc (Nat.le_refl _) _
  have I0 := Lib.hid (ImAt.new w n p l.length cap 24)
  have HR := Lib.hid hr; have HD := Lib.hid hds; have B0 := Lib.hid b0; have HC := Lib.hid hc
  clear hr hs hds b0
  by_cases h0 : l.length = 0
  · have hkc : k = 0 ∧ c = 5 := by
      cases hc with
      | none h => exact ⟨rfl, rfl⟩
      | many h => omega
      | seg _ x h4 ho hx hb => have := (List.getElem?_eq_some_iff.1 hx).1; omega
      | norun h1 => omega
      | entry j x h4 ho hf he => have := (List.getElem?_eq_some_iff.1 hf.1).1; omega
      | ok j x h4 ho hf he => have := (List.getElem?_eq_some_iff.1 hf.1).1; omega
    obtain ⟨rfl, rfl⟩ := hkc
    rw [h0]
    clear hc HC
    go_enter Tryd.func43, Tryd.ntmps43
    go_wp2
    go_ret
    exact ⟨⟨_, rfl, .inl ⟨rfl, rfl⟩⟩, by go_grown⟩
  by_cases h4 : 4 < l.length
  · have hkc : k = 0 ∧ c = 6 := by
      cases hc with
      | none h => omega
      | many h => exact ⟨rfl, rfl⟩
      | seg _ x h4 => omega
      | norun h1 h4 => omega
      | entry j x h4 => omega
      | ok j x h4 => omega
    obtain ⟨rfl, rfl⟩ := hkc
    clear hc HC
    go_enter Tryd.func43, Tryd.ntmps43
    go_wp2
    go_ret
    exact ⟨⟨_, rfl, .inl ⟨rfl, rfl⟩⟩, by go_grown⟩
  have h4 : l.length ≤ 4 := by omega
  have d0 : ((l.length : Int) == 0) = false := beq_eq_false_iff_ne.2 (by omega)
  have d4 : decide (4 < (l.length : Int)) = false := decide_eq_false (by omega)
  have i0 := I0.out.2.2
  clear hc
  go_enter Tryd.func43, Tryd.ntmps43
  go_wp2
  clear i0
  go_loopw [23] (fun i wr => ∃ (j : Nat), j ≤ l.length ∧ i = .int .i64 j ∧ Hid (OkTo l j) ∧ Hid (ImAt wr w.heap.size n p l.length cap) ∧ Below w.heap.size w wr) (fun i _ => l.length - (intOf i).toNat)
  case atStart => exact ⟨0, Nat.zero_le _, rfl, Lib.hid (fun j x h => by omega), I0, B0.out⟩
  case round =>
    obtain ⟨j, hj, rfl, HO, HI, hb⟩ := hrel
    by_cases hjl : j < l.length
    · obtain ⟨x, hx⟩ : ∃ x, l[j]? = some x := ⟨_, List.getElem?_eq_getElem hjl⟩
      obtain ⟨b, off, rfl, k0, q0, q1, q2, q3⟩ := HR.out j x hx
      have g0 := (hb.cell (p := ⟨b, off + j * 4, none⟩) k0).trans q0
      have g1 := (hb.cell (p := ⟨b, off + j * 4 + 1, none⟩) k0).trans q1
      have g2 := (hb.cell (p := ⟨b, off + j * 4 + 2, none⟩) k0).trans q2
      have g3 := (hb.cell (p := ⟨b, off + j * 4 + 3, none⟩) k0).trans q3
      obtain ⟨W, hW⟩ : ∃ W, W = wr.alloc (.cells #[.int .i64 x.f, .int .i64 x.v, .int .i64 x.m, .string x.d] 61) := ⟨_, rfl⟩
      have LW : Hid (Below w.heap.size w W) := Lib.hid (by rw [hW]; exact hb.alloc hb.size _)
      have IW : Hid (ImAt W w.heap.size n (some ⟨b, off, none⟩) l.length cap) := Lib.hid (by rw [hW]; exact HI.out.next (belowA _ _))
      have SW : Hid (SgAt W wr.heap.size x) := Lib.hid (by rw [hW]; exact sgAlloc _ _ _)
      have hlen : (l.take j).length = j := by rw [List.length_take]; omega
      have HX := Lib.hid hx
      have hcc : segC (freeOf (l.take j)) (runOf (l.take j)) x = 0 ∨ segC (freeOf (l.take j)) (runOf (l.take j)) x ≠ 0 := by omega
      obtain ⟨V, hV⟩ : ∃ V, imE (segC (freeOf (l.take j)) (runOf (l.take j)) x) = V := ⟨_, rfl⟩
      have C := Lib.hid (chkSegC x (some ⟨b, off, none⟩) cap (l.take j) W.drew (by omega) ((HR.out.take j).below (LW.out.trans (belowD W |>.mono LW.out.size))) (HO.out.take hj) (HD.out j x hx) V hV)
      rw [hlen] at C
      have HV := Lib.hid hV; have HCC := Lib.hid hcc; have HW := Lib.hid hW
      clear hlen hx q0 q1 q2 q3 k0 hV hcc hW
      go_wp2_with fail
      clear g0 g1 g2 g3
      rw [← HW.out]
      have K0 : W.cell? ⟨w.heap.size, 1, none⟩ = some (.slice (some ⟨b, off, none⟩) l.length cap) ∧ W.cell? ⟨wr.heap.size, 0, none⟩ = some (.int .i64 x.f) ∧ W.cell? ⟨wr.heap.size, 1, none⟩ = some (.int .i64 x.v) ∧ W.cell? ⟨wr.heap.size, 2, none⟩ = some (.int .i64 x.m) ∧ W.cell? ⟨wr.heap.size, 3, none⟩ = some (.string x.d) := ⟨IW.out.2.2, SW.out.2.1, SW.out.2.2.1, SW.out.2.2.2.1, SW.out.2.2.2.2⟩
      have hjc : j ≤ cap := by omega
      have hjc2 : (j : Int) ≤ (cap : Int) := by omega
      clear HI HW
      go_region_held3 (fun w' => w'.cell? ⟨w.heap.size, 1, none⟩ = some (.slice (some ⟨b, off, none⟩) l.length cap) ∧ w'.cell? ⟨wr.heap.size, 0, none⟩ = some (.int .i64 x.f) ∧ w'.cell? ⟨wr.heap.size, 1, none⟩ = some (.int .i64 x.v) ∧ w'.cell? ⟨wr.heap.size, 2, none⟩ = some (.int .i64 x.m) ∧ w'.cell? ⟨wr.heap.size, 3, none⟩ = some (.string x.d)) (first | (with_reducible exact K0) | (with_reducible exact keep5 K0) | (with_reducible exact K1) | (with_reducible exact keep5 K1) | go_keep) (first | (go_at_call 73; (with_reducible refine Calls.mono (C.out) ?_); rintro e w2 ⟨rfl, b2⟩; have b3 : Below W.heap.size W w2 := (belowD W).trans b2; have I2 := Lib.hid (IW.out.next b3); have S2 := Lib.hid (SW.out.next b3); have L2 := Lib.hid (LW.out.trans (b3.mono LW.out.size)); have K1 : w2.cell? ⟨w.heap.size, 1, none⟩ = some (.slice (some ⟨b, off, none⟩) l.length cap) ∧ w2.cell? ⟨wr.heap.size, 0, none⟩ = some (.int .i64 x.f) ∧ w2.cell? ⟨wr.heap.size, 1, none⟩ = some (.int .i64 x.v) ∧ w2.cell? ⟨wr.heap.size, 2, none⟩ = some (.int .i64 x.m) ∧ w2.cell? ⟨wr.heap.size, 3, none⟩ = some (.string x.d) := ⟨I2.out.2.2, S2.out.2.1, S2.out.2.2.1, S2.out.2.2.2.1, S2.out.2.2.2.2⟩; clear b2 b3))
      clear K0 IW SW LW C
      rcases HCC.out with hz | hz
      · obtain rfl : V = .nilIface := by have := HV.out; rw [hz] at this; exact this.symm
        have HZ := Lib.hid hz
        clear hz K1
        go_wp2
        go_roundw
        case rel =>
          exact ⟨j + 1, by omega, by go_num, Lib.hid (okTo_step HO.out HX.out HZ.out), I2, L2.out⟩
        case measure => simp [intOf]; omega
      · obtain rfl : V = .iface 83 (.int .i64 (segC (freeOf (l.take j)) (runOf (l.take j)) x)) := by have := HV.out; unfold imE at this; rw [if_neg hz] at this; exact this.symm
        have HE := Lib.hid (chk_bad HC.out h4 HO.out HX.out hz)
        have HZ := Lib.hid hz
        clear hz K1
        generalize segC (freeOf (l.take j)) (runOf (l.take j)) x = sc at HE HZ ⊢
        go_wp2
        go_ret
        refine ⟨⟨_, rfl, .inr ⟨by rw [HE.out.2]; exact HZ.out, by rw [HE.out.1, HE.out.2]; rfl⟩⟩, L2.out⟩
    · obtain rfl : j = l.length := by omega
      have W0 := chk_end HC.out h4 (by omega) HO.out
      have i1 := HI.out.2.2; have i2 := HI.out.2.1
      obtain ⟨rfl, hw⟩ := W0
      rcases hw with ⟨hru, rfl⟩ | ⟨j, x, hf, hbc⟩
      · have C := Lib.hid (firstNo p cap l wr h4 (HR.out.below hb) (none_of hru))
        clear hru
        go_wp2_with fail
        refine (C.out).mono ?_
        rintro e w2 ⟨rfl, b2⟩
        go_wp2
        go_ret
        exact ⟨⟨_, rfl, .inl ⟨rfl, rfl⟩⟩, (hb.trans (b2.mono hb.size)).alloc (Nat.le_trans hb.size b2.size) _⟩
      · have C := Lib.hid (firstC p cap l wr h4 (HR.out.below hb) j x hf)
        have HB := Lib.hid hbc
        obtain ⟨a0, a1, a2, a3, _⟩ := okTo_at HO.out (Nat.le_refl _) (List.getElem?_eq_some_iff.1 hf.1).1 hf.1
        clear hf hbc
        go_wp2_with fail
        refine (C.out).mono ?_
        rintro e w2 ⟨rfl, b2⟩
        have L2 := hb.trans (b2.mono hb.size)
        obtain ⟨j0, j1, j2⟩ := HI.out.next b2
        clear C i1 i2 b2
        rcases HB.out with ⟨he, rfl⟩ | ⟨he, rfl⟩
        · rcases entNo2 he with t1 | ⟨t1, t2⟩
          · have D := Lib.hid (fun w => liesC false n x.v x.m (x.v + x.m) w (by rw [IntKind.wrap_i64]; omega) t1)
            clear he t1
            go_wp2_with fail
            refine (D.out _).mono ?_
            rintro e w3 ⟨rfl, rfl⟩
            go_wp2
            go_ret
            exact ⟨⟨_, rfl, .inl ⟨rfl, rfl⟩⟩, L2.alloc L2.size _⟩
          · have D := Lib.hid (fun w => liesC true n x.v x.m (x.v + x.m) w (by rw [IntKind.wrap_i64]; omega) t1)
            have t3 : (n % 32 != 0) = true := by
              have h := of_decide_eq_true t1
              rw [Int.tmod_eq_emod_of_nonneg (by omega)] at t2; exact t2
            have t4 := of_decide_eq_true t1
            clear he t1
            go_wp2_with fail
            refine (D.out _).mono ?_
            rintro e w3 ⟨rfl, rfl⟩
            go_wp2
            go_ret
            exact ⟨⟨_, rfl, .inl ⟨rfl, rfl⟩⟩, L2.alloc L2.size _⟩
        · obtain ⟨t1, t2⟩ := entYes2 he
          have D := Lib.hid (fun w => liesC true n x.v x.m (x.v + x.m) w (by rw [IntKind.wrap_i64]; omega) t1)
          have t3 : n % 32 = 0 := by
            have h := of_decide_eq_true t1
            rw [Int.tmod_eq_emod_of_nonneg (by omega)] at t2; exact t2
          have t4 := of_decide_eq_true t1
          clear he t1 t2
          go_wp2_with fail
          refine (D.out _).mono ?_
          rintro e w3 ⟨rfl, rfl⟩
          go_wp2
          go_ret
          exact ⟨⟨_, rfl, .inl ⟨rfl, rfl⟩⟩, L2.alloc L2.size _⟩
end Go.Proofs.YtcchcinnjahghaaDoor
