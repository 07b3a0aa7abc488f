/-
  The texts of two right images are alike just if the images are; no condition but those in each head.
-/
import Derived.Test.YtcchcinnjahghaaDoorWalkTx
namespace Go.Proofs.YtcchcinnjahghaaDoor
open Go.RowKit
set_option linter.unusedVariables false
set_option linter.unusedSimpArgs false
theorem bapp {a b c d : ByteArray} (h : a ++ b = c ++ d) (hs : a.size = c.size) : a = c ∧ b = d := by
  have h1 : a.data.toList ++ b.data.toList = c.data.toList ++ d.data.toList := by
    have := congrArg (fun x : ByteArray => x.data.toList) h
    simpa using this
  have hs' : a.data.toList.length = c.data.toList.length := hs
  obtain ⟨e1, e2⟩ := List.append_inj h1 hs'
  exact ⟨ByteArray.ext (Array.ext' e1), ByteArray.ext (Array.ext' e2)⟩
theorem lit_bytes {v u : Int} {n : Nat} (h : litS v n = litS u n) (k : Nat) (hk : k < n) : (IntKind.u64.wrap v).toNat / 2 ^ (8 * k) % 256 = (IntKind.u64.wrap u).toNat / 2 ^ (8 * k) % 256 := by
  have h1 : litB (IntKind.u64.wrap v).toNat n = litB (IntKind.u64.wrap u).toNat n := by
    have := congrArg (fun x : ByteArray => x.data.toList) h
    simpa [litS] using this
  have h2 := congrArg (fun l => l[k]?) h1
  simp only [litB, List.getElem?_map, List.getElem?_range hk, Option.map_some, Option.some.injEq] at h2
  rw [← byteL_nat, ← byteL_nat, h2]
theorem wrapN (v : Int) : ((IntKind.u64.wrap v).toNat : Int) = v % 18446744073709551616 := by have := wrapUL v; omega
theorem i64min : IntKind.i64.min = -9223372036854775808 := by decide
theorem wf_bounds {v : Int} (h : (Lit.int .i64 v).wf = true) : -9223372036854775808 ≤ v ∧ v ≤ 9223372036854775807 := by
  have h1 : IntKind.i64.min ≤ v ∧ v ≤ 9223372036854775807 := by simpa [Lit.wf] using h
  rw [i64min] at h1; exact h1
theorem bytes8 {X Y : Nat} (hX : X < 18446744073709551616) (hY : Y < 18446744073709551616) (b0 : X % 256 = Y % 256) (b1 : X / 256 % 256 = Y / 256 % 256) (b2 : X / 65536 % 256 = Y / 65536 % 256) (b3 : X / 16777216 % 256 = Y / 16777216 % 256) (b4 : X / 4294967296 % 256 = Y / 4294967296 % 256) (b5 : X / 1099511627776 % 256 = Y / 1099511627776 % 256) (b6 : X / 281474976710656 % 256 = Y / 281474976710656 % 256) (b7 : X / 72057594037927936 % 256 = Y / 72057594037927936 % 256) : X = Y := by
  have a0 : X % 65536 = Y % 65536 := by omega
  have a1 : X % 16777216 = Y % 16777216 := by clear b0 b1 b3 b4 b5 b6 b7; omega
  have a2 : X % 4294967296 = Y % 4294967296 := by clear b0 b1 b2 b4 b5 b6 b7 a0; omega
  have a3 : X % 1099511627776 = Y % 1099511627776 := by clear b0 b1 b2 b3 b5 b6 b7 a0 a1; omega
  have a4 : X % 281474976710656 = Y % 281474976710656 := by clear b0 b1 b2 b3 b4 b6 b7 a0 a1 a2; omega
  have a5 : X % 72057594037927936 = Y % 72057594037927936 := by clear b0 b1 b2 b3 b4 b5 b7 a0 a1 a2 a3; omega
  clear b0 b1 b2 b3 b4 b5 b6 a0 a1 a2 a3 a4
  omega
theorem lit8_inj {v u : Int} (hv : (Lit.int .i64 v).wf = true) (hu : (Lit.int .i64 u).wf = true) (h : litS v 8 = litS u 8) : v = u := by
  have e : (IntKind.u64.wrap v).toNat = (IntKind.u64.wrap u).toNat := by
    have hX : (IntKind.u64.wrap v).toNat < 18446744073709551616 := by have := wrapN v; omega
    have hY : (IntKind.u64.wrap u).toNat < 18446744073709551616 := by have := wrapN u; omega
    have b := lit_bytes h
    generalize (IntKind.u64.wrap v).toNat = X at hX b ⊢
    generalize (IntKind.u64.wrap u).toNat = Y at hY b ⊢
    exact bytes8 hX hY (by simpa using b 0 (by decide)) (by simpa using b 1 (by decide)) (by simpa using b 2 (by decide)) (by simpa using b 3 (by decide)) (by simpa using b 4 (by decide)) (by simpa using b 5 (by decide)) (by simpa using b 6 (by decide)) (by simpa using b 7 (by decide))
  have w1 := wf_bounds hv
  have w2 := wf_bounds hu
  have x1 := wrapN v
  have x2 := wrapN u
  rw [e] at x1
  clear h e hv hu
  omega
theorem litn_inj {v u : Int} {n : Nat} (hn : 2 ≤ n) (hv : 0 ≤ v ∧ v ≤ 65535) (hu : 0 ≤ u ∧ u ≤ 65535) (h : litS v n = litS u n) : v = u := by
  have b0 : (IntKind.u64.wrap v).toNat % 256 = (IntKind.u64.wrap u).toNat % 256 := by simpa using lit_bytes h 0 (by omega)
  have b1 : (IntKind.u64.wrap v).toNat / 256 % 256 = (IntKind.u64.wrap u).toNat / 256 % 256 := by simpa using lit_bytes h 1 (by omega)
  have x1 := wrapN v
  have x2 := wrapN u
  generalize (IntKind.u64.wrap v).toNat = X at *
  generalize (IntKind.u64.wrap u).toNat = Y at *
  have y1 : (X : Int) = v := by clear b0 b1 h x2; omega
  have y2 : (Y : Int) = u := by clear b0 b1 h x1 y1; omega
  clear h x1 x2
  omega
theorem lit4_inj {v u : Int} (hv : 0 ≤ v ∧ v ≤ 65535) (hu : 0 ≤ u ∧ u ≤ 65535) (h : litS v 4 = litS u 4) : v = u := litn_inj (by decide) hv hu h
theorem lit2_inj {v u : Int} (hv : 0 ≤ v ∧ v ≤ 65535) (hu : 0 ≤ u ∧ u ≤ 65535) (h : litS v 2 = litS u 2) : v = u := litn_inj (by decide) hv hu h
theorem head_inj {n m a b : Int} (hn : (Lit.int .i64 n).wf = true) (hm : (Lit.int .i64 m).wf = true) (ha : 0 ≤ a ∧ a ≤ 4) (hb : 0 ≤ b ∧ b ≤ 4) (h : headT n a = headT m b) : n = m ∧ a = b := by
  unfold headT at h
  have h1 := (bapp h (by simp only [ByteArray.size_append, litS_size])).1
  have h2 := bapp h1 (by simp only [ByteArray.size_append, litS_size])
  have e1 := lit2_inj (by omega) (by omega) h2.2
  have h3 := (bapp h2.1 (by simp only [ByteArray.size_append, litS_size])).1
  have h4 := (bapp h3 (by simp only [ByteArray.size_append, litS_size])).1
  have h5 := (bapp h4 (by simp only [ByteArray.size_append, litS_size])).1
  have h6 := (bapp h5 (by simp only [ByteArray.size_append, litS_size])).1
  have h7 := (bapp h6 (by simp only [ByteArray.size_append, litS_size])).1
  have h8 := (bapp h7 (by simp only [ByteArray.size_append, litS_size])).2
  exact ⟨lit8_inj hn hm h8, e1⟩
/-- the bounds of a right segment -/
def SgB (x : Sg) : Prop := (0 ≤ x.f ∧ x.f ≤ 6) ∧ (0 ≤ x.v ∧ x.v ≤ 3583) ∧ (0 ≤ x.m ∧ x.m ≤ 3584) ∧ x.d.size ≤ 3584
theorem wf_small {v : Int} (h : 0 ≤ v ∧ v ≤ 65535) : (Lit.int .i64 v).wf = true := by
  have h1 : IntKind.i64.min ≤ v ∧ v ≤ 9223372036854775807 := by rw [i64min]; omega
  simpa [Lit.wf] using h1
theorem seg_inj {a : Int} {x y : Sg} (hx : SgB x) (hy : SgB y) (h : segT a x = segT a y) : x.f = y.f ∧ x.v = y.v ∧ x.m = y.m ∧ x.d.size = y.d.size := by
  obtain ⟨x1, x2, x3, x4⟩ := hx
  obtain ⟨y1, y2, y3, y4⟩ := hy
  unfold segT at h
  have h1 := (bapp h (by simp only [ByteArray.size_append, litS_size])).1
  have h2 := bapp h1 (by simp only [ByteArray.size_append, litS_size])
  have em := lit8_inj (wf_small (by omega)) (wf_small (by omega)) h2.2
  have h3 := bapp h2.1 (by simp only [ByteArray.size_append, litS_size])
  have es := lit8_inj (wf_small (by omega)) (wf_small (by omega)) h3.2
  have h4 := bapp h3.1 (by simp only [ByteArray.size_append, litS_size])
  have ev := lit8_inj (wf_small (by omega)) (wf_small (by omega)) h4.2
  have h5 := (bapp h4.1 (by simp only [ByteArray.size_append, litS_size])).1
  have h6 := (bapp h5 (by simp only [ByteArray.size_append, litS_size])).1
  have h7 := (bapp h6 (by simp only [litS_size])).2
  exact ⟨lit4_inj (by omega) (by omega) h7, ev, em, by omega⟩
theorem segs_inj : ∀ (l m : List Sg) (a : Int), l.length = m.length → (∀ x ∈ l, SgB x) → (∀ x ∈ m, SgB x) → segsT l a = segsT m a → dataT l = dataT m → l = m
  | [], [], _, _, _, _, _, _ => rfl
  | [], _ :: _, _, h, _, _, _, _ => by simp at h
  | _ :: _, [], _, h, _, _, _, _ => by simp at h
  | x :: l, y :: m, a, h, hx, hy, hs, hd => by
    simp only [segsT] at hs
    simp only [dataT] at hd
    obtain ⟨s1, s2⟩ := bapp hs (by rw [segT_size, segT_size])
    obtain ⟨e1, e2, e3, e4⟩ := seg_inj (hx x (by simp)) (hy y (by simp)) s1
    obtain ⟨d1, d2⟩ := bapp hd e4
    rw [← e4] at s2
    have := segs_inj l m _ (by simpa using h) (fun z hz => hx z (by simp [hz])) (fun z hz => hy z (by simp [hz])) s2 d2
    rw [this]
    cases x; cases y
    simp_all
theorem okB_all {n : Int} {l : List Sg} {k : Nat} (h : Chk n l k 0) : l.length ≤ 4 ∧ ∀ x ∈ l, SgB x := by
  have ho : l.length ≤ 4 ∧ OkTo l l.length := by
    generalize hc : (0 : Int) = c at h
    cases h with
    | none h => cases hc
    | many h => cases hc
    | seg _ y _ hk hy hb => exact absurd hc.symm hb
    | norun _ _ _ h => cases hc
    | entry j x _ _ hf he => cases hc
    | ok j x h4 ho hf he => exact ⟨h4, ho⟩
  refine ⟨ho.1, fun x hx => ?_⟩
  obtain ⟨j, hj⟩ := List.mem_iff_getElem?.1 hx
  have hjl := (List.getElem?_eq_some_iff.1 hj).1
  have b := okTo_at ho.2 (Nat.le_refl _) hjl hj
  have z := (seg_zero (ho.2 j x hjl hj)).1
  have f := f_yes z
  exact ⟨by omega, by omega, by omega, by omega⟩
/-- THE RESULT -/
theorem text_inj {n m : Int} {l r : List Sg} {k j : Nat} (h : Chk n l k 0) (g : Chk m r j 0) (hn : (Lit.int .i64 n).wf = true) (hm : (Lit.int .i64 m).wf = true) : textT n l = textT m r ↔ n = m ∧ l = r := by
  obtain ⟨l4, lb⟩ := okB_all h
  obtain ⟨r4, rb⟩ := okB_all g
  refine ⟨fun e => ?_, fun ⟨e1, e2⟩ => by rw [e1, e2]⟩
  unfold textT at e
  rw [ByteArray.append_assoc, ByteArray.append_assoc] at e
  obtain ⟨e1, e2⟩ := bapp e (by rw [headT_size, headT_size])
  obtain ⟨en, el⟩ := head_inj hn hm (by omega) (by omega) e1
  have hl : l.length = r.length := by omega
  rw [el] at e2
  obtain ⟨e3, e4⟩ := bapp e2 (by rw [segsT_size, segsT_size, hl])
  exact ⟨en, segs_inj l r _ hl lb rb e3 e4⟩
end Go.Proofs.YtcchcinnjahghaaDoor
