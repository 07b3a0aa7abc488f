/-
  What spec.l02Add does: the memory with one page more, of noughts, in new memory, changing nothing that was there; conditions: those in each head.
-/
import Derived.Test.YtbkgmpkednkbcaaGreatDoorWalkAddS
import Derived.Test.YtbkgmpkednkbcaaGreatDoorLawWrite
namespace Go.Proofs.YtbkgmpkednkbcaaGreatDoor
open Go.RowKit Go.Sort
/-- what stands in the loop's worlds: the argument's box, the result's block, the new page -/
def AddI (w wr : World) (p : Option Addr) (cap : Nat) (l : List Pg) (x : Pg) : Prop :=
  Bx wr w.heap.size p cap l ∧ Cz wr (w.heap.size + 1) ∧ wr.heap[w.heap.size + 1 + 1 + 1 + 1]? = some (.cells #[.int .i64 x.b, .int .i64 x.p, .string x.d] 86 (0, 0)) ∧ Below w.heap.size w wr
/-- the block of the list that is put out -/
def QB (w : World) (q : Nat) : Prop := w.heap.size + 1 + 1 ≤ q ∧ q ≠ w.heap.size + 1 + 1 + 1 + 1
theorem AddI.big {w wr : World} {p : Option Addr} {cap : Nat} {l : List Pg} {x : Pg} (h : AddI w wr p cap l x) : w.heap.size + 1 + 1 + 1 + 1 < wr.heap.size := (Array.getElem?_eq_some_iff.1 h.2.2.1).1
theorem base_a {w wr : World} {p : Option Addr} {cap : Nat} {l : List Pg} {x : Pg} (o : Obj) (h : AddI w wr p cap l x) : w.heap.size + 1 + 1 ≤ (wr.alloc o).heap.size := by have := h.big; simp; omega
theorem AddI.newQ {w wr : World} {p : Option Addr} {cap : Nat} {l : List Pg} {x : Pg} (h : AddI w wr p cap l x) {q g n c : Nat} (hq : QB w q) (ha : (Value.slice (some ⟨q, 0, none⟩) n c).ownBlock = some g ∨ g = wr.heap.size + 1) : QB w g := by
  rcases ha with e | e
  · have : q = g := by simpa [Value.ownBlock] using e
    subst this; exact hq
  · have := h.big
    subst e
    unfold QB
    omega
theorem AddI.step {w wr w2 : World} {p : Option Addr} {cap : Nat} {l : List Pg} {x : Pg} {q n c : Nat} (h : AddI w wr p cap l x) (hp : Blk p l 0 w.heap.size) (o : Obj) (hg : (wr.alloc o).grownBy w2 (Value.slice (some ⟨q, 0, none⟩) n c).ownBlock) (h1 : w.heap.size + 1 + 1 ≤ q) (h2 : q ≠ w.heap.size + 1 + 1 + 1 + 1) : AddI w w2 p cap l x := by
  have hg' : (wr.alloc o).grownBy w2 (some q) := hg
  have hb := h.big
  obtain ⟨i1, i2, i3, i4⟩ := h
  have ib := below1 wr o
  refine ⟨(i1.next ib).grown hg' (fun e => by cases e; omega) (fun b o' e hl e2 => by have := (hp b o' e hl).2; cases e2; omega), ?_, ?_, ?_⟩
  · exact (hg'.block _ (by simp; omega) (fun e => by cases e; omega)).trans (i2.next ib)
  · exact (hg'.block _ (by simp; omega) (fun e => by cases e; exact h2 rfl)).trans ((ib.block _ hb).trans i3)
  · exact (i4.trans (ib.mono i4.size)).grown hg' (by have := i4.size; simp; omega) (fun k hk => by cases hk; omega)
set_option maxHeartbeats 4000000 in
set_option maxRecDepth 100000 in
theorem l02AddC (p : Option Addr) (cap p0 : Nat) (l : List Pg) (base perm : Int) (w : World) (hn : l.length ≤ 32) (hr : Rd w p l) (hp0 : PlaceAt l base p0) (hno : ∀ (k : Nat) x, l[k]? = some x → x.b ≠ base) :
    Calls Tryz.prog 63 #[.agg #[.slice p l.length cap], .int .i64 base, .int .i64 perm] w fun e w' => ∃ p' cap', e = .returned (.agg #[.slice p' (insL l p0 ⟨base, perm, zeros256⟩).length cap']) ∧ Owns w' w.heap.size p' cap' (insL l p0 ⟨base, perm, zeros256⟩) ∧ Below w.heap.size w w' := by
  obtain ⟨i0, hi, hz0, hz1, hz2⟩ := info_parts infoP
  have hmake := make256 (((w.alloc (.cells #[.slice p l.length cap] 34)).alloc (.cells #[.slice none 0 0] 34)).alloc (.cells #[] 86))
  have hconv := conv256 (w.heap.size + 1 + 1 + 1) ((((w.alloc (.cells #[.slice p l.length cap] 34)).alloc (.cells #[.slice none 0 0] 34)).alloc (.cells #[] 86)).alloc (.cells z256 5)) (by simpa using heap_alloc_new (((w.alloc (.cells #[.slice p l.length cap] 34)).alloc (.cells #[.slice none 0 0] 34)).alloc (.cells #[] 86)) (.cells z256 5))
  simp only [World.size_alloc] at hmake
  obtain ⟨V, hV⟩ : ∃ V, V = ((((w.alloc (.cells #[.slice p l.length cap] 34)).alloc (.cells #[.slice none 0 0] 34)).alloc (.cells #[] 86)).alloc (.cells z256 5)).alloc (.cells #[.int .i64 base, .int .i64 perm, .string zeros256] 86) := ⟨_, rfl⟩
  have HI0 : Hid (AddI w V p cap l ⟨base, perm, zeros256⟩) := Lib.hid (by
    rw [hV]
    refine ⟨((((Bx.new 34 hr).next (below1 _ _)).next (below1 _ _)).next (below1 _ _)).next (below1 _ _), ?_, ?_, by go_grown⟩
    · have z : Cz ((w.alloc (.cells #[.slice p l.length cap] 34)).alloc (.cells #[.slice none 0 0] 34)) (w.heap.size + 1) := head2 w _
      exact ((z.next (below1 _ _)).next (below1 _ _)).next (below1 _ _)
    · have := heap_alloc_new ((((w.alloc (.cells #[.slice p l.length cap] 34)).alloc (.cells #[.slice none 0 0] 34)).alloc (.cells #[] 86)).alloc (.cells z256 5)) (.cells #[.int .i64 base, .int .i64 perm, .string zeros256] 86)
      simpa using this)
  have HR0 : Hid (V.ownsRow (w.heap.size + 1 + 1) 86 3 (.slice (some ⟨w.heap.size + 1 + 1, 0, none⟩) 0 0) 0 (PV (outL l p0 0 ⟨base, perm, zeros256⟩))) := Lib.hid (by
    have := World.ownsRow_made (e := 86) (size := 3) (base := w.heap.size + 1 + 1) ((w.alloc (.cells #[.slice p l.length cap] 34)).alloc (.cells #[.slice none 0 0] 34)) #[] 0 (by simp) (Nat.zero_le _) rfl
    simp only [World.size_alloc] at this
    rw [hV, outL_lo (Nat.zero_le _)]
    exact (this.alloc _).alloc _)
  have HQ0 : Hid (QB w (w.heap.size + 1 + 1)) := Lib.hid ⟨Nat.le_refl _, by omega⟩
  have HP := Lib.hid (rd_blk hr); have HV := Lib.hid hV; have HN := Lib.hid hno; have HP0 := Lib.hid hp0
  have hp0l := hp0.1
  clear hr hV hno hp0
  go_enter Tryz.func63, Tryz.ntmps63
  go_wp2
  rw [← HV.out]
  go_loopw [7, 8, 10] (fun v d i wr => ∃ (k q n c : Nat) (b : Bool), k ≤ l.length ∧ i = .int .i64 k ∧ d = .bool b ∧ Hid (b = decide (p0 < k)) ∧ v = .slice (some ⟨q, 0, none⟩) n c ∧ Hid (n = (outL l p0 k ⟨base, perm, zeros256⟩).length) ∧ n ≤ 33 ∧ Hid (wr.ownsRow (w.heap.size + 1 + 1) 86 3 (.slice (some ⟨q, 0, none⟩) n c) n (PV (outL l p0 k ⟨base, perm, zeros256⟩))) ∧ Hid (QB w q) ∧ Hid (AddI w wr p cap l ⟨base, perm, zeros256⟩)) (fun _ _ i _ => l.length - (intOf i).toNat)
  case atStart => exact ⟨0, _, 0, 0, false, by omega, rfl, rfl, Lib.hid (by simp), rfl, Lib.hid (by rw [outL_lo (Nat.zero_le _)]; rfl), by omega, HR0, HQ0, HI0⟩
  case round =>
    obtain ⟨k, q, n, c, b, hk, rfl, rfl, HD, rfl, HL, hn33, OWa, HQa, HIa⟩ := hrel
    have hbx := HIa.out.1.2.1
    have hbs := HIa.out.1.1
    by_cases hlt : k < l.length
    · obtain ⟨y, hy⟩ : ∃ y, l[k]? = some y := ⟨_, List.getElem?_eq_getElem hlt⟩
      obtain ⟨ab, ao, rfl, a0, a1, a2, a3⟩ := HIa.out.1.2.2 k y hy
      have hyb := HN.out k y hy
      have hyp := HP0.out.2 k y hy
      have HY := Lib.hid hy
      have hlt2 : (k : Int) < l.length := by omega
      clear hy
      rcases Nat.lt_trichotomy k p0 with hkp | hkp | hkp
      · have hnl := HL.out
        have hlen := outL_len (l := l) (p := p0) (k := k) (x := ⟨base, perm, zeros256⟩) (by omega)
        have hlen2 := outL_len (l := l) (p := p0) (k := k + 1) (x := ⟨base, perm, zeros256⟩) (by omega)
        have HLn : Hid (n + 1 = (outL l p0 (k + 1) ⟨base, perm, zeros256⟩).length) := Lib.hid (by rw [hlen2, hnl, hlen]; split <;> split <;> omega)
        have hn2 : n + 1 ≤ 33 := by rw [HLn.out, hlen2]; split <;> omega
        have HE : Hid (PV (outL l p0 k ⟨base, perm, zeros256⟩) ++ pv y = PV (outL l p0 (k + 1) ⟨base, perm, zeros256⟩)) := Lib.hid (by rw [← outL_next HY.out hkp, PV_app]; simp [PV])
        obtain rfl : b = false := by rw [HD.out]; exact decide_eq_false (by omega)
        have hcm : decide (base < y.b) = false := decide_eq_false (by have := hyp.2 hkp; omega)
        have HD2 : Hid (false = decide (p0 < k + 1)) := Lib.hid (by simp; omega)
        clear hnl hlen hlen2 hyp hyb
        go_wp2_with (at_builtin; (refine wpList_append_lies _ rfl _ _ _ rfl (w.heap.size + 1 + 1) 86 i0 _ 3 32 Tryz.underlying32 hi hz0 hz1 hz2 rfl (by decide) (.slice (some ⟨q, 0, none⟩) (n) c) (n) (PV (outL l p0 k ⟨base, perm, zeros256⟩)) rfl (OWa.out.alloc _) ⟨wr.heap.size, 0, none⟩ 1 1 (pv y) rfl rfl (newsPg _ y _) (pv_one _) (by omega) (by unfold maxLen; omega) (by omega) (base_a _ HIa.out) (wr.heap.size + 1) (by simp) ?_; intro g2 c2 w2 o2 gr2 at2 lt2; have A2 := Lib.hid (HIa.out.step HP.out _ gr2 HQa.out.1 HQa.out.2); have Q2 := Lib.hid (HIa.out.newQ HQa.out at2); have R2 := Lib.hid o2; clear o2 gr2 at2 lt2))
        have RE : Hid (w2.ownsRow (w.heap.size + 1 + 1) 86 3 (.slice (some ⟨g2, 0, none⟩) (n + 1) c2) (n + 1) (PV (outL l p0 (k + 1) ⟨base, perm, zeros256⟩))) := Lib.hid (by rw [← HE.out]; exact R2.out)
        go_roundw
        case rel => exact ⟨k + 1, g2, n + 1, c2, false, by omega, by go_num, rfl, HD2, rfl, HLn, hn2, RE, Q2, A2⟩
        case measure => simp [intOf]; omega
      · subst hkp
        have hnl := HL.out
        have hlen := outL_len (l := l) (p := k) (k := k) (x := (⟨base, perm, zeros256⟩ : Pg)) (by omega)
        have hlen2 := outL_len (l := l) (p := k) (k := k + 1) (x := (⟨base, perm, zeros256⟩ : Pg)) (by omega)
        have HLn : Hid (n + 1 + 1 = (outL l k (k + 1) (⟨base, perm, zeros256⟩ : Pg)).length) := Lib.hid (by rw [hlen2, hnl, hlen, if_pos (Nat.le_refl _), if_neg (by omega)])
        have hn2 : n + 1 + 1 ≤ 33 := by rw [HLn.out, hlen2]; split <;> omega
        have HE1 : Hid (PV (outL l k k (⟨base, perm, zeros256⟩ : Pg)) ++ pv (⟨base, perm, zeros256⟩ : Pg) = PV (outL l k k (⟨base, perm, zeros256⟩ : Pg) ++ [(⟨base, perm, zeros256⟩ : Pg)])) := Lib.hid (by rw [PV_app]; simp [PV])
        have HE : Hid (PV (outL l k k (⟨base, perm, zeros256⟩ : Pg) ++ [(⟨base, perm, zeros256⟩ : Pg)]) ++ pv y = PV (outL l k (k + 1) (⟨base, perm, zeros256⟩ : Pg))) := Lib.hid (by rw [← outL_at HY.out, PV_app (outL l k k (⟨base, perm, zeros256⟩ : Pg) ++ [(⟨base, perm, zeros256⟩ : Pg)])]; simp [PV])
        obtain rfl : b = false := by rw [HD.out]; exact decide_eq_false (by omega)
        have hcm : decide (base < y.b) = true := decide_eq_true (by have := fun h => (hyp.1 h); omega)
        have HD2 : Hid (true = decide (k < k + 1)) := Lib.hid (by simp)
        have hz := HIa.out.2.2.1
        have z0 : wr.cell? ⟨w.heap.size + 1 + 1 + 1 + 1, 0, none⟩ = some (.int .i64 base) := cell_of_row _ _ 0 _ _ (0, 0) hz
        have z1 : wr.cell? ⟨w.heap.size + 1 + 1 + 1 + 1, 1, none⟩ = some (.int .i64 perm) := cell_of_row _ _ 1 _ _ (0, 0) hz
        have z2 : wr.cell? ⟨w.heap.size + 1 + 1 + 1 + 1, 2, none⟩ = some (.string zeros256) := cell_of_row _ _ 2 _ _ (0, 0) hz
        clear hnl hlen hlen2 hyp hyb hz
        go_wp2_with (at_builtin; first | (refine wpList_append_lies _ rfl _ _ _ rfl (w.heap.size + 1 + 1) 86 i0 _ 3 32 Tryz.underlying32 hi hz0 hz1 hz2 rfl (by decide) (.slice (some ⟨g2, 0, none⟩) (n + 1) c2) (n + 1) (PV (outL l k k ⟨base, perm, zeros256⟩ ++ [⟨base, perm, zeros256⟩])) rfl (R2b.out.alloc _) ⟨w2.heap.size, 0, none⟩ 1 1 (pv y) rfl rfl (newsPg _ y _) (pv_one _) (by omega) (by unfold maxLen; omega) (by omega) (base_a _ A2.out) (w2.heap.size + 1) (by simp) ?_; intro g3 c3 w3 o3 gr3 at3 lt3; have A3 := Lib.hid (A2.out.step HP.out _ gr3 Q2.out.1 Q2.out.2); have Q3 := Lib.hid (A2.out.newQ Q2.out at3); have R3 := Lib.hid o3; clear o3 gr3 at3 lt3) | ((refine wpList_append_lies _ rfl _ _ _ rfl (w.heap.size + 1 + 1) 86 i0 _ 3 32 Tryz.underlying32 hi hz0 hz1 hz2 rfl (by decide) (.slice (some ⟨q, 0, none⟩) (n) c) (n) (PV (outL l k k ⟨base, perm, zeros256⟩)) rfl (OWa.out.alloc _) ⟨wr.heap.size, 0, none⟩ 1 1 (pv (⟨base, perm, zeros256⟩ : Pg)) rfl rfl (newsPg _ (⟨base, perm, zeros256⟩ : Pg) _) (pv_one _) (by omega) (by unfold maxLen; omega) (by omega) (base_a _ HIa.out) (wr.heap.size + 1) (by simp) ?_; intro g2 c2 w2 o2 gr2 at2 lt2; have A2 := Lib.hid (HIa.out.step HP.out _ gr2 HQa.out.1 HQa.out.2); have Q2 := Lib.hid (HIa.out.newQ HQa.out at2); have R2 := Lib.hid o2; clear o2 gr2 at2 lt2); have R2b : Hid (w2.ownsRow (w.heap.size + 1 + 1) 86 3 (.slice (some ⟨g2, 0, none⟩) (n + 1) c2) (n + 1) (PV (outL l k k (⟨base, perm, zeros256⟩ : Pg) ++ [(⟨base, perm, zeros256⟩ : Pg)]))) := Lib.hid (by rw [← HE1.out]; exact R2.out); have hbx2 := A2.out.1.2.1; have hbs2 := A2.out.1.1; obtain ⟨ab2, ao2, e2, a02, a12, a22, a32⟩ := A2.out.1.2.2 k y HY.out; cases e2))
        have RE : Hid (w3.ownsRow (w.heap.size + 1 + 1) 86 3 (.slice (some ⟨g3, 0, none⟩) (n + 1 + 1) c3) (n + 1 + 1) (PV (outL l k (k + 1) (⟨base, perm, zeros256⟩ : Pg)))) := Lib.hid (by rw [← HE.out]; exact R3.out)
        go_roundw
        case rel => exact ⟨k + 1, g3, n + 1 + 1, c3, true, by omega, by go_num, rfl, HD2, rfl, HLn, hn2, RE, Q3, A3⟩
        case measure => simp [intOf]; omega
      · have hnl := HL.out
        have hlen := outL_len (l := l) (p := p0) (k := k) (x := ⟨base, perm, zeros256⟩) (by omega)
        have hlen2 := outL_len (l := l) (p := p0) (k := k + 1) (x := ⟨base, perm, zeros256⟩) (by omega)
        have HLn : Hid (n + 1 = (outL l p0 (k + 1) ⟨base, perm, zeros256⟩).length) := Lib.hid (by rw [hlen2, hnl, hlen]; split <;> split <;> omega)
        have hn2 : n + 1 ≤ 33 := by rw [HLn.out, hlen2]; split <;> omega
        have HE : Hid (PV (outL l p0 k ⟨base, perm, zeros256⟩) ++ pv y = PV (outL l p0 (k + 1) ⟨base, perm, zeros256⟩)) := Lib.hid (by rw [← outL_more HY.out hkp, PV_app]; simp [PV])
        obtain rfl : b = true := by rw [HD.out]; exact decide_eq_true (by omega)
        have HD2 : Hid (true = decide (p0 < k + 1)) := Lib.hid (by simp; omega)
        clear hnl hlen hlen2 hyp hyb
        go_wp2_with (at_builtin; (refine wpList_append_lies _ rfl _ _ _ rfl (w.heap.size + 1 + 1) 86 i0 _ 3 32 Tryz.underlying32 hi hz0 hz1 hz2 rfl (by decide) (.slice (some ⟨q, 0, none⟩) (n) c) (n) (PV (outL l p0 k ⟨base, perm, zeros256⟩)) rfl (OWa.out.alloc _) ⟨wr.heap.size, 0, none⟩ 1 1 (pv y) rfl rfl (newsPg _ y _) (pv_one _) (by omega) (by unfold maxLen; omega) (by omega) (base_a _ HIa.out) (wr.heap.size + 1) (by simp) ?_; intro g2 c2 w2 o2 gr2 at2 lt2; have A2 := Lib.hid (HIa.out.step HP.out _ gr2 HQa.out.1 HQa.out.2); have Q2 := Lib.hid (HIa.out.newQ HQa.out at2); have R2 := Lib.hid o2; clear o2 gr2 at2 lt2))
        have RE : Hid (w2.ownsRow (w.heap.size + 1 + 1) 86 3 (.slice (some ⟨g2, 0, none⟩) (n + 1) c2) (n + 1) (PV (outL l p0 (k + 1) ⟨base, perm, zeros256⟩))) := Lib.hid (by rw [← HE.out]; exact R2.out)
        go_roundw
        case rel => exact ⟨k + 1, g2, n + 1, c2, true, by omega, by go_num, rfl, HD2, rfl, HLn, hn2, RE, Q2, A2⟩
        case measure => simp [intOf]; omega
    · obtain rfl : k = l.length := by omega
      by_cases hpe : p0 = l.length
      · subst hpe
        have hz := HIa.out.2.2.1
        have z0 : wr.cell? ⟨w.heap.size + 1 + 1 + 1 + 1, 0, none⟩ = some (.int .i64 base) := cell_of_row _ _ 0 _ _ (0, 0) hz
        have z1 : wr.cell? ⟨w.heap.size + 1 + 1 + 1 + 1, 1, none⟩ = some (.int .i64 perm) := cell_of_row _ _ 1 _ _ (0, 0) hz
        have z2 : wr.cell? ⟨w.heap.size + 1 + 1 + 1 + 1, 2, none⟩ = some (.string zeros256) := cell_of_row _ _ 2 _ _ (0, 0) hz
        obtain rfl : b = false := by rw [HD.out]; exact decide_eq_false (by omega)
        have hn1 : n ≤ 32 := by rw [HL.out, outL_lo (Nat.le_refl _), List.length_take]; omega
        have HLn : Hid (n + 1 = (insL l l.length (⟨base, perm, zeros256⟩ : Pg)).length) := Lib.hid (by rw [insL_len (Nat.le_refl _), HL.out, outL_lo (Nat.le_refl _), List.length_take, Nat.min_self])
        have HE : Hid (PV (outL l l.length l.length (⟨base, perm, zeros256⟩ : Pg)) ++ pv (⟨base, perm, zeros256⟩ : Pg) = PV (insL l l.length (⟨base, perm, zeros256⟩ : Pg))) := Lib.hid (by rw [← outL_end2, PV_app]; simp [PV])
        clear hz
        go_wp2_with (at_builtin; (refine wpList_append_lies _ rfl _ _ _ rfl (w.heap.size + 1 + 1) 86 i0 _ 3 32 Tryz.underlying32 hi hz0 hz1 hz2 rfl (by decide) (.slice (some ⟨q, 0, none⟩) (n) c) (n) (PV (outL l l.length l.length (⟨base, perm, zeros256⟩ : Pg))) rfl (OWa.out.alloc _) ⟨wr.heap.size, 0, none⟩ 1 1 (pv (⟨base, perm, zeros256⟩ : Pg)) rfl rfl (newsPg _ (⟨base, perm, zeros256⟩ : Pg) _) (pv_one _) (by omega) (by unfold maxLen; omega) (by omega) (base_a _ HIa.out) (wr.heap.size + 1) (by simp) ?_; intro g2 c2 w2 o2 gr2 at2 lt2; have A2 := Lib.hid (HIa.out.step HP.out _ gr2 HQa.out.1 HQa.out.2); have R2 := Lib.hid o2; clear o2 gr2 at2 lt2; have zz := A2.out.2.1; have c1 := cell_of_one zz; have f1 := free_of_one zz; clear zz))
        have r1 (v : Value) := cellSame c1 v
        refine bodyPost_ret (v := .agg #[.slice (some ⟨g2, 0, none⟩) (n + 1) c2]) (by simp [results, Tryz.results63, go_sem, r1]) rfl ?_
        have ho : Owns w2 (w.heap.size + 1 + 1) (some ⟨g2, 0, none⟩) c2 (insL l l.length (⟨base, perm, zeros256⟩ : Pg)) := by unfold Owns; rw [← HLn.out, ← HE.out]; exact R2.out
        exact ⟨_, _, by rw [← HLn.out], Joins.ownsRow_le (ho.other (b := w.heap.size + 1) (by omega) 0 _) (by omega), A2.out.2.2.2.setCell (by simp) _⟩
      · have hpl : p0 < l.length := by omega
        obtain rfl : b = true := by rw [HD.out]; exact decide_eq_true hpl
        have HLn : Hid (n = (insL l p0 (⟨base, perm, zeros256⟩ : Pg)).length) := Lib.hid (by rw [HL.out, outL_end hpl])
        have zz := HIa.out.2.1
        have c1 := cell_of_one zz; have f1 := free_of_one zz
        clear zz
        go_wp2
        have r1 (v : Value) := cellSame c1 v
        refine bodyPost_ret (v := .agg #[.slice (some ⟨q, 0, none⟩) n c]) (by simp [results, Tryz.results63, go_sem, r1]) rfl ?_
        have ho : Owns wr (w.heap.size + 1 + 1) (some ⟨q, 0, none⟩) c (insL l p0 (⟨base, perm, zeros256⟩ : Pg)) := by unfold Owns; rw [← HLn.out, ← outL_end hpl]; exact OWa.out
        exact ⟨_, _, by rw [← HLn.out], Joins.ownsRow_le (ho.other (b := w.heap.size + 1) (by omega) 0 _) (by omega), HIa.out.2.2.2.setCell (by simp) _⟩
end Go.Proofs.YtbkgmpkednkbcaaGreatDoor
