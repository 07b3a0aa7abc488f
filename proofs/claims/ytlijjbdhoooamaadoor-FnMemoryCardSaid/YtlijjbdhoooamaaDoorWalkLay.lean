/-
  What the program's put and lay do: bytes are laid into pages that the call owns, and a code tells why not; conditions: those in each head.
-/
import Derived.Test.YtlijjbdhoooamaaDoorMathLay
import Derived.Test.YtlijjbdhoooamaaDoorWalkGet
import Derived.BigRegion
namespace Go.Proofs.YtlijjbdhoooamaaDoor
open Go.RowKit Go.Sort
set_option maxHeartbeats 1000000 in
theorem putC (x : Pg) (a : Int) (t : ByteArray) (g o : Nat) (w : World) (c0 : w.cell? ⟨g, o, none⟩ = some (.int .i64 x.b)) (c2 : w.cell? ⟨g, o + 2, none⟩ = some (.string x.d)) (e2 : w.frozen? ⟨g, o + 2, none⟩ = false) (hs : x.d.size = 256) (h1 : x.b ≤ a) (h2 : a < x.b + 256) (ht : t.size ≤ 9223372036854775807) :
    Calls Tryd.prog 43 #[.pointer (some ⟨g, o, none⟩), .int .i64 a, .string t] w fun e w' => e = .returned (.int .i64 (much x a t)) ∧ w' = (w.setCell ⟨g, o + 2, none⟩ (.string (wrB x.d (a - x.b).toNat t (much x a t)))).drew := by
  have hm := mixed
  obtain ⟨k, hk⟩ : ∃ k : Nat, a - x.b = (k : Int) := ⟨(a - x.b).toNat, by omega⟩
  obtain ⟨n, hn⟩ : ∃ n : Nat, min (t.size : Int) (256 - (k : Int)) = (n : Int) := ⟨(min (t.size : Int) (256 - (k : Int))).toNat, by omega⟩
  have hmu : much x a t = n := by unfold much; omega
  have hk0 : (a - x.b).toNat = k := by omega
  rw [hmu, hk0]
  have hn1 : n ≤ t.size := by omega
  have hkn : k + n ≤ 256 := by omega
  have ew : IntKind.i64.wrap ((k : Int) + (n : Int)) = ((k + n : Nat) : Int) := by rw [IntKind.wrap_i64]; omega
  go_enter Tryd.func43, Tryd.ntmps43
  go_wp2_with fail
  try simp only [hk, hn]
  have hk2 : k ≤ 256 := by omega
  have hn2 : (n : Int) ≤ (t.size : Int) := by omega
  have hk3 : (k : Int) ≤ 256 := by omega
  have hkn2 : ((k + n : Nat) : Int) ≤ 256 := by omega
  clear hk hn hmu hk0 h1 h2 ht
  go_region
  go_wp2
  go_ret
  refine ⟨rfl, ?_⟩
  unfold wrB
  rw [hs]
theorem PV_set2 {l : List Pg} {k : Nat} {x : Pg} (h : l[k]? = some x) (d : ByteArray) : (PV l).set (k * 3 + 2) (.string d) = PV (l.set k ⟨x.b, x.p, d⟩) := by
  rw [← PV_set]
  have h0 := PV_at h 0 (by omega)
  have h1 := PV_at h 1 (by omega)
  have hl := PV_len l
  have hk := (List.getElem?_eq_some_iff.1 h).1
  apply List.ext_getElem?
  intro j
  simp only [List.getElem?_set, List.length_set]
  by_cases e0 : k * 3 = j
  · subst e0
    rw [if_neg (by omega), if_neg (by omega), if_neg (by omega), if_pos rfl, if_pos (by omega)]
    simpa [pv] using h0
  · by_cases e1 : k * 3 + 1 = j
    · subst e1
      rw [if_neg (by omega), if_neg (by omega), if_pos rfl, if_pos (by omega)]
      simpa [pv] using h1
    · by_cases e2 : k * 3 + 2 = j
      · subst e2; simp
      · rw [if_neg e2, if_neg e2, if_neg e1, if_neg e0]
theorem cut_cut (t : ByteArray) (k n : Nat) : (t.extract k t.size).extract n (t.extract k t.size).size = t.extract (k + n) t.size := by
  apply ba_ext
  rw [cut_size, ba_cut, ba_cut, ba_cut, ← ba_len t, List.take_length, List.take_of_length_le (by simp), List.drop_drop]
theorem cut_all (t : ByteArray) : t.extract 0 t.size = t := by
  apply ba_ext
  rw [ba_cut, ← ba_len t, List.take_length, List.drop_zero]
/-- the table while bytes are laid: page by page -/
def LI (w wr : World) (B0 Bk c g : Nat) (q : Option Addr) (l : List Pg) (a perm : Int) (t : ByteArray) (k : Nat) (lc : List Pg) : Prop :=
  Shape l lc ∧ (∀ l' c', LayR perm lc (a + k) (t.extract k t.size) l' c' → LayR perm l a t l' c') ∧ TabOwn wr Bk q c g lc ∧ wr.heap[B0]? = some (.cells #[.slice q l.length c] 50 (0, 0)) ∧ Below Bk w wr ∧ (k = 0 ∨ (0 ≤ a ∧ a ≤ 65535))
theorem TabOwn.drew {W : World} {B : Nat} {q : Option Addr} {c g : Nat} {l : List Pg} (h : TabOwn W B q c g l) : TabOwn W.drew B q c g l := h.below (below_drew1 W)
theorem LI.step {w wr w1 : World} {B0 Bk c g : Nat} {q : Option Addr} {l : List Pg} {a perm : Int} {t : ByteArray} {k : Nat} {lc : List Pg} {j : Nat} {x : Pg} (h : LI w wr B0 Bk c g q l a perm t k lc) (hm : MemOk l) (hBk : Bk ≤ w.heap.size) (hk : k < t.size) (b1 : Below wr.heap.size wr w1) (hh : Has lc (a + k) j x) (hal : allowB x.p perm = true) :
    LI w ((w1.setCell ⟨g, j * 3 + 2, none⟩ (.string (wrB x.d (a + k - x.b).toNat (t.extract k t.size) (much x (a + k) (t.extract k t.size))))).drew) B0 Bk c g q l a perm t (k + much x (a + k) (t.extract k t.size)) (lc.set j ⟨x.b, x.p, wrB x.d (a + k - x.b).toNat (t.extract k t.size) (much x (a + k) (t.extract k t.size))⟩) := by
  obtain ⟨i1, i2, i3, i4, i5, i6⟩ := h
  have hmc := i1.ok hm
  have hcs := cut_size t k
  have hs := shape_set (t := t.extract k t.size) hmc hh (by omega)
  have hT := (i3.below b1)
  obtain ⟨pc, hpg⟩ := hT.pages hh.1
  have e3 := (b1.block _ (lt_of_block i4)).trans i4
  have hgw : g ≠ B0 := by
    rintro rfl
    obtain ⟨c2, f2, e2⟩ := Lib.ownsRow_kind hpg g rfl
    rw [e2] at e3
    simp at e3
  refine ⟨i1.trans hs, fun l' c' hl => i2 l' c' (.step _ _ _ j x l' c' (by omega) hh hal ?_), ?_, ?_, ?_, .inr ?_⟩
  · rw [cut_cut]
    rw [show a + (k : Int) + ((much x (a + k) (t.extract k t.size) : Nat) : Int) = a + ((k + much x (a + k) (t.extract k t.size) : Nat) : Int) by omega]
    exact hl
  · exact (hT.store hh.1 _ _ (by simp) (PV_set2 hh.1 _)).drew
  · exact (Below.heap_setCell _ _ _ _ (by simpa using Ne.symm hgw)).trans e3
  · have hb2 : Below Bk wr w1 := b1.mono (by have := i5.size; omega)
    exact ((i5.trans hb2).setCell (by have := (hpg.lt g rfl).1; simpa using this) _).trans (below_draw 1)
  · rcases i6 with rfl | i6
    · have := has_bounds hmc hh; simpa using this
    · exact i6
set_option maxHeartbeats 1000000 in
theorem layC (B0 Bk c g : Nat) (q : Option Addr) (l : List Pg) (a perm : Int) (t : ByteArray) (w : World) (hm : MemOk l) (hB : w.heap[B0]? = some (.cells #[.slice q l.length c] 50 (0, 0))) (hT : TabOwn w Bk q c g l) (hBk : Bk ≤ w.heap.size) (h1 : -9223372036854775808 ≤ a) (h2 : a ≤ 9223372036854775807) (ht : t.size ≤ 8192) :
    Calls Tryd.prog 20 #[.pointer (some ⟨B0, 0, none⟩), .int .i64 a, .string t, .int .i64 perm] w fun e w' => ∃ c' lc, e = .returned (.int .i64 c') ∧ Hid (∀ l', (c' = 0 → l' = lc) → LayR perm l a t l' c') ∧ Hid (Shape l lc ∧ TabOwn w' Bk q c g lc ∧ w'.heap[B0]? = some (.cells #[.slice q l.length c] 50 (0, 0))) ∧ Below Bk w w' := by
  have HM := Lib.hid hm
  have HI0 : Hid (LI w w B0 Bk c g q l a perm t 0 l) := Lib.hid ⟨Shape.refl l, fun l' c' h => by rw [cut_all] at h; simpa using h, hT, hB, Below.refl _ _, .inl rfl⟩
  clear hm hB hT
  go_enter Tryd.func20, Tryd.ntmps20
  go_wp2
  go_loopw [9] (fun i wr => ∃ k : Nat, k ≤ t.size ∧ i = .int .i64 k ∧ ∃ lc, Hid (LI w wr B0 Bk c g q l a perm t k lc)) (fun i _ => t.size - (intOf i).toNat)
  case atStart => exact ⟨0, Nat.zero_le _, rfl, l, HI0⟩
  case round =>
    obtain ⟨k, hk, rfl, lc, HI⟩ := hrel
    by_cases hlt : k < t.size
    · have hlt2 : (k : Int) < (t.size : Int) := by omega
      have hbd := HI.out.2.2.2.2.2
      have b1 : -9223372036854775808 ≤ a + (k : Int) := by omega
      have b2 : a + (k : Int) ≤ 9223372036854775807 := by omega
      have hlen : l.length = lc.length := HI.out.1.1
      have HMC := Lib.hid (HI.out.1.ok HM.out)
      have C := Lib.hid (reachC B0 c g q lc (a + k) perm wr HMC.out (by rw [← hlen]; exact cell_of_one HI.out.2.2.2.1) (lt_of_block HI.out.2.2.2.1) HI.out.2.2.1.tab b1 b2)
      clear hbd
      go_wp2_with fail
      refine (C.out).mono ?_
      rintro e w1 ⟨ho, hb⟩
      rcases ho with ⟨j, x, hh, hal, rfl⟩ | ⟨j, x, hh, hal, rfl⟩ | ⟨hno, rfl⟩
      · have HN := Lib.hid (LI.step HI.out HM.out hBk hlt hb hh hal)
        have hT := HI.out.2.2.1.below hb
        obtain ⟨h, e1, q0, q1, a0, a1, a2, a3⟩ := hT.tab j x hh.1
        obtain ⟨pc, hpg⟩ := hT.pages hh.1
        have hfz := hpg.frozenAt (j * 3 + 2)
        have hsz : x.d.size = 256 := (HMC.out.2.1 j x hh.1).2.2.2.2.2
        have hcs := cut_size t k
        have hmu := much_bounds (t := t.extract k t.size) hh (by omega)
        have C1 := Lib.hid (putC x (a + k) (t.extract k t.size) g (j * 3) w1 a1 a3 hfz hsz hh.2.1 hh.2.2 (by omega))
        obtain ⟨n, hn⟩ : ∃ n, much x (a + k) (t.extract k t.size) = n := ⟨_, rfl⟩
        rw [hn] at HN C1 hmu
        have hn1 : 0 < n := by omega
        have hn2 : k + n ≤ t.size := by omega
        have en : IntKind.i64.wrap ((k : Int) + (n : Int)) = ((k + n : Nat) : Int) := by rw [IntKind.wrap_i64]; omega
        clear hh hal e1 q0 q1 a0 a1 a2 a3 hb C hsz hpg hT hfz hcs hmu hn hlen
        go_wp2_with fail
        refine (C1.out).mono ?_
        rintro e w2 ⟨rfl, rfl⟩
        go_wp2
        go_roundw
        case rel => exact ⟨k + n, hn2, by go_num, _, HN⟩
        case measure => simp [intOf]; omega
      · have HN : Hid (∀ l', LayR perm l a t l' 14) := Lib.hid (fun l' => HI.out.2.1 l' 14 (.fail _ _ _ _ _ (by rw [cut_size]; omega) (.inl ⟨j, x, hh, hal, rfl⟩)))
        have HL := Lib.hid (HI.out.2.2.2.2.1.trans (hb.mono (by have := HI.out.2.2.2.2.1.size; omega)))
        have HT := Lib.hid (HI.out.2.2.1.below hb)
        have HBB := Lib.hid ((hb.block _ (lt_of_block HI.out.2.2.2.1)).trans HI.out.2.2.2.1)
        clear hh hal hb C
        go_wp2
        go_ret
        exact ⟨14, lc, rfl, Lib.hid (fun l' _ => HN.out l'), Lib.hid ⟨HI.out.1, HT.out, HBB.out⟩, HL.out⟩
      · have HN : Hid (∀ l', LayR perm l a t l' 13) := Lib.hid (fun l' => HI.out.2.1 l' 13 (.fail _ _ _ _ _ (by rw [cut_size]; omega) (.inr ⟨hno, rfl⟩)))
        have HL := Lib.hid (HI.out.2.2.2.2.1.trans (hb.mono (by have := HI.out.2.2.2.2.1.size; omega)))
        have HT := Lib.hid (HI.out.2.2.1.below hb)
        have HBB := Lib.hid ((hb.block _ (lt_of_block HI.out.2.2.2.1)).trans HI.out.2.2.2.1)
        clear hno hb C
        go_wp2
        go_ret
        exact ⟨13, lc, rfl, Lib.hid (fun l' _ => HN.out l'), Lib.hid ⟨HI.out.1, HT.out, HBB.out⟩, HL.out⟩
    · have e : k = t.size := by omega
      subst e
      go_wp2
      go_ret
      exact ⟨0, lc, rfl, Lib.hid (fun l' hl' => by rw [hl' rfl]; exact HI.out.2.1 lc 0 (.done _ _ _ (by rw [cut_size]; omega))), Lib.hid ⟨HI.out.1, HI.out.2.2.1, HI.out.2.2.2.1⟩, HI.out.2.2.2.2.1⟩
end Go.Proofs.YtlijjbdhoooamaaDoor
