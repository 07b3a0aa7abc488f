/-
  What spec.l02Get does: bytes from an address on that all have pages, changing nothing that was there; conditions: those in each head.
  What impl.GetBytes and spec.GetBytes do: bytes from an address on, whatever their pages allow, or a code, changing nothing that was there; conditions: those in each head.
-/
import Derived.Test.YtbkgmpkednkbcaaGreatDoorWalkFault
import Derived.Deep.RegionHeld3
import Derived.Test.YtbkgmpkednkbcaaGreatDoorOpenMem
namespace Go.Proofs.YtbkgmpkednkbcaaGreatDoor
open Go.RowKit Go.Sort
theorem byte0 {l : List Pg} {a perm : Int} {v : UInt8} (h : ByteAt l perm a v) : ByteAt l 0 a v := by
  obtain ⟨k, x, h1, _, h3⟩ := h
  exact ⟨k, x, h1, allow0 _, h3⟩
theorem nat_byte {d : ByteArray} {i : Nat} {v : UInt8} (h : d.data.toList[i]? = some v) (hi : i < d.size) : d[i]'hi = v := by
  have h2 : d.data.toList[i]? = some (d[i]'hi) := by
    rw [Array.getElem?_toList]
    show d.data[i]? = _
    rw [Array.getElem?_eq_getElem]
    rfl
  rw [h] at h2; cases h2; rfl
section
variable {w : World} {b off k : Nat} {l : List Pg} {x : Pg} (h : Rd w (some ⟨b, off, none⟩) l) (hx : l[k]? = some x)
include h hx
theorem Rd.at0 : w.cell? ⟨b, off + k * 3, none⟩ = some (.int .i64 x.b) := by
  obtain ⟨b', o', e, _, h0, _, _⟩ := h k x hx
  cases e; exact h0
theorem Rd.at1 : w.cell? ⟨b, off + k * 3 + 1, none⟩ = some (.int .i64 x.p) := by
  obtain ⟨b', o', e, _, _, h0, _⟩ := h k x hx
  cases e; exact h0
theorem Rd.at2 : w.cell? ⟨b, off + k * 3 + 2, none⟩ = some (.string x.d) := by
  obtain ⟨b', o', e, _, _, _, h0⟩ := h k x hx
  cases e; exact h0
theorem Rd.lt : b < w.heap.size := by
  obtain ⟨b', o', e, h0, _, _, _⟩ := h k x hx
  cases e; exact h0
end
theorem snoc_bytes {l : List Pg} {a : Int} {T : List UInt8} {k : Nat} {u : UInt8} (h : ∀ (i : Nat) v, T[i]? = some v → ByteAt l 0 (a + i) v) (hk : T.length = k) (hu : ByteAt l 0 (a + k) u) : ∀ (i : Nat) v, (T ++ [u])[i]? = some v → ByteAt l 0 (a + i) v := by
  intro i v hv
  by_cases hi : i < T.length
  · rw [List.getElem?_append_left hi] at hv
    exact h i v hv
  · have hl := (List.getElem?_eq_some_iff.1 hv).1
    simp at hl
    obtain rfl : i = T.length := by omega
    simp at hv
    subst hv
    rw [hk]; exact hu
theorem keepD {w : World} {a1 a2 a3 a4 : Addr} {v1 v2 v3 v4 : Option Value} (h : w.cell? a1 = v1 ∧ w.cell? a2 = v2 ∧ w.cell? a3 = v3 ∧ w.cell? a4 = v4) : w.drew.cell? a1 = v1 ∧ w.drew.cell? a2 = v2 ∧ w.drew.cell? a3 = v3 ∧ w.drew.cell? a4 = v4 := h
theorem keep3 {w : World} {b g i : Nat} {v v0 v1 v2 : Value} (hne : b ≠ g) (h : w.cell? ⟨b, i, none⟩ = some v) : (((w.setCell ⟨g, 0, none⟩ v0).setCell ⟨g, 1, none⟩ v1).setCell ⟨g, 2, none⟩ v2).cell? ⟨b, i, none⟩ = some v := by
  have f (j : Nat) : (⟨g, j, none⟩ : Addr) ≠ ⟨b, i, none⟩ := fun e => hne (by cases e; rfl)
  rw [cellOther (f 2), cellOther (f 1), cellOther (f 0)]; exact h
theorem keepA {w : World} {b i : Nat} {o : Obj} {v : Value} (h : b < w.heap.size) (hc : w.cell? ⟨b, i, none⟩ = some v) : (w.alloc o).drew.cell? ⟨b, i, none⟩ = some v :=
  (World.cell?_of_block (w := w) (w' := (w.alloc o).drew) (Below.heap_alloc _ _ _ h)).trans hc
theorem keepB {w : World} {b i : Nat} {o : Obj} {v : Value} (h : b < w.heap.size) (hc : w.cell? ⟨b, i, none⟩ = some v) : (w.alloc o).cell? ⟨b, i, none⟩ = some v :=
  (World.cell?_of_block (w := w) (w' := w.alloc o) (Below.heap_alloc _ _ _ h)).trans hc
section
variable {wr w1 : World} {t : TypeId} (h : Below (wr.alloc (.cells #[.int .i64 0, .int .i64 0, .string ⟨#[]⟩] t)).drew.heap.size (wr.alloc (.cells #[.int .i64 0, .int .i64 0, .string ⟨#[]⟩] t)).drew w1)
include h
theorem pbk : w1.heap[wr.heap.size]? = some (.cells #[.int .i64 0, .int .i64 0, .string ⟨#[]⟩] t (0, 0)) := (h.block _ (by simp)).trans (heap_alloc_new wr _)
theorem pb0 : w1.cell? ⟨wr.heap.size, 0, none⟩ = some (.int .i64 0) := cell_of_row w1 _ 0 _ _ _ (pbk h)
theorem pb1 : w1.cell? ⟨wr.heap.size, 1, none⟩ = some (.int .i64 0) := cell_of_row w1 _ 1 _ _ _ (pbk h)
theorem pb2 : w1.cell? ⟨wr.heap.size, 2, none⟩ = some (.string ⟨#[]⟩) := cell_of_row w1 _ 2 _ _ _ (pbk h)
theorem pbf (i : Nat) : w1.frozen? ⟨wr.heap.size, i, none⟩ = false := by simp [World.frozen?, pbk h]
end
set_option maxHeartbeats 1000000 in
set_option maxRecDepth 100000 in
theorem getBS (p : Option Addr) (cap : Nat) (l : List Pg) (a : Int) (n : Nat) (w : World) (hm : MemOk l) (hr : Rd w p l) (hn : n ≤ 8192) (hb : ∀ i : Nat, i < n → ∃ v, ByteAt l 0 (a + i) v) :
    Calls Tryz.prog 61 #[.agg #[.slice p l.length cap], .int .i64 a, .int .i64 n] w fun e w' => ∃ T : List UInt8, e = .returned (.string ⟨T.toArray⟩) ∧ Hid (T.length = n ∧ ∀ (i : Nat) v, T[i]? = some v → ByteAt l 0 (a + i) v) ∧ Below w.heap.size w w' := by
  obtain ⟨i0, hi, hz0, hz1, hz2⟩ := info_parts infoB
  have hmx := mixed
  obtain ⟨W, hW⟩ : ∃ W, W = w.alloc (.cells #[.slice p l.length cap] 34) := ⟨_, rfl⟩
  have L0 : Hid (Below w.heap.size w W) := Lib.hid (by rw [hW]; exact below1 w _)
  have A0 : Hid (Bx W w.heap.size p cap l) := Lib.hid (by rw [hW]; exact Bx.new _ hr)
  have hws : W.heap.size = w.heap.size + 1 := by rw [hW]; simp
  have HWS := Lib.hid hws
  clear hws
  have HW := Lib.hid hW; have HM := Lib.hid hm; have HB := Lib.hid hb
  clear hr hm hW hb
  go_enter Tryz.func61, Tryz.ntmps61
  go_wp2
  rw [← HW.out]
  go_loopw [7, 8] (fun s i wr => ∃ (k g cp : Nat) (T : List UInt8), k ≤ n ∧ i = .int .i64 k ∧ s = .slice (some ⟨g, 0, none⟩) k cp ∧ Hid (wr.ownsRow W.heap.size 5 1 (.slice (some ⟨g, 0, none⟩) k cp) k (BV T)) ∧ Hid (∀ (i : Nat) v, T[i]? = some v → ByteAt l 0 (a + i) v) ∧ Hid (Below W.heap.size W wr)) (fun _ i _ => n - (intOf i).toNat)
  case atStart => exact ⟨0, W.heap.size, 0, [], Nat.zero_le _, rfl, by rw [HWS.out], Lib.hid (World.ownsRow_made W #[] 0 (Nat.le_refl _) (Nat.zero_le _) rfl), Lib.hid (fun i v h => by simp at h), Lib.hid (below1 W _)⟩
  case round =>
    obtain ⟨k, g, cp, T, hk, rfl, rfl, HO, HI, HL⟩ := hrel
    have A1 := Lib.hid (A0.out.next HL.out)
    by_cases hlt : k < n
    · have hlt2 : (k : Int) < (n : Int) := by omega
      obtain ⟨v, j, x, hh, hal, hv⟩ := HB.out k hlt
      have hbd := has_bounds HM.out hh
      have ew : IntKind.i64.wrap (a + (k : Int)) = a + (k : Int) := by rw [IntKind.wrap_i64]; omega
      have hjl : j < l.length := (List.getElem?_eq_some_iff.1 hh.1).1
      have hl := HM.out.1
      have x1 := A1.out.2.1
      have hsw := A1.out.1
      have C := Lib.hid (findHas p cap l (a + k) j x wr.drew HM.out (A1.out.next (below_drew1 wr)).2.2 hh)
      have HH := Lib.hid hh
      have hok := HM.out.2.1 j x hh.1
      obtain ⟨o, ho⟩ : ∃ o : Nat, (o : Int) = a + k - x.b := ⟨(a + k - x.b).toNat, by have := hh.2; omega⟩
      have hi3 : o < x.d.size := by rw [hok.2.2.2.2.2]; have := hh.2; omega
      have hi2 : (a + (k : Int) - x.b).toNat = o := by omega
      have hi1 : a + (k : Int) - x.b < (x.d.size : Int) := by omega
      have hi0 : 0 ≤ a + (k : Int) - x.b := by omega
      have HBY : Hid (ByteAt l 0 (a + k) (x.d[o]'hi3)) := Lib.hid ⟨j, x, hh, allow0 _, by rw [hi2, Array.getElem?_toList]; exact Array.getElem?_eq_getElem hi3⟩
      have hm1 : k + 1 ≤ maxLen := by unfold maxLen; omega
      have hb1 : (k + 1) * 1 ≤ 140737488355328 := by omega
      have hx0 := hok.1; have hx1 := hok.2.1
      clear hh hal hv ho hok
      obtain ⟨b, off, rfl, q0, a0, a1, a2⟩ := A1.out.2.2 j x HH.out.1
      have p0 := a0; have p1 := a1; have p2 := a2; have hbw := q0
      have hsw1 : w.heap.size ≠ wr.heap.size := by omega
      have hbw1 : b ≠ wr.heap.size := by omega
      clear q0 a0 a1 a2
      have b2 : Below wr.heap.size wr (wr.alloc (.cells #[.int .i64 0, .int .i64 0, .string ⟨#[]⟩] 86)).drew := (below1 wr _).drew
      have C' := Lib.hid (findHas _ cap l (a + k) j x _ HM.out (A1.out.next b2).2.2 HH.out)
      have B2 := Lib.hid b2
      clear b2
      go_wp2_with fail
      go_region_held3 (fun w' => w'.cell? ⟨w.heap.size, 0, none⟩ = some (.slice (some ⟨b, off, none⟩) l.length cap) ∧ w'.cell? ⟨b, off + j * 3, none⟩ = some (.int .i64 x.b) ∧ w'.cell? ⟨b, off + j * 3 + 1, none⟩ = some (.int .i64 x.p) ∧ w'.cell? ⟨b, off + j * 3 + 2, none⟩ = some (.string x.d)) (first | (with_reducible exact ⟨x1, p0, p1, p2⟩) | (with_reducible exact keepD ⟨x1, p0, p1, p2⟩) | (with_reducible exact ⟨x2, a0, a1, a2⟩) | (with_reducible exact ⟨keep3 hsw1 x2, keep3 hbw1 a0, keep3 hbw1 a1, keep3 hbw1 a2⟩) | (with_reducible exact ⟨keepA hsw x1, keepA hbw p0, keepA hbw p1, keepA hbw p2⟩) | (with_reducible exact ⟨keepB hsw2 x2, keepB q0 a0, keepB q0 a1, keepB q0 a2⟩) | go_keep) (first | (go_at_call 62; (with_reducible refine Calls.mono (C'.out) ?_); rintro e w1 ⟨rfl, b1⟩; have A2 := Lib.hid ((A1.out.next B2.out).next b1); have x2 := A2.out.2.1; have a0 := (A2.out.2.2.at0 HH.out.1); have a1 := (A2.out.2.2.at1 HH.out.1); have a2 := (A2.out.2.2.at2 HH.out.1); have q0 := (A2.out.2.2.lt HH.out.1); have hsw2 := A2.out.1; have d0 := pb0 b1; have d1 := pb1 b1; have d2 := pb2 b1; have f0 := pbf b1 0; have f1 := pbf b1 1; have f2 := pbf b1 2; have L2 := Lib.hid (bthen B2.out b1); clear b1) | (go_at_call 62; (with_reducible refine Calls.mono (C.out) ?_); rintro e w1 ⟨rfl, b1⟩; have A2 := Lib.hid ((A1.out.next (below_drew1 wr)).next b1); have x2 := A2.out.2.1; have a0 := (A2.out.2.2.at0 HH.out.1); have a1 := (A2.out.2.2.at1 HH.out.1); have a2 := (A2.out.2.2.at2 HH.out.1); have q0 := (A2.out.2.2.lt HH.out.1); have hsw2 := A2.out.1; have L2 := Lib.hid (bthen (below_drew1 wr) b1); clear b1))
      · generalize hV : w1.alloc (.cells #[.int .i64 x.b, .int .i64 x.p, .string x.d] 86) = V
        have e0 : V.cell? ⟨w1.heap.size, 0, none⟩ = some (.int .i64 x.b) := by rw [← hV]; exact cell_of_row _ _ 0 _ _ _ (heap_alloc_new w1 _)
        have e2 : V.cell? ⟨w1.heap.size, 2, none⟩ = some (.string x.d) := by rw [← hV]; exact cell_of_row _ _ 2 _ _ _ (heap_alloc_new w1 _)
        have LV : Below wr.heap.size wr V := by rw [← hV]; exact bbox L2.out _
        clear hV x1 x2 a0 a1 a2 p0 p1 p2 q0 hsw2
        have HO' := Lib.hid (own_below HO.out LV)
        have L3 := Lib.hid (bthen HL.out LV)
        have hszV := L3.out.size
        clear LV
        go_wp2_with (at_builtin; refine wpList_append_lies _ rfl _ _ _ rfl W.heap.size 5 i0 (.int .u8 0) 1 1 Tryz.underlying115 hi hz0 hz1 hz2 rfl (by omega) _ k (BV T) rfl (HO'.out.alloc _) ⟨V.heap.size, 0, none⟩ 1 1 (BV [x.d[o]'hi3]) rfl rfl (news1' _ _) (BV_one _) (by omega) hm1 hb1 (by simp; omega) (V.heap.size + 1) (by simp) ?_; intro g' cap' w3 hown1 hgrow hat hlt1)
        rw [BV_app] at hown1
        have hb2 := below_app' L3.out hgrow (fun j hj => (HO'.out.lt j hj).1)
        have HO1 := Lib.hid hown1; have HB2 := Lib.hid hb2
        clear hown1 hb2 hgrow hat hlt1
        go_wp2
        go_roundw
        case rel => exact ⟨k + 1, g', cap', _, by omega, by go_num, rfl, HO1, Lib.hid (snoc_bytes HI.out (own_len HO.out) HBY.out), HB2⟩
        case measure => simp [intOf]; omega
      · generalize hV : ((w1.setCell ⟨wr.heap.size, 0, none⟩ (.int .i64 x.b)).setCell ⟨wr.heap.size, 1, none⟩ (.int .i64 x.p)).setCell ⟨wr.heap.size, 2, none⟩ (.string x.d) = V
        have e0 : V.cell? ⟨wr.heap.size, 0, none⟩ = some (.int .i64 x.b) := by rw [← hV]; exact (cellOther (by simp) _).trans ((cellOther (by simp) _).trans (cellSame d0 _))
        have e2 : V.cell? ⟨wr.heap.size, 2, none⟩ = some (.string x.d) := by rw [← hV]; exact cellSame ((cellOther (by simp) _).trans ((cellOther (by simp) _).trans d2)) _
        have LV : Below wr.heap.size wr V := by rw [← hV]; exact ((L2.out.setCell (by simp) _).setCell (by simp) _).setCell (by simp) _
        clear hV x1 x2 a0 a1 a2 p0 p1 p2 q0 hsw2 d0 d1 d2 f0 f1 f2
        have HO' := Lib.hid (own_below HO.out LV)
        have L3 := Lib.hid (bthen HL.out LV)
        have hszV := L3.out.size
        clear LV
        go_wp2_with (at_builtin; refine wpList_append_lies _ rfl _ _ _ rfl W.heap.size 5 i0 (.int .u8 0) 1 1 Tryz.underlying115 hi hz0 hz1 hz2 rfl (by omega) _ k (BV T) rfl (HO'.out.alloc _) ⟨V.heap.size, 0, none⟩ 1 1 (BV [x.d[o]'hi3]) rfl rfl (news1' _ _) (BV_one _) (by omega) hm1 hb1 (by simp; omega) (V.heap.size + 1) (by simp) ?_; intro g' cap' w3 hown1 hgrow hat hlt1)
        rw [BV_app] at hown1
        have hb2 := below_app' L3.out hgrow (fun j hj => (HO'.out.lt j hj).1)
        have HO1 := Lib.hid hown1; have HB2 := Lib.hid hb2
        clear hown1 hb2 hgrow hat hlt1
        go_wp2
        go_roundw
        case rel => exact ⟨k + 1, g', cap', _, by omega, by go_num, rfl, HO1, Lib.hid (snoc_bytes HI.out (own_len HO.out) HBY.out), HB2⟩
        case measure => simp [intOf]; omega
    · obtain rfl : k = n := by omega
      have hconv := str_own HO.out
      go_wp2
      go_ret
      exact ⟨T, rfl, Lib.hid ⟨own_len HO.out, HI.out⟩, bthen L0.out HL.out⟩
end Go.Proofs.YtbkgmpkednkbcaaGreatDoor
namespace Go.Proofs.YtbkgmpkednkbcaaGreatDoor
open Go.RowKit Go.Sort
theorem ft_tk {l : List Pg} {a : Int} {n : Nat} {perm c : Int} (h : FtOut l a n perm c) : ∃ t, TkOut l a n perm t c := by
  rcases h with ⟨rfl, h⟩ | ⟨i, hi, h, hc⟩
  · obtain ⟨t, ht, hq⟩ := list_of (Q := fun i v => ByteAt l perm (a + (i : Int)) v) n h
    exact ⟨t, hq, .inl ⟨rfl, ht⟩⟩
  · obtain ⟨t, ht, hq⟩ := list_of (Q := fun i v => ByteAt l perm (a + (i : Int)) v) i h
    exact ⟨t, hq, .inr ⟨by omega, by rw [ht]; exact hc⟩⟩
/-- what both GetBytes answer -/
def GetOut (l : List Pg) (a n : Int) (r : ByteArray) (c : Int) : Prop :=
  (¬ MemOk l ∧ r = ⟨#[]⟩ ∧ c = 1) ∨ (MemOk l ∧ ¬ (0 ≤ n ∧ n ≤ 8192) ∧ r = ⟨#[]⟩ ∧ c = 4) ∨ (MemOk l ∧ (0 ≤ n ∧ n ≤ 8192) ∧ ∃ t c', TkOut l a n.toNat 0 t c' ∧ ((c' = 0 ∧ r = ⟨t.toArray⟩ ∧ c = 0) ∨ (c' ≠ 0 ∧ r = ⟨#[]⟩ ∧ c = c')))
theorem GetOut.one {l : List Pg} {a n : Int} {r r' : ByteArray} {c c' : Int} (h : GetOut l a n r c) (h' : GetOut l a n r' c') : r = r' ∧ c = c' := by
  rcases h with ⟨h1, rfl, rfl⟩ | ⟨h1, h2, rfl, rfl⟩ | ⟨h1, h2, t, k, ht, h3⟩ <;> rcases h' with ⟨g1, rfl, rfl⟩ | ⟨g1, g2, rfl, rfl⟩ | ⟨g1, g2, t', k', ht', g3⟩ <;> first | exact ⟨rfl, rfl⟩ | exact absurd h1 g1 | exact absurd g1 h1 | exact absurd h2 g2 | exact absurd g2 h2 | skip
  obtain ⟨rfl, rfl⟩ := TkOut.one h1 ht ht'
  rcases h3 with ⟨e1, rfl, rfl⟩ | ⟨e1, rfl, rfl⟩ <;> rcases g3 with ⟨f1, rfl, rfl⟩ | ⟨f1, rfl, rfl⟩ <;> first | exact ⟨rfl, rfl⟩ | exact absurd e1 f1 | exact absurd f1 e1
theorem ba_self (T : ByteArray) : T = ⟨T.data.toList.toArray⟩ := by cases T; rfl
set_option maxHeartbeats 1000000 in
theorem getBI (p : Option Addr) (cap : Nat) (l : List Pg) (a n : Int) (w : World) (hp : Ad p) (hs : Small l) (hr : Rd w p l) (h1 : -9223372036854775808 ≤ a) (h2 : a ≤ 9223372036854775807) :
    Calls Tryz.prog 98 #[.agg #[.slice p l.length cap], .int .i64 a, .int .i64 n] w fun e w' => ∃ r c, e = .returned (.tuple #[.string r, .int .i64 c]) ∧ Hid (GetOut l a n r c) ∧ Below w.heap.size w w' := by
  have hb0 := below1 w (.cells #[.slice p l.length cap] 34)
  have C := Lib.hid (openAll p cap l _ hp hs (hr.below hb0))
  clear hr hs hp
  go_enter Tryz.func98, Tryz.ntmps98
  go_wp2_with fail
  refine (C.out).mono ?_
  rintro e w1 ⟨ho, hb1⟩
  have L1 := Lib.hid (bthen hb0 hb1)
  clear hb0 hb1 C
  rcases ho with ⟨hn, q, m, c, rfl⟩ | ⟨hy, q, c, g, rfl, htab⟩
  · have HM := Lib.hid hn
    clear hn
    go_wp2
    go_ret2
    exact ⟨_, _, rfl, Lib.hid (.inl ⟨HM.out, rfl, rfl⟩), bbox L1.out _⟩
  · obtain ⟨V, hV⟩ : ∃ V, V = w1.alloc (.cells #[.slice q l.length c] 101) := ⟨_, rfl⟩
    have L2 : Hid (Below w.heap.size w V) := Lib.hid (by rw [hV]; exact bbox L1.out _)
    have hB : V.cell? ⟨w1.heap.size, 0, none⟩ = some (.slice q l.length c) := by rw [hV]; exact cell_of_one (heap_alloc_new w1 _)
    have hB0 : w1.heap.size < V.heap.size := by rw [hV]; simp
    have hT : Tab V q g l := by rw [hV]; exact htab.tab.below (below1 _ _)
    have HT := Lib.hid hT; have HV := Lib.hid hV; have HM := Lib.hid hy; have HB := Lib.hid hB
    clear hT hV hy htab L1 hB
    by_cases hn : 0 ≤ n ∧ n ≤ 8192
    · obtain ⟨m, rfl⟩ : ∃ m : Nat, n = (m : Int) := ⟨n.toNat, by omega⟩
      have hm8 : m ≤ 8192 := by omega
      have d1 : decide ((8192 : Int) < (m : Int)) = false := decide_eq_false (by omega)
      have HN := Lib.hid hn
      clear hn
      go_wp2_with fail
      rw [← HV.out]
      refine (takeC w1.heap.size c g q l a 0 m V HM.out HB.out hB0 HT.out h1 h2 hm8).mono ?_
      rintro e w2 ⟨T, k, rfl, HTk, b2⟩
      have L3 := Lib.hid (bthen L2.out b2)
      clear b2
      by_cases hk : k = 0
      · subst hk
        go_wp2
        go_ret2
        exact ⟨_, _, rfl, Lib.hid (.inr (.inr ⟨HM.out, HN.out, _, _, HTk.out, .inl ⟨rfl, ba_self T, rfl⟩⟩)), L3.out⟩
      · have d2 : (k != 0) = true := by rw [bne_iff_ne]; exact hk
        have HK := Lib.hid hk
        clear hk
        go_wp2
        go_ret2
        exact ⟨_, _, rfl, Lib.hid (.inr (.inr ⟨HM.out, HN.out, _, _, HTk.out, .inr ⟨HK.out, rfl, rfl⟩⟩)), L3.out⟩
    · have HN := Lib.hid hn
      by_cases hneg : n < 0
      · clear hn
        go_wp2
        go_ret2
        exact ⟨_, _, rfl, Lib.hid (.inr (.inl ⟨HM.out, HN.out, rfl, rfl⟩)), by rw [← HV.out]; exact L2.out⟩
      · have d1 : 8192 < n := by omega
        have d2 : 0 ≤ n := by omega
        clear hn hneg
        go_wp2
        go_ret2
        exact ⟨_, _, rfl, Lib.hid (.inr (.inl ⟨HM.out, HN.out, rfl, rfl⟩)), by rw [← HV.out]; exact L2.out⟩
end Go.Proofs.YtbkgmpkednkbcaaGreatDoor
