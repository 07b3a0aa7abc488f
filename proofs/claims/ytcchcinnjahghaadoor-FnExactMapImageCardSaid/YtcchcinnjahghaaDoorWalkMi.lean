/-
  What spec.MapImage answers of any image; conditions: those in each head.
  What impl.imagePages answers: all pages of a right image in a list of its own; conditions: those in each head.
  What impl.MapImage answers of any image; conditions: those in each head.
-/
import Derived.Test.YtcchcinnjahghaaDoorWalkLd2
import Derived.Test.YtcchcinnjahghaaDoorWalkImS2
import Derived.Test.YtcchcinnjahghaaDoorWalkSp
import Derived.Test.YtcchcinnjahghaaDoorWalkFa
namespace Go.Proofs.YtcchcinnjahghaaDoor
open Go.RowKit Go.Sort
set_option linter.unusedVariables false
set_option linter.unusedSimpArgs false
theorem chk_ok {e : Int} {l : List Sg} {k : Nat} {c : Int} (h : Chk e l k c) (hc : c = 0) : l.length ≤ 4 ∧ OkTo l l.length ∧ ∃ (j : Nat) (x : Sg), FirstRun l j x ∧ 0 ≤ e ∧ e ≤ 4096 := by
  cases h with
  | none h0 => cases hc
  | many h0 => cases hc
  | seg k x h4 ho hx hb => exact absurd hc hb
  | norun h0 => cases hc
  | entry k x h4 ho hf he => cases hc
  | ok k x h4 ho hf he =>
    refine ⟨h4, ho, k, x, hf, ?_⟩
    have hk := (List.getElem?_eq_some_iff.1 hf.1).1
    have := okTo_at ho (Nat.le_refl _) hk hf.1
    unfold entB at he
    simp at he
    omega
/-- an image in memory, or zero and a code -/
def MiOut (w w' : World) (n : Int) (l : List Sg) (c : Int) (e : Ending) : Prop :=
  (c ≠ 0 ∧ e = .returned (.tuple #[.agg zLd, .int .i64 c])) ∨ (c = 0 ∧ ∃ g cp ra rb rc, e = .returned (.tuple #[.agg #[.slice (some ⟨g, 0, none⟩) (imgPgs l).length cp, .int .i64 (16384 + n), .int .i64 (hpOf l), .int .i64 (taOf l), .int .i64 (szOf l), .slice ra 0 0, .slice rb 0 0, .slice rc 0 0, .int .i64 0], .int .i64 0]) ∧ Owns w' w.heap.size (some ⟨g, 0, none⟩) cp (imgPgs l))
set_option maxRecDepth 20000 in
set_option maxHeartbeats 4000000 in
theorem miS (n : Int) (p : Option Addr) (cap : Nat) (l : List Sg) (w : World) (hr : RdS w p l) (hp : ∀ b o, p = some ⟨b, o, none⟩ → l ≠ [] → b < w.heap.size) (hs : SmallS l) (hwf : WfS l) (k : Nat) (c : Int) (hc : Chk n l k c) :
    Calls Tryd.prog 11 #[.agg #[.int .i64 n, .slice p l.length cap]] w fun e w' => MiOut w w' n l c e ∧ Below w.heap.size w w' := by
  obtain ⟨W0, hW0⟩ : ∃ W0, W0 = (w.alloc (.cells #[.int .i64 n, .slice p l.length cap] 24)).alloc (.cells #[.slice none 0 0, .int .i64 0, .int .i64 0, .int .i64 0, .int .i64 0, .slice none 0 0, .slice none 0 0, .slice none 0 0, .int .i64 0] 41) := ⟨_, rfl⟩
  have I0 : Hid (ImAt W0 w.heap.size n p l.length cap) := Lib.hid (by rw [hW0]; exact (ImAt.new _ _ _ _ _ _).next (belowA _ _))
  have R0 : Hid (RdS W0 p l) := Lib.hid (by rw [hW0]; exact (hr.below (belowA _ _)).below (belowA _ _))
  have Z0 : Hid (CellsAt W0 (w.heap.size + 1) zLd.toList) := Lib.hid (by
    have := CellsAt.of_block (heap_alloc_new (w.alloc (.cells #[.int .i64 n, .slice p l.length cap] 24)) (.cells zLd 41))
    rw [hW0]; simpa [zLd] using this)
  have L0 : Hid (Below w.heap.size w W0) := Lib.hid (by rw [hW0]; exact bthen (belowA _ _) (belowA _ _))
  have S0 : Hid (W0.heap.size = w.heap.size + 1 + 1) := Lib.hid (by rw [hW0]; simp)
  have HW0 := Lib.hid hW0
  have HP := Lib.hid hp
  have C := Lib.hid (chkS n p cap l W0 R0.out hs hwf k c hc)
  have HC := Lib.hid hc
  clear hr hp hW0 hs hwf hc
  obtain ⟨i0, i1, i2⟩ := I0.out
  go_enter Tryd.func11, Tryd.ntmps11
  go_wp2_with fail
  rw [← HW0.out]
  refine (C.out).mono ?_
  rintro e w1 ⟨rfl, b1⟩
  have I1 := Lib.hid (I0.out.next b1); have R1 := Lib.hid (R0.out.below b1); have Z1 := Lib.hid (Z0.out.next b1); have L1 := Lib.hid (bthen L0.out b1)
  have S1 : Hid (w.heap.size + 1 < w1.heap.size) := Lib.hid (by have := b1.size; have := S0.out; omega)
  clear b1 I0 R0 Z0 L0 S0 C i0 i1 i2
  by_cases hz : c = 0
  · obtain ⟨h4, ho, j, x, hf, hn⟩ := chk_ok HC.out hz
    subst hz
    have C2 := Lib.hid (mapS n p cap l w1 R1.out (fun b o e hl => by have := HP.out b o e hl; have := S1.out; omega) ho h4 hn)
    clear h4 ho hf hn
    obtain ⟨i0, i1, i2⟩ := I1.out
    go_wp2_with fail
    refine (C2.out).mono ?_
    rintro e w2 ⟨⟨g, cp, ra, rb, rc, rfl, own⟩, b2⟩
    have OW := Lib.hid own; have L2 := Lib.hid (bthen L1.out b2)
    have RES := Z1.out.next b2
    clear own b2 i0 i1 i2
    have s0 := RES.2.1 0 _ rfl
    have s1 := RES.2.1 1 _ rfl
    have s2 := RES.2.1 2 _ rfl
    have s3 := RES.2.1 3 _ rfl
    have s4 := RES.2.1 4 _ rfl
    have s5 := RES.2.1 5 _ rfl
    have s6 := RES.2.1 6 _ rfl
    have s7 := RES.2.1 7 _ rfl
    have s8 := RES.2.1 8 _ rfl
    have f0 := RES.2.2 0
    have f1 := RES.2.2 1
    have f2 := RES.2.2 2
    have f3 := RES.2.2 3
    have f4 := RES.2.2 4
    have f5 := RES.2.2 5
    have f6 := RES.2.2 6
    have f7 := RES.2.2 7
    have f8 := RES.2.2 8
    have RX := Lib.hid (((((((((RES.set (k := 0) (u := .slice (some ⟨g, 0, none⟩) (imgPgs l).length cp)).set (k := 1) (u := .int .i64 (16384 + n))).set (k := 2) (u := .int .i64 (hpOf l))).set (k := 3) (u := .int .i64 (taOf l))).set (k := 4) (u := .int .i64 (szOf l))).set (k := 5) (u := .slice ra 0 0)).set (k := 6) (u := .slice rb 0 0)).set (k := 7) (u := .slice rc 0 0)).set (k := 8) (u := .int .i64 0))
    clear RES
    go_wp2
    obtain ⟨_, rx, _⟩ := RX.out
    have r0 := rx 0 _ rfl
    have r1 := rx 1 _ rfl
    have r2 := rx 2 _ rfl
    have r3 := rx 3 _ rfl
    have r4 := rx 4 _ rfl
    have r5 := rx 5 _ rfl
    have r6 := rx 6 _ rfl
    have r7 := rx 7 _ rfl
    have r8 := rx 8 _ rfl
    clear rx
    refine bodyPost_ret (v := .tuple #[.agg #[.slice (some ⟨g, 0, none⟩) (imgPgs l).length cp, .int .i64 (16384 + n), .int .i64 (hpOf l), .int .i64 (taOf l), .int .i64 (szOf l), .slice ra 0 0, .slice rb 0 0, .slice rc 0 0, .int .i64 0], .int .i64 0]) (by simp [results, Tryd.results11, go_sem, r0, r1, r2, r3, r4, r5, r6, r7, r8]) rfl ?_
    refine ⟨.inr ⟨rfl, g, cp, ra, rb, rc, rfl, ?_⟩, ?_⟩
    · have hne : (Value.slice (some ⟨g, 0, none⟩) (imgPgs l).length cp).ownBlock ≠ some (w.heap.size + 1) := by
        intro e
        have h1 := (OW.out.lt g rfl).1
        have h2 := S1.out
        simp [Value.ownBlock] at e
        omega
      exact Joins.ownsRow_le (ownsRow_setCell_other (ownsRow_setCell_other (ownsRow_setCell_other (ownsRow_setCell_other (ownsRow_setCell_other (ownsRow_setCell_other (ownsRow_setCell_other (ownsRow_setCell_other (ownsRow_setCell_other OW.out hne _) hne _) hne _) hne _) hne _) hne _) hne _) hne _) hne _) (by have := S1.out; omega)
    · exact ((((((((L2.out.setCell (by simp) _).setCell (by simp) _).setCell (by simp) _).setCell (by simp) _).setCell (by simp) _).setCell (by simp) _).setCell (by simp) _).setCell (by simp) _).setCell (by simp) _
  · have hb : (c != 0) = true := bne_iff_ne.2 hz
    have HZ := Lib.hid hz
    clear hz
    have RES := Z1.out
    have s0 := RES.2.1 0 _ rfl
    have s1 := RES.2.1 1 _ rfl
    have s2 := RES.2.1 2 _ rfl
    have s3 := RES.2.1 3 _ rfl
    have s4 := RES.2.1 4 _ rfl
    have s5 := RES.2.1 5 _ rfl
    have s6 := RES.2.1 6 _ rfl
    have s7 := RES.2.1 7 _ rfl
    have s8 := RES.2.1 8 _ rfl
    have f0 := RES.2.2 0
    have f1 := RES.2.2 1
    have f2 := RES.2.2 2
    have f3 := RES.2.2 3
    have f4 := RES.2.2 4
    have f5 := RES.2.2 5
    have f6 := RES.2.2 6
    have f7 := RES.2.2 7
    have f8 := RES.2.2 8
    have RX := Lib.hid (((((((((RES.set (k := 0) (u := .slice none 0 0)).set (k := 1) (u := .int .i64 0)).set (k := 2) (u := .int .i64 0)).set (k := 3) (u := .int .i64 0)).set (k := 4) (u := .int .i64 0)).set (k := 5) (u := .slice none 0 0)).set (k := 6) (u := .slice none 0 0)).set (k := 7) (u := .slice none 0 0)).set (k := 8) (u := .int .i64 0))
    clear RES
    go_wp2
    obtain ⟨_, rx, _⟩ := RX.out
    have r0 := rx 0 _ rfl
    have r1 := rx 1 _ rfl
    have r2 := rx 2 _ rfl
    have r3 := rx 3 _ rfl
    have r4 := rx 4 _ rfl
    have r5 := rx 5 _ rfl
    have r6 := rx 6 _ rfl
    have r7 := rx 7 _ rfl
    have r8 := rx 8 _ rfl
    clear rx
    refine bodyPost_ret (v := .tuple #[.agg zLd, .int .i64 c]) (by simp [results, Tryd.results11, go_sem, r0, r1, r2, r3, r4, r5, r6, r7, r8, zLd]) rfl ?_
    exact ⟨.inl ⟨HZ.out, rfl⟩, ((((((((L1.out.setCell (by simp) _).setCell (by simp) _).setCell (by simp) _).setCell (by simp) _).setCell (by simp) _).setCell (by simp) _).setCell (by simp) _).setCell (by simp) _).setCell (by simp) _⟩
end Go.Proofs.YtcchcinnjahghaaDoor
namespace Go.Proofs.YtcchcinnjahghaaDoor
open Go.RowKit Go.Sort Go.Shelf
set_option linter.unusedVariables false
set_option linter.unusedSimpArgs false
/-- a list of k pages that the call owns -/
def OwnP (W : World) (B g c k : Nat) (L : List Pg) : Prop := L.length = k ∧ W.ownsRow B 126 3 (.slice (some ⟨g, 0, none⟩) k c) k (PV L)
theorem OwnP.back {W : World} {B g c k : Nat} {L : List Pg} (h : OwnP W B g c k L) : Owns W B (some ⟨g, 0, none⟩) c L := by obtain ⟨rfl, h⟩ := h; exact h
theorem OwnP.next {W W' : World} {B g c k : Nat} {L : List Pg} (h : OwnP W B g c k L) (hb : Below W.heap.size W W') : OwnP W' B g c k L := ⟨h.1, own_below h.2 hb⟩
/-- k pages in a new list -/
def PgOut (L : List Pg) (k : Nat) (w : World) (e : Ending) (w' : World) : Prop := ∃ g c, e = .returned (.slice (some ⟨g, 0, none⟩) k c) ∧ OwnP w' w.heap.size g c k L ∧ Below w.heap.size w w'
theorem pgOut_of {L : List Pg} {k : Nat} (hk : L.length = k) {w w' : World} {e : Ending} (h : ∃ g cap, e = .returned (.slice (some ⟨g, 0, none⟩) L.length cap) ∧ Owns w' w.heap.size (some ⟨g, 0, none⟩) cap L ∧ Below w.heap.size w w') : PgOut L k w e w' := by
  subst hk
  obtain ⟨g, c, h1, h2, h3⟩ := h
  exact ⟨g, c, h1, ⟨rfl, h2⟩, h3⟩
theorem privPg (b : Int) (G : Nat) (w : World) (hA : CellsAt w G (BV (prvL 256))) (h0 : 0 ≤ b) (h1 : b ≤ 65535) : Calls Tryd.prog 61 #[.int .i64 b, .int .i64 3, .int .i64 256, .slice (some ⟨G, 0, none⟩) 256 256, .int .u8 0] w (PgOut [⟨b, 3, prvT⟩] 1 w) := by
  have C := pagesOfB b 3 256 G (prvL 256) (prvL_len 256) 0 1 w hA (by decide) (by decide) (by decide) h0 h1
  have e : fPgs b 3 (padTo (prvL 256) (256 * 1) 0) 1 = [⟨b, 3, prvT⟩] := fP1 b 3 (t := prvT) prvT_size
  rw [e] at C
  exact C.mono fun e' w' h => pgOut_of rfl h
theorem halt_pad (n : Nat) : padTo [] n 244 = padTo (haltT n).data.toList n 0 := by unfold padTo haltT; simp
theorem trampPg (w : World) : Calls Tryd.prog 62 #[.int .i64 16640, .int .i64 4, .int .i64 256, .string ⟨#[]⟩, .int .u8 244] w (PgOut [⟨16640, 4, haltT 256⟩] 1 w) := by
  have C := pagesOfS 16640 4 256 ⟨#[]⟩ 244 1 w (by decide) (by decide) (by decide) (by decide) (by decide) (by decide)
  have e : fPgs 16640 4 (padTo (⟨#[]⟩ : ByteArray).data.toList (256 * 1) 244) 1 = [⟨16640, 4, haltT 256⟩] := by
    have h := fP1 16640 4 (t := haltT 256) (haltT_size _)
    have e1 : padTo (⟨#[]⟩ : ByteArray).data.toList (256 * 1) 244 = padTo (haltT 256).data.toList (256 * 1) 0 := halt_pad 256
    rw [e1]; exact h
  rw [e] at C
  exact C.mono fun e' w' h => pgOut_of rfl h
theorem stackPg (w : World) : Calls Tryd.prog 62 #[.int .i64 19968, .int .i64 3, .int .i64 512, .string ⟨#[]⟩, .int .u8 0] w (PgOut [⟨19968, 3, zeros256⟩, ⟨20224, 3, zeros256⟩] 2 w) := by
  have C := pagesOfS 19968 3 512 ⟨#[]⟩ 0 2 w (by decide) (by decide) (by decide) (by decide) (by decide) (by decide)
  have e : fPgs 19968 3 (padTo (⟨#[]⟩ : ByteArray).data.toList (256 * 2) 0) 2 = [⟨19968, 3, zeros256⟩, ⟨20224, 3, zeros256⟩] := by
    have c0 : chunkAt (padTo (⟨#[]⟩ : ByteArray).data.toList (256 * 2) 0) 0 = zeros256 := chunk_zero (by simp) (by omega)
    have c1 : chunkAt (padTo (⟨#[]⟩ : ByteArray).data.toList (256 * 2) 0) 1 = zeros256 := chunk_zero (by simp) (by omega)
    unfold fPgs
    rw [show List.range 2 = [0, 1] from rfl]
    simp only [List.map_cons, List.map_nil, c0, c1]
    rfl
  rw [e] at C
  exact C.mono fun e' w' h => pgOut_of rfl h
theorem segPg {l : List Sg} {i : Nat} {x : Sg} {q m : Nat} (h : SegI l i x q m) (k : Nat) (hk : (segPgs x).length = k) (w : World) : Calls Tryd.prog 63 #[.agg #[.int .i64 x.f, .int .i64 x.v, .int .i64 x.m, .string x.d]] w (PgOut (segPgs x) k w) :=
  (sgPgC x w (by have := h.lo; omega) h.hi (by have := h.me; have := h.m1; omega) (by have := h.me; have := h.m2; have := h.lo; omega) (by have := h.ds; have h2 := h.up; unfold upN at h2; omega)).mono fun e' w' h => pgOut_of hk h
/-- behind an append -/
theorem ip_app {W1 wc w3 : World} {g c k g' c' k2 : Nat} {L L2 : List Pg} (hb : Below W1.heap.size W1 wc) (ho : OwnP wc W1.heap.size g c k L) (h2 : L2.length = k2)
    (own3 : w3.ownsRow W1.heap.size 126 3 (.slice (some ⟨g', 0, none⟩) (k + k2) c') (k + k2) (PV L ++ PV L2)) (grow : wc.grownBy w3 (Value.slice (some ⟨g, 0, none⟩) k c).ownBlock) : Below W1.heap.size W1 w3 ∧ OwnP w3 W1.heap.size g' c' (k + k2) (L ++ L2) := by
  refine ⟨hb.grown grow hb.size fun j e => (ho.2.lt j e).1, ?_, ?_⟩
  · rw [List.length_append, ho.1, h2]
  · rw [PV_app]; exact own3
set_option maxRecDepth 20000 in
set_option maxHeartbeats 4000000 in
theorem imPgC (n : Int) (p : Option Addr) (cap : Nat) (l : List Sg) (w : World) (hr : RdS w p l) (ho : OkTo l l.length) (hl : l.length ≤ 4) (hcap : l.length ≤ cap) (K : Nat) (hK : (imgPgs l).length = K) :
    Calls Tryd.prog 29 #[.agg #[.int .i64 n, .slice p l.length cap]] w (PgOut (imgPgs l) K w) := by
  obtain ⟨W0, hW0⟩ : ∃ W0, W0 = w.alloc (.cells #[.int .i64 n, .slice p l.length cap] 24) := ⟨_, rfl⟩
  have I0 : Hid (ImAt W0 w.heap.size n p l.length cap) := Lib.hid (by rw [hW0]; exact ImAt.new _ _ _ _ _ _)
  have R0 : Hid (RdS W0 p l) := Lib.hid (by rw [hW0]; exact hr.below (belowA _ _))
  have L0 : Hid (Below w.heap.size w W0) := Lib.hid (by rw [hW0]; exact belowA _ _)
  have HW0 := Lib.hid hW0; have HO := Lib.hid ho; have HK := Lib.hid hK
  obtain ⟨i0, hi, hz0, hz1, hz2⟩ := info_parts infoP
  have hsz3 : (Value.agg #[Value.int .i64 0, .int .i64 0, .string ⟨#[]⟩]).cells.size = 3 := by simp [Value.cells]
  have C0 := Lib.hid (prvI W0)
  clear hr hW0 ho hK
  go_enter Tryd.func29, Tryd.ntmps29
  go_wp2_with fail
  rw [← HW0.out]
  refine (C0.out).mono ?_
  rintro e W1 ⟨rfl, hpv, b1⟩
  obtain ⟨G, hG⟩ : ∃ G, G = W0.heap.size := ⟨_, rfl⟩
  rw [← hG] at hpv ⊢
  have A1 : Hid (CellsAt W1 G (BV (prvL 256))) := Lib.hid ⟨by have := (hpv.lt G rfl).2; omega, fun j v hj => by rw [hpv.cellAt j (by have := (List.getElem?_eq_some_iff.1 hj).1; rw [BV_len, prvL_len] at this; omega)]; exact hj, fun j => hpv.frozenAt j⟩
  have I1 := Lib.hid (I0.out.next b1); have R1 := Lib.hid (R0.out.below b1); have L1 := Lib.hid (bthen L0.out b1)
  clear hpv b1 I0 R0 L0 C0 hG
  have CA := Lib.hid (privPg 4096 G W1 A1.out (by decide) (by decide))
  go_wp2_with fail
  refine (CA.out).mono ?_
  rintro e w2 ⟨g2, c2, rfl, o2, b2⟩
  have B2 := Lib.hid b2; have O2 := Lib.hid o2
  clear b2 o2 CA
  have CB := Lib.hid (trampPg w2)
  go_wp2_with fail
  refine (CB.out).mono ?_
  rintro e w3 ⟨g3, c3, rfl, o3, b3⟩
  have B3 := Lib.hid (bthen B2.out b3); have O3 := Lib.hid (O2.out.next b3); have N3 := Lib.hid o3
  have hs3 := B3.out.size
  clear b3 o3 CB B2 O2
  go_wp2_with (at_builtin; refine wpList_append_lies _ rfl _ _ _ rfl W1.heap.size 126 i0 _ 3 32 Tryd.underlying34 hi hz0 hz1 hz2 hsz3 (by decide) (.slice (some ⟨g2, 0, none⟩) 1 c2) 1 (PV [⟨4096, 3, prvT⟩]) rfl O3.out.2 ⟨g3, 0, none⟩ 1 c3 (PV [⟨16640, 4, haltT 256⟩]) rfl (PV_len _) (N3.out.2.cells rfl) (PV_one _) (by omega) (by unfold maxLen; omega) (by omega) hs3 w3.heap.size rfl ?_; intro g4 c4 w4 own4 grow4 _ _; have X4 := ip_app B3.out O3.out rfl own4 grow4; clear own4 grow4; have B4 := Lib.hid X4.1; have O4 := Lib.hid X4.2; have ci := (I1.out.next X4.1).2.2; clear X4 B3 O3 N3)
  clear ci
  go_loopw [5, 19] (fun v i wr => ∃ (j g c k : Nat), j ≤ l.length ∧ i = .int .i64 j ∧ v = .slice (some ⟨g, 0, none⟩) k c ∧ Hid (Below W1.heap.size W1 wr) ∧ Hid (OwnP wr W1.heap.size g c k (headPgs ++ allSegs (l.take j)))) (fun _ i _ => l.length - (intOf i).toNat)
  case atStart => exact ⟨0, g4, c4, 2, Nat.zero_le _, rfl, rfl, B4, O4⟩
  case round =>
    obtain ⟨j, g, c, k, hj, rfl, rfl, HB, HP⟩ := hrel
    by_cases hjl : j < l.length
    · obtain ⟨x, hx⟩ : ∃ x, l[j]? = some x := ⟨_, List.getElem?_eq_getElem hjl⟩
      obtain ⟨q, m, hS⟩ := seg_i HO.out hx
      obtain ⟨k2, hk2⟩ : ∃ k2, (segPgs x).length = k2 := ⟨_, rfl⟩
      have hk2m : k2 = nPg x.m := by rw [← hk2]; exact fPgs_len _ _ _ _
      have hlen : k + k2 ≤ 32 ∧ 0 < k2 := by
        have h1 := hS.len; have h2 := HP.out.1; have h3 := hS.n0
        rw [h2] at h1
        omega
      obtain ⟨b, off, rfl, k0, q0, q1, q2, q3⟩ := R1.out j x hx
      have s0 := (HB.out.cell (p := ⟨b, off + j * 4, none⟩) k0).trans q0
      have s1 := (HB.out.cell (p := ⟨b, off + j * 4 + 1, none⟩) k0).trans q1
      have s2 := (HB.out.cell (p := ⟨b, off + j * 4 + 2, none⟩) k0).trans q2
      have s3 := (HB.out.cell (p := ⟨b, off + j * 4 + 3, none⟩) k0).trans q3
      obtain ⟨W, hW⟩ : ∃ W, W = wr.alloc (.cells #[.int .i64 x.f, .int .i64 x.v, .int .i64 x.m, .string x.d] 61) := ⟨_, rfl⟩
      have LW := Lib.hid (show Below W1.heap.size W1 W by rw [hW]; exact bthen HB.out (belowA _ _))
      have PW := Lib.hid (show OwnP W W1.heap.size g c k (headPgs ++ allSegs (l.take j)) by rw [hW]; exact HP.out.next (belowA _ _))
      have SW : SgAt W wr.heap.size x := by rw [hW]; exact sgAlloc _ _ _
      have C := Lib.hid (segPg hS k2 hk2 W)
      have HX := Lib.hid hx; have HK2 := Lib.hid hk2; have HW := Lib.hid hW
      clear q0 q1 q2 q3 k0 hS hk2 hk2m hx hW
      have hcj : (j : Int) < (l.length : Int) := by omega
      go_wp2_with fail
      rw [← HW.out]
      refine (C.out).mono ?_
      rintro e w5 ⟨g5, c5, rfl, o5, b5⟩
      have B5 := Lib.hid (bthen LW.out b5); have O5 := Lib.hid (PW.out.next b5); have N5 := Lib.hid o5
      have hs5 := B5.out.size
      clear b5 o5 C SW s0 s1 s2 s3 LW PW HW
      go_wp2_with (at_builtin; refine wpList_append_lies _ rfl _ _ _ rfl W1.heap.size 126 i0 _ 3 32 Tryd.underlying34 hi hz0 hz1 hz2 hsz3 (by decide) (.slice (some ⟨g, 0, none⟩) k c) k (PV (headPgs ++ allSegs (l.take j))) rfl O5.out.2 ⟨g5, 0, none⟩ k2 c5 (PV (segPgs x)) rfl (by rw [PV_len, HK2.out]) (N5.out.2.cells rfl) (PV_one _) hlen.2 (by unfold maxLen; omega) (by omega) hs5 w5.heap.size rfl ?_; intro g6 c6 w6 own6 grow6 _ _; have X6 := ip_app B5.out O5.out HK2.out own6 grow6; clear own6 grow6; have B6 := Lib.hid X6.1; have O6 := Lib.hid X6.2; clear X6 B5 O5 N5)
      go_roundw
      case rel => exact ⟨j + 1, g6, c6, k + k2, by omega, by go_num, rfl, B6, Lib.hid (by rw [allSegs_snoc HX.out, ← List.append_assoc]; exact O6.out)⟩
      case measure => simp [intOf]; omega
    · obtain rfl : j = l.length := by omega
      have CC := Lib.hid (stackPg wr)
      have hk5 : k + 3 = K := by
        have h1 := HP.out.1
        have h2 := HK.out
        unfold imgPgs at h2
        rw [List.length_append] at h2
        rw [List.take_length] at h1
        rw [h1] at h2
        exact h2
      have hK32 : K ≤ 40 := by
        obtain ⟨_, _, s3⟩ := segs_ok HO.out (Nat.le_refl _)
        have hfr := (okTo_free HO.out (Nat.le_refl _))
        have h1 := HP.out.1
        rw [List.length_append] at h1
        have : headPgs.length = 2 := rfl
        omega
      go_wp2_with fail
      refine (CC.out).mono ?_
      rintro e w5 ⟨g5, c5, rfl, o5, b5⟩
      have B5 := Lib.hid (bthen HB.out b5); have O5 := Lib.hid (HP.out.next b5); have N5 := Lib.hid o5
      have hs5 := B5.out.size
      clear b5 o5 CC
      go_wp2_with (at_builtin; refine wpList_append_lies _ rfl _ _ _ rfl W1.heap.size 126 i0 _ 3 32 Tryd.underlying34 hi hz0 hz1 hz2 hsz3 (by decide) (.slice (some ⟨g, 0, none⟩) k c) k (PV (headPgs ++ allSegs (l.take l.length))) rfl O5.out.2 ⟨g5, 0, none⟩ 2 c5 (PV [⟨19968, 3, zeros256⟩, ⟨20224, 3, zeros256⟩]) rfl (PV_len _) (N5.out.2.cells rfl) (PV_one _) (by omega) (by unfold maxLen; omega) (by omega) hs5 w5.heap.size rfl ?_; intro g6 c6 w6 own6 grow6 _ _; have X6 := ip_app B5.out O5.out rfl own6 grow6; clear own6 grow6; have B6 := Lib.hid X6.1; have O6 := Lib.hid X6.2; clear X6 B5 O5 N5)
      have CD := Lib.hid (privPg 32768 G w6 (A1.out.next B6.out) (by decide) (by decide))
      refine (CD.out).mono ?_
      rintro e w7 ⟨g7, c7, rfl, o7, b7⟩
      have B7 := Lib.hid (bthen B6.out b7); have O7 := Lib.hid (O6.out.next b7); have N7 := Lib.hid o7
      have hs7 := B7.out.size
      clear b7 o7 CD B6 O6
      go_wp2_with (at_builtin; refine wpList_append_lies _ rfl _ _ _ rfl W1.heap.size 126 i0 _ 3 32 Tryd.underlying34 hi hz0 hz1 hz2 hsz3 (by decide) (.slice (some ⟨g6, 0, none⟩) (k + 2) c6) (k + 2) _ rfl O7.out.2 ⟨g7, 0, none⟩ 1 c7 (PV [⟨32768, 3, prvT⟩]) rfl (PV_len _) (N7.out.2.cells rfl) (PV_one _) (by omega) (by unfold maxLen; omega) (by omega) hs7 w7.heap.size rfl ?_; intro g8 c8 w8 own8 grow8 _ _; have X8 := ip_app B7.out O7.out rfl own8 grow8; clear own8 grow8; have B8 := Lib.hid X8.1; have O8 := Lib.hid X8.2; clear X8 B7 O7 N7)
      go_ret
      refine ⟨g8, c8, by rw [← hk5]; rfl, ⟨HK.out, ?_⟩, L1.out.trans (B8.out.mono L1.out.size)⟩
      have h := O8.out
      rw [List.take_length] at h
      have e : headPgs ++ allSegs l ++ [⟨19968, 3, zeros256⟩, ⟨20224, 3, zeros256⟩] ++ [⟨32768, 3, prvT⟩] = imgPgs l := by unfold imgPgs tailPgs; simp
      rw [e] at h
      rw [← hk5]
      exact Joins.ownsRow_le h.2 L1.out.size
end Go.Proofs.YtcchcinnjahghaaDoor
namespace Go.Proofs.YtcchcinnjahghaaDoor
open Go.RowKit Go.Sort Go.Shelf
set_option linter.unusedVariables false
set_option linter.unusedSimpArgs false
theorem run_in {l : List Sg} {j i : Nat} {x : Sg} (hx : l[j]? = some x) (h5 : x.f = 5) (hji : j < i) : runOf (l.take i) = true := by
  unfold runOf
  rw [List.any_eq_true]
  refine ⟨x, List.mem_iff_getElem?.2 ⟨j, ?_⟩, by simp [h5]⟩
  rw [List.getElem?_take_of_lt hji]; exact hx
theorem ta_of {l : List Sg} {j : Nat} {x : Sg} (ho : OkTo l l.length) (hf : FirstRun l j x) (k : Nat) (hk : k ≤ l.length) : taOf (l.take k) = (if j < k then 16384 + x.v else 0) ∧ szOf (l.take k) = (if j < k then ((256 * nPg x.m : Nat) : Int) else 0) := by
  induction k with
  | zero => simp [taOf, szOf]
  | succ k ih =>
    obtain ⟨i1, i2⟩ := ih (by omega)
    obtain ⟨y, hy⟩ : ∃ y, l[k]? = some y := ⟨_, List.getElem?_eq_getElem (by omega)⟩
    rw [ta_snoc hy, sz_snoc hy, i1, i2]
    rcases Nat.lt_trichotomy j k with h | h | h
    · have hne : y.f ≠ 5 := by
        intro h5
        have hfr := (okTo_free (okTo_mono ho (show k ≤ l.length by omega)) (by omega)).1
        have := ((seg_ok hfr (ho k y (by omega) hy)).2.2.1 h5).1
        rw [run_in hf.1 hf.2.1 h] at this
        cases this
      rw [if_neg hne, if_neg hne, if_pos h, if_pos h, if_pos (by omega), if_pos (by omega)]
      exact ⟨rfl, rfl⟩
    · subst h
      obtain rfl : x = y := by rw [hf.1] at hy; exact Option.some.inj hy
      rw [if_pos hf.2.1, if_pos hf.2.1, if_pos (by omega), if_pos (by omega)]
      exact ⟨rfl, rfl⟩
    · have hne : y.f ≠ 5 := hf.2.2 k y h hy
      rw [if_neg hne, if_neg hne, if_neg (by omega), if_neg (by omega), if_neg (by omega), if_neg (by omega)]
      exact ⟨rfl, rfl⟩
theorem wp_nPg {m : Int} (h : 0 ≤ m) : wpN m = ((256 * nPg m : Nat) : Int) := by unfold wpN nPg; omega
/-- an image is loaded whole -/
theorem loadImK {a : Act} {w : World} {o : Oper} {k b : Nat} {u v : Value} (ho : o.op = Op.load 24 (.tmp k)) (hx : a.tmps.getD k undef = .pointer (some ⟨b, 0, none⟩)) (h0 : w.cell? ⟨b, 0, none⟩ = some u) (h1 : w.cell? ⟨b, 1, none⟩ = some v) : (execOp a.eval o).run Tryd.prog w = .ok (.value (.agg #[u, v])) w := by
  have hx' : a.tmps[k]?.getD undef = .pointer (some ⟨b, 0, none⟩) := by rw [← Array.getD_eq_getD_getElem?]; exact hx
  obtain ⟨od, op, oty, ops, oaf, ogd⟩ := o
  simp only at ho
  subst ho
  go_simp
/-- a segment is loaded whole -/
theorem loadSgK {a : Act} {w : World} {o : Oper} {k b : Nat} {x : Sg} (ho : o.op = Op.load 61 (.tmp k)) (hx : a.tmps.getD k undef = .pointer (some ⟨b, 0, none⟩)) (h : SgAt w b x) : (execOp a.eval o).run Tryd.prog w = .ok (.value (.agg #[.int .i64 x.f, .int .i64 x.v, .int .i64 x.m, .string x.d])) w := by
  have hx' : a.tmps[k]?.getD undef = .pointer (some ⟨b, 0, none⟩) := by rw [← Array.getD_eq_getD_getElem?]; exact hx
  obtain ⟨h0, h1, h2, h3, h4⟩ := h
  obtain ⟨od, op, oty, ops, oaf, ogd⟩ := o
  simp only at ho
  subst ho
  go_simp
theorem fieldImK {a : Act} {w : World} {o : Oper} {k b : Nat} (ho : o.op = Op.fieldAddr 24 (.tmp k) 0) (hx : a.tmps.getD k undef = .pointer (some ⟨b, 0, none⟩)) : (execOp a.eval o).run Tryd.prog w = .ok (.value (.pointer (some ⟨b, 0, none⟩))) w := by
  have hx' : a.tmps[k]?.getD undef = .pointer (some ⟨b, 0, none⟩) := by rw [← Array.getD_eq_getD_getElem?]; exact hx
  obtain ⟨od, op, oty, ops, oaf, ogd⟩ := o
  simp only at ho
  subst ho
  go_simp
theorem buildMK {a : Act} {w : World} {o : Oper} {k : Nat} {q : Option Addr} {n c : Nat} (ho : o.op = Op.build 36 #[(0, .tmp k)]) (hx : a.tmps.getD k undef = .slice q n c) : (execOp a.eval o).run Tryd.prog w = .ok (.value (.agg #[.slice q n c])) w := by
  have hx' : a.tmps[k]?.getD undef = .slice q n c := by rw [← Array.getD_eq_getD_getElem?]; exact hx
  obtain ⟨od, op, oty, ops, oaf, ogd⟩ := o
  simp only at ho
  subst ho
  go_simp
theorem buildLK {a : Act} {w : World} {o : Oper} {k0 k1 k2 k3 k4 : Nat} {q : Option Addr} {n c : Nat} {i1 i2 i3 i4 : Int} (ho : o.op = Op.build 41 #[(0, .tmp k0), (1, .tmp k1), (2, .tmp k2), (3, .tmp k3), (4, .tmp k4)])
    (h0 : a.tmps.getD k0 undef = .agg #[.slice q n c]) (h1 : a.tmps.getD k1 undef = .int .i64 i1) (h2 : a.tmps.getD k2 undef = .int .i64 i2) (h3 : a.tmps.getD k3 undef = .int .i64 i3) (h4 : a.tmps.getD k4 undef = .int .i64 i4) :
    (execOp a.eval o).run Tryd.prog w = .ok (.value (.agg #[.slice q n c, .int .i64 i1, .int .i64 i2, .int .i64 i3, .int .i64 i4, .slice none 0 0, .slice none 0 0, .slice none 0 0, .int .i64 0])) w := by
  have h0' : a.tmps[k0]?.getD undef = .agg #[.slice q n c] := by rw [← Array.getD_eq_getD_getElem?]; exact h0
  have h1' : a.tmps[k1]?.getD undef = .int .i64 i1 := by rw [← Array.getD_eq_getD_getElem?]; exact h1
  have h2' : a.tmps[k2]?.getD undef = .int .i64 i2 := by rw [← Array.getD_eq_getD_getElem?]; exact h2
  have h3' : a.tmps[k3]?.getD undef = .int .i64 i3 := by rw [← Array.getD_eq_getD_getElem?]; exact h3
  have h4' : a.tmps[k4]?.getD undef = .int .i64 i4 := by rw [← Array.getD_eq_getD_getElem?]; exact h4
  obtain ⟨od, op, oty, ops, oaf, ogd⟩ := o
  simp only at ho
  subst ho
  go_simp
/-- pages of one's own: bare, in a memory, in what is loaded -/
def O1 (B K : Nat) (L : List Pg) (w : World) (v : Value) : Prop := ∃ g c, v = .slice (some ⟨g, 0, none⟩) K c ∧ OwnP w B g c K L
def O2 (B K : Nat) (L : List Pg) (w : World) (v : Value) : Prop := ∃ g c, v = .agg #[.slice (some ⟨g, 0, none⟩) K c] ∧ OwnP w B g c K L
def O3 (B K : Nat) (L : List Pg) (i1 i2 i3 i4 : Int) (w : World) (v : Value) : Prop := ∃ g c, v = .agg #[.slice (some ⟨g, 0, none⟩) K c, .int .i64 i1, .int .i64 i2, .int .i64 i3, .int .i64 i4, .slice none 0 0, .slice none 0 0, .slice none 0 0, .int .i64 0] ∧ OwnP w B g c K L
theorem O1.mono {B K : Nat} {L : List Pg} {w w' : World} {v : Value} (he : Ext w w') (h : O1 B K L w v) : O1 B K L w' v := by obtain ⟨g, c, e, ho⟩ := h; exact ⟨g, c, e, ho.next he⟩
theorem O2.mono {B K : Nat} {L : List Pg} {w w' : World} {v : Value} (he : Ext w w') (h : O2 B K L w v) : O2 B K L w' v := by obtain ⟨g, c, e, ho⟩ := h; exact ⟨g, c, e, ho.next he⟩
theorem O3.mono {B K : Nat} {L : List Pg} {i1 i2 i3 i4 : Int} {w w' : World} {v : Value} (he : Ext w w') (h : O3 B K L i1 i2 i3 i4 w v) : O3 B K L i1 i2 i3 i4 w' v := by obtain ⟨g, c, e, ho⟩ := h; exact ⟨g, c, e, ho.next he⟩
set_option maxRecDepth 20000 in
set_option maxHeartbeats 8000000 in
theorem miI (n : Int) (p : Option Addr) (cap : Nat) (l : List Sg) (w : World) (hg : EtOk w) (hcap : l.length ≤ cap) (hr : RdS w p l) (hs : SmallS l) (k : Nat) (c : Int) (hc : Chk n l k c) :
    Calls Tryd.prog 13 #[.agg #[.int .i64 n, .slice p l.length cap]] w fun e w' => MiOut w w' n l c e ∧ Below w.heap.size w w' := by
  have hm := mixed
  obtain ⟨W0, hW0⟩ : ∃ W0, W0 = (w.alloc (.cells #[.int .i64 n, .slice p l.length cap] 24)).alloc (.cells #[.slice none 0 0, .int .i64 0, .int .i64 0, .int .i64 0, .int .i64 0, .slice none 0 0, .slice none 0 0, .slice none 0 0, .int .i64 0] 41) := ⟨_, rfl⟩
  have I0 : Hid (ImAt W0 w.heap.size n p l.length cap) := Lib.hid (by rw [hW0]; exact (ImAt.new _ _ _ _ _ _).next (belowA _ _))
  have R0 : Hid (RdS W0 p l) := Lib.hid (by rw [hW0]; exact (hr.below (belowA _ _)).below (belowA _ _))
  have Z0 : Hid (CellsAt W0 (w.heap.size + 1) zLd.toList) := Lib.hid (by
    have := CellsAt.of_block (heap_alloc_new (w.alloc (.cells #[.int .i64 n, .slice p l.length cap] 24)) (.cells zLd 41))
    rw [hW0]; simpa [zLd] using this)
  have L0 : Hid (Below w.heap.size w W0) := Lib.hid (by rw [hW0]; exact bthen (belowA _ _) (belowA _ _))
  have S0 : Hid (W0.heap.size = w.heap.size + 1 + 1) := Lib.hid (by rw [hW0]; simp)
  have HW0 := Lib.hid hW0
  have C := Lib.hid (checkI n p cap l W0 (hg.next (by rw [hW0]; exact bthen (belowA _ _) (belowA _ _))) hcap R0.out hs k c hc)
  have HC := Lib.hid hc
  clear hr hW0 hs hc hg
  obtain ⟨i0, i1, i2⟩ := I0.out
  go_enter Tryd.func13, Tryd.ntmps13
  go_wp2_with fail
  rw [← HW0.out]
  refine (C.out).mono ?_
  rintro e w1 ⟨rfl, b1⟩
  have I1 := Lib.hid (I0.out.next b1); have R1 := Lib.hid (R0.out.below b1); have Z1 := Lib.hid (Z0.out.next b1); have L1 := Lib.hid (bthen L0.out b1)
  have S1 : Hid (w.heap.size + 1 < w1.heap.size) := Lib.hid (by have := b1.size; have := S0.out; omega)
  clear b1 I0 R0 Z0 L0 S0 C i0 i1 i2
  by_cases hz : c = 0
  · obtain ⟨h4, ho, j, x, hf, hn⟩ := chk_ok HC.out hz
    subst hz
    have C2 := Lib.hid (firstC p cap l w1 h4 R1.out j x hf)
    obtain ⟨i0, i1, i2⟩ := I1.out
    have HO := Lib.hid ho; have HF := Lib.hid hf; have HN := Lib.hid hn
    clear ho hf hn
    go_wp2_with fail
    refine (C2.out).mono ?_
    rintro e w2 ⟨rfl, b2⟩
    have I2 := Lib.hid (I1.out.next b2); have R2 := Lib.hid (R1.out.below b2); have Z2 := Lib.hid (Z1.out.next b2); have L2 := Lib.hid (bthen L1.out b2)
    have S2 : Hid (w.heap.size + 1 < w2.heap.size) := Lib.hid (by have := b2.size; have := S1.out; omega)
    clear b2 I1 R1 Z1 L1 S1 C2 i0 i1 i2
    have hl0 : 0 < l.length := by have := (List.getElem?_eq_some_iff.1 HF.out.1).1; omega
    obtain ⟨y, hy⟩ : ∃ y, l[l.length - 1]? = some y := ⟨_, List.getElem?_eq_getElem (by omega)⟩
    obtain ⟨b, off, rfl, k0, q0, q1, q2, q3⟩ := R2.out _ y hy
    obtain ⟨i0, i1, i2⟩ := I2.out
    have e1 : IntKind.i64.wrap ((l.length : Int) - 1) = ((l.length - 1 : Nat) : Int) := by rw [IntWalk.i64_in _ (by omega)]; omega
    have hlc : l.length - 1 < l.length := by omega
    go_upto_region 6 with fail
    obtain ⟨W6, hW6⟩ : ∃ W, W = (w2.alloc (.cells #[.int .i64 x.f, .int .i64 x.v, .int .i64 x.m, .string x.d] 61)).alloc (.cells #[.int .i64 y.f, .int .i64 y.v, .int .i64 y.m, .string y.d] 61) := ⟨_, rfl⟩
    rw [← hW6]
    have b6 : Below w2.heap.size w2 W6 := by rw [hW6]; exact bthen (belowA _ _) (belowA _ _)
    have X6 : Hid (SgAt W6 w2.heap.size x) := Lib.hid (by rw [hW6]; exact (sgAlloc _ _ _).next (belowA _ _))
    have Y6 : Hid (SgAt W6 (w2.heap.size + 1) y) := Lib.hid (by rw [hW6]; have := sgAlloc (w2.alloc (.cells #[.int .i64 x.f, .int .i64 x.v, .int .i64 x.m, .string x.d] 61)) y 61; simpa using this)
    have I6 := Lib.hid (I2.out.next b6); have R6 := Lib.hid (R2.out.below b6); have Z6 := Lib.hid (Z2.out.next b6); have L6 := Lib.hid (bthen L2.out b6)
    have S6 : Hid (w.heap.size + 1 < W6.heap.size) := Lib.hid (by have := b6.size; have := S2.out; omega)
    obtain ⟨K, hK⟩ : ∃ K, (imgPgs l).length = K := ⟨_, rfl⟩
    obtain ⟨ta, hta⟩ : ∃ t, t = taOf l := ⟨_, rfl⟩
    obtain ⟨sz, hsz⟩ : ∃ t, t = szOf l := ⟨_, rfl⟩
    obtain ⟨hp, hhp⟩ : ∃ t, t = hpOf l := ⟨_, rfl⟩
    have hts := ta_of HO.out HF.out l.length (Nat.le_refl _)
    have hjl := (List.getElem?_eq_some_iff.1 HF.out.1).1
    rw [List.take_length, if_pos hjl, if_pos hjl] at hts
    have hta2 : ta = 16384 + x.v := by rw [hta]; exact hts.1
    have fx := okTo_at HO.out (Nat.le_refl _) hjl HF.out.1
    have fy := okTo_at HO.out (Nat.le_refl _) (by omega) hy
    have hsz2 : sz = wpN x.m := by rw [hsz, hts.2, wp_nPg (by omega)]
    have hhp2 : hp = wpN (y.v + y.m) := by
      have h := hp_snoc hy
      rw [show l.length - 1 + 1 = l.length by omega, List.take_length] at h
      rw [hhp]; exact h
    have CI := fun W (h : Ext W6 W) => imPgC n (some ⟨b, off, none⟩) cap l W (R6.out.below h) HO.out h4 hcap K hK
    have CE := fun W => endC y W (by omega) (by omega) (by omega) (by omega)
    have CP := fun W => pagesC (y.v + y.m) W (by omega) (by omega)
    have CX := fun W => pagesC x.m W (by omega) (by omega)
    rw [← hhp2] at CP
    rw [← hsz2] at CX
    have ewn : IntKind.i64.wrap (16384 + n) = 16384 + n := IntWalk.i64_in _ (by have := HN.out; omega)
    have ewx : IntKind.i64.wrap (16384 + x.v) = 16384 + x.v := IntWalk.i64_in _ (by omega)
    rw [← hta2] at ewx
    have HTA := Lib.hid hta2
    clear q0 q1 q2 q3 k0 i0 i1 i2 e1 hlc hts hsz2 hhp2 fx fy hjl b6 hW6 I2 R2 Z2 L2 S2
    refine wp_region_krs 16 [fun _ v => v = .agg #[.int .i64 n, .slice (some ⟨b, off, none⟩) l.length cap], O1 W6.heap.size K (imgPgs l), O2 W6.heap.size K (imgPgs l), fun _ v => v = .pointer (some ⟨w.heap.size, 0, none⟩), fun _ v => v = .int .i64 n, fun _ v => v = .int .i64 (16384 + n), fun _ v => v = .agg #[.int .i64 y.f, .int .i64 y.v, .int .i64 y.m, .string y.d], fun _ v => v = .int .i64 (y.v + y.m), fun _ v => v = .int .i64 hp,
      fun _ v => v = .pointer (some ⟨w2.heap.size, 1, none⟩), fun _ v => v = .int .i64 x.v, fun _ v => v = .int .i64 ta, fun _ v => v = .pointer (some ⟨w2.heap.size, 2, none⟩), fun _ v => v = .int .i64 x.m, fun _ v => v = .int .i64 sz, O3 W6.heap.size K (imgPgs l) (16384 + n) hp ta sz] hm (by rfl) (by kernel_rfl) (by kernel_rfl) (by kernel_rfl) (by kernel_rfl) (by kernel_rfl) ?_ ?_ ?_
    · intro j V hV w1 w2 v he h
      have hm := List.mem_of_getElem? hV
      simp only [List.mem_cons, List.not_mem_nil, or_false] at hm
      rcases hm with rfl | rfl | rfl | rfl | rfl | rfl | rfl | rfl | rfl | rfl | rfl | rfl | rfl | rfl | rfl | rfl
      all_goals first | exact h | exact O1.mono he h | exact O2.mono he h | exact O3.mono he h
    · intro i hi o V ho hV a wx he hs hd
      have hi' : i = 0 ∨ i = 1 ∨ i = 2 ∨ i = 3 ∨ i = 4 ∨ i = 5 ∨ i = 6 ∨ i = 7 ∨ i = 8 ∨ i = 9 ∨ i = 10 ∨ i = 11 ∨ i = 12 ∨ i = 13 ∨ i = 14 ∨ i = 15 := by simp at hi; omega
      clear hi
      rcases hi' with rfl | rfl | rfl | rfl | rfl | rfl | rfl | rfl | rfl | rfl | rfl | rfl | rfl | rfl | rfl | rfl
      all_goals obtain rfl := Option.some.inj ho
      all_goals obtain rfl := Option.some.inj hV
      · have Ix := I6.out.next he
        rw [loadImK rfl (by show a.tmps.getD 1 undef = _; rw [Array.getD_eq_getD_getElem?, hs.2.2 1 (noDst (by kernel_rfl))]; rfl) Ix.2.1 Ix.2.2]
        exact ⟨extSelf _, rfl⟩
      · have e32 : a.eval (.tmp 32) = .agg #[.int .i64 n, .slice (some ⟨b, off, none⟩) l.length cap] := hd ⟨0, .data⟩ (by simp) rfl _ _ _ rfl rfl rfl
        refine callK (vals := #[.agg #[.int .i64 n, .slice (some ⟨b, off, none⟩) l.length cap]]) rfl (by simp only [List.map_toArray, List.map_cons, List.map_nil, e32]; try rfl) (by go_simp) ((CI wx he).mono ?_)
        rintro e w' ⟨g, c, rfl, h1, h2⟩
        exact ⟨_, rfl, h2, g, c, rfl, h1.1, Joins.ownsRow_le h1.2 he.size⟩
      · obtain ⟨g, c, e33, h1⟩ : O1 W6.heap.size K (imgPgs l) wx (a.eval (.tmp 33)) := hd ⟨1, .data⟩ (by simp) rfl _ _ _ rfl rfl rfl
        rw [buildMK rfl e33]
        exact ⟨extSelf _, g, c, rfl, h1⟩
      · rw [fieldImK rfl (by show a.tmps.getD 1 undef = _; rw [Array.getD_eq_getD_getElem?, hs.2.2 1 (noDst (by kernel_rfl))]; rfl)]
        exact ⟨extSelf _, rfl⟩
      · have Ix := I6.out.next he
        rw [loadIK rfl (hd ⟨3, .data⟩ (by simp) rfl _ _ _ rfl rfl rfl) Ix.2.1]
        exact ⟨extSelf _, rfl⟩
      · rw [addIK rfl (hd ⟨4, .data⟩ (by simp) rfl _ _ _ rfl rfl rfl) ewn]
        exact ⟨extSelf _, rfl⟩
      · rw [loadSgK rfl (by show a.tmps.getD 8 undef = _; rw [Array.getD_eq_getD_getElem?, hs.2.2 8 (noDst (by kernel_rfl))]; rfl) (Y6.out.next he)]
        exact ⟨extSelf _, rfl⟩
      · have e38 : a.eval (.tmp 38) = .agg #[.int .i64 y.f, .int .i64 y.v, .int .i64 y.m, .string y.d] := hd ⟨6, .data⟩ (by simp) rfl _ _ _ rfl rfl rfl
        exact callK (vals := #[.agg #[.int .i64 y.f, .int .i64 y.v, .int .i64 y.m, .string y.d]]) rfl (by simp only [List.map_toArray, List.map_cons, List.map_nil, e38]; try rfl) (by go_simp) ((CE wx).mono fun e w' ⟨h1, h2⟩ => ⟨_, h1, h2, rfl⟩)
      · have e39 : a.eval (.tmp 39) = .int .i64 (y.v + y.m) := hd ⟨7, .data⟩ (by simp) rfl _ _ _ rfl rfl rfl
        exact callK (vals := #[.int .i64 (y.v + y.m)]) rfl (by simp only [List.map_toArray, List.map_cons, List.map_nil, e39]; try rfl) (by go_simp) ((CP wx).mono fun e w' ⟨h1, h2⟩ => ⟨_, h1, by rw [← h2]; exact extSelf _, rfl⟩)
      · rw [fieldK (by decide) rfl (by show a.tmps.getD 6 undef = _; rw [Array.getD_eq_getD_getElem?, hs.2.2 6 (noDst (by kernel_rfl))]; rfl)]
        exact ⟨extSelf _, rfl⟩
      · rw [loadIK rfl (hd ⟨9, .data⟩ (by simp) rfl _ _ _ rfl rfl rfl) (X6.out.next he).2.2.1]
        exact ⟨extSelf _, rfl⟩
      · rw [addIK rfl (hd ⟨10, .data⟩ (by simp) rfl _ _ _ rfl rfl rfl) (by rw [← HTA.out]; exact ewx)]
        exact ⟨extSelf _, by rw [HTA.out]⟩
      · rw [fieldK (by decide) rfl (by show a.tmps.getD 6 undef = _; rw [Array.getD_eq_getD_getElem?, hs.2.2 6 (noDst (by kernel_rfl))]; rfl)]
        exact ⟨extSelf _, rfl⟩
      · rw [loadIK rfl (hd ⟨12, .data⟩ (by simp) rfl _ _ _ rfl rfl rfl) (X6.out.next he).2.2.2.1]
        exact ⟨extSelf _, rfl⟩
      · have e45 : a.eval (.tmp 45) = .int .i64 x.m := hd ⟨13, .data⟩ (by simp) rfl _ _ _ rfl rfl rfl
        exact callK (vals := #[.int .i64 x.m]) rfl (by simp only [List.map_toArray, List.map_cons, List.map_nil, e45]; try rfl) (by go_simp) ((CX wx).mono fun e w' ⟨h1, h2⟩ => ⟨_, h1, by rw [← h2]; exact extSelf _, rfl⟩)
      · obtain ⟨g, c, e34, h1⟩ : O2 W6.heap.size K (imgPgs l) wx (a.eval (.tmp 34)) := hd ⟨2, .data⟩ (by simp) rfl _ _ _ rfl rfl rfl
        rw [buildLK rfl e34 (hd ⟨5, .data⟩ (by simp) rfl _ _ _ rfl rfl rfl) (hd ⟨8, .data⟩ (by simp) rfl _ _ _ rfl rfl rfl) (hd ⟨11, .data⟩ (by simp) rfl _ _ _ rfl rfl rfl) (hd ⟨14, .data⟩ (by simp) rfl _ _ _ rfl rfl rfl)]
        exact ⟨extSelf _, g, c, rfl, h1⟩
    intro a w7 he hs hh
    obtain ⟨g, cp, e47, own⟩ : O3 W6.heap.size K (imgPgs l) (16384 + n) hp ta sz w7 (a.tmps.getD 47 undef) := hh 15 (by simp) _ _ _ rfl rfl rfl
    have ea := same_litL hs [32, 33, 34, 35, 36, 37, 38, 39, 40, 41, 42, 43, 44, 45, 46, 47, 3] (by kernel_rfl) _ rfl
    simp only [List.foldl_cons, List.foldl_nil, List.set_cons_succ, List.set_cons_zero] at ea
    rw [e47] at ea
    generalize a.tmps.getD 32 undef = x32 at ea
    generalize a.tmps.getD 33 undef = x33 at ea
    generalize a.tmps.getD 34 undef = x34 at ea
    generalize a.tmps.getD 35 undef = x35 at ea
    generalize a.tmps.getD 36 undef = x36 at ea
    generalize a.tmps.getD 37 undef = x37 at ea
    generalize a.tmps.getD 38 undef = x38 at ea
    generalize a.tmps.getD 39 undef = x39 at ea
    generalize a.tmps.getD 40 undef = x40 at ea
    generalize a.tmps.getD 41 undef = x41 at ea
    generalize a.tmps.getD 42 undef = x42 at ea
    generalize a.tmps.getD 43 undef = x43 at ea
    generalize a.tmps.getD 44 undef = x44 at ea
    generalize a.tmps.getD 45 undef = x45 at ea
    generalize a.tmps.getD 46 undef = x46 at ea
    generalize a.tmps.getD 3 undef = x3 at ea
    clear hh hs e47
    subst ea
    have OW := Lib.hid own.2; have L7 := Lib.hid (bthen L6.out he)
    have RES := Z6.out.next he
    have S7 : Hid (w.heap.size + 1 < W6.heap.size) := S6
    have HTA2 := Lib.hid hta; have HSZ := Lib.hid hsz; have HHP := Lib.hid hhp; have HKK := Lib.hid hK
    clear own he CI CE CP CX ewn ewx hta hta2 hsz hhp hK HTA
    have s0 := RES.2.1 0 _ rfl
    have s1 := RES.2.1 1 _ rfl
    have s2 := RES.2.1 2 _ rfl
    have s3 := RES.2.1 3 _ rfl
    have s4 := RES.2.1 4 _ rfl
    have s5 := RES.2.1 5 _ rfl
    have s6 := RES.2.1 6 _ rfl
    have s7 := RES.2.1 7 _ rfl
    have s8 := RES.2.1 8 _ rfl
    have f0 := RES.2.2 0
    have f1 := RES.2.2 1
    have f2 := RES.2.2 2
    have f3 := RES.2.2 3
    have f4 := RES.2.2 4
    have f5 := RES.2.2 5
    have f6 := RES.2.2 6
    have f7 := RES.2.2 7
    have f8 := RES.2.2 8
    have RX := Lib.hid (((((((((RES.set (k := 0) (u := .slice (some ⟨g, 0, none⟩) K cp)).set (k := 1) (u := .int .i64 (16384 + n))).set (k := 2) (u := .int .i64 hp)).set (k := 3) (u := .int .i64 ta)).set (k := 4) (u := .int .i64 sz)).set (k := 5) (u := .slice none 0 0)).set (k := 6) (u := .slice none 0 0)).set (k := 7) (u := .slice none 0 0)).set (k := 8) (u := .int .i64 0))
    clear RES
    simp only [List.drop_succ_cons, List.drop_zero, wpTail]
    go_step
    go_step
    clear s0 s1 s2 s3 s4 s5 s6 s7 s8 f0 f1 f2 f3 f4 f5 f6 f7 f8
    go_wp2
    obtain ⟨_, rx, _⟩ := RX.out
    have r0 := rx 0 _ rfl
    have r1 := rx 1 _ rfl
    have r2 := rx 2 _ rfl
    have r3 := rx 3 _ rfl
    have r4 := rx 4 _ rfl
    have r5 := rx 5 _ rfl
    have r6 := rx 6 _ rfl
    have r7 := rx 7 _ rfl
    have r8 := rx 8 _ rfl
    clear rx
    refine bodyPost_ret (v := .tuple #[.agg #[.slice (some ⟨g, 0, none⟩) K cp, .int .i64 (16384 + n), .int .i64 hp, .int .i64 ta, .int .i64 sz, .slice none 0 0, .slice none 0 0, .slice none 0 0, .int .i64 0], .int .i64 0]) (by simp [results, Tryd.results13, go_sem, r0, r1, r2, r3, r4, r5, r6, r7, r8]) rfl ?_
    refine ⟨.inr ⟨rfl, g, cp, none, none, none, ?_, ?_⟩, ?_⟩
    · rw [HKK.out, HHP.out, HTA2.out, HSZ.out]
    · have hne : (Value.slice (some ⟨g, 0, none⟩) K cp).ownBlock ≠ some (w.heap.size + 1) := by
        intro e
        have h1 := (OW.out.lt g rfl).1
        have h2 := S7.out
        simp [Value.ownBlock] at e
        omega
      have h := Joins.ownsRow_le (ownsRow_setCell_other (ownsRow_setCell_other (ownsRow_setCell_other (ownsRow_setCell_other (ownsRow_setCell_other (ownsRow_setCell_other (ownsRow_setCell_other (ownsRow_setCell_other (ownsRow_setCell_other OW.out (a := ⟨w.heap.size + 1, 0, none⟩) hne (.slice (some ⟨g, 0, none⟩) K cp)) (a := ⟨w.heap.size + 1, 1, none⟩) hne (.int .i64 (16384 + n))) (a := ⟨w.heap.size + 1, 2, none⟩) hne (.int .i64 hp)) (a := ⟨w.heap.size + 1, 3, none⟩) hne (.int .i64 ta)) (a := ⟨w.heap.size + 1, 4, none⟩) hne (.int .i64 sz)) (a := ⟨w.heap.size + 1, 5, none⟩) hne (.slice none 0 0)) (a := ⟨w.heap.size + 1, 6, none⟩) hne (.slice none 0 0)) (a := ⟨w.heap.size + 1, 7, none⟩) hne (.slice none 0 0)) (a := ⟨w.heap.size + 1, 8, none⟩) hne (.int .i64 0)) (show w.heap.size ≤ W6.heap.size by have := S7.out; omega)
      unfold Owns
      rw [HKK.out]
      exact h
    · exact ((((((((L7.out.setCell (by simp) _).setCell (by simp) _).setCell (by simp) _).setCell (by simp) _).setCell (by simp) _).setCell (by simp) _).setCell (by simp) _).setCell (by simp) _).setCell (by simp) _
  · have hb : (c != 0) = true := bne_iff_ne.2 hz
    have HZ := Lib.hid hz
    clear hz
    have RES := Z1.out
    have s0 := RES.2.1 0 _ rfl
    have s1 := RES.2.1 1 _ rfl
    have s2 := RES.2.1 2 _ rfl
    have s3 := RES.2.1 3 _ rfl
    have s4 := RES.2.1 4 _ rfl
    have s5 := RES.2.1 5 _ rfl
    have s6 := RES.2.1 6 _ rfl
    have s7 := RES.2.1 7 _ rfl
    have s8 := RES.2.1 8 _ rfl
    have f0 := RES.2.2 0
    have f1 := RES.2.2 1
    have f2 := RES.2.2 2
    have f3 := RES.2.2 3
    have f4 := RES.2.2 4
    have f5 := RES.2.2 5
    have f6 := RES.2.2 6
    have f7 := RES.2.2 7
    have f8 := RES.2.2 8
    have RX := Lib.hid (((((((((RES.set (k := 0) (u := .slice none 0 0)).set (k := 1) (u := .int .i64 0)).set (k := 2) (u := .int .i64 0)).set (k := 3) (u := .int .i64 0)).set (k := 4) (u := .int .i64 0)).set (k := 5) (u := .slice none 0 0)).set (k := 6) (u := .slice none 0 0)).set (k := 7) (u := .slice none 0 0)).set (k := 8) (u := .int .i64 0))
    clear RES
    go_wp2
    obtain ⟨_, rx, _⟩ := RX.out
    have r0 := rx 0 _ rfl
    have r1 := rx 1 _ rfl
    have r2 := rx 2 _ rfl
    have r3 := rx 3 _ rfl
    have r4 := rx 4 _ rfl
    have r5 := rx 5 _ rfl
    have r6 := rx 6 _ rfl
    have r7 := rx 7 _ rfl
    have r8 := rx 8 _ rfl
    clear rx
    refine bodyPost_ret (v := .tuple #[.agg zLd, .int .i64 c]) (by simp [results, Tryd.results13, go_sem, r0, r1, r2, r3, r4, r5, r6, r7, r8, zLd]) rfl ?_
    exact ⟨.inl ⟨HZ.out, rfl⟩, ((((((((L1.out.setCell (by simp) _).setCell (by simp) _).setCell (by simp) _).setCell (by simp) _).setCell (by simp) _).setCell (by simp) _).setCell (by simp) _).setCell (by simp) _).setCell (by simp) _⟩
end Go.Proofs.YtcchcinnjahghaaDoor
