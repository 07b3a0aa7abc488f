/-
  What impl.SameMemory and spec.SameMemory do: they tell whether two memories are right and alike, changing nothing that was there; conditions: those in each head.
-/
import Derived.Test.YtcnmklgcifdmoaaLawMem
import Derived.Laws.StructEq
namespace Go.Proofs.Ytcnmklgcifdmoaa
open Go.RowKit Go.Sort
def eqPg (x y : Pg) : Bool := x.b == y.b && x.p == y.p && x.d.toList == y.d.toList
instance : Inhabited Pg := ⟨⟨0, 0, ⟨#[]⟩⟩⟩
theorem neqPg : NeqAt Try.prog 95 (fun x => .agg (pv x).toArray) eqPg := by
  refine ⟨fun x y w => ?_, GuardAt.agg _ (by kernel_rfl)⟩
  have u3 := Try.underlying3
  have a3 := Try.isAgg3
  have z3 := Try.sizeOf3
  have u9 := Try.underlying9
  have a9 := Try.isAgg9
  have z9 := Try.sizeOf9
  have hS : Try.prog.underlying 95 = some (.struct (Try.prog.fieldsOf 95)) := by kernel_rfl
  have hp : Try.prog.stoodInHeld 95 = false := by kernel_rfl
  simp only [pv]
  rw [run_neq_struct, show (10000 : Nat) = 9999 + 1 from rfl, run_equalIn_agg w 9999 95 _ _ hS hp]
  simp only [Program.fieldsOf, Try.underlying95]
  go_simp
  by_cases h1 : x.b = y.b <;> by_cases h2 : x.p = y.p <;> by_cases h3 : x.d.toList = y.d.toList <;> simp [h1, h2, h3, eqPg]
theorem eqPg_iff (x y : Pg) : eqPg x y = true ↔ x = y := by
  unfold eqPg
  simp only [Bool.and_eq_true, beq_iff_eq]
  constructor
  · rintro ⟨⟨h1, h2⟩, h3⟩
    rw [ByteArray.toList_eq, ByteArray.toList_eq] at h3
    have := WideShapes.bytes_inj h3
    cases x; cases y; simp_all
  · rintro rfl; exact ⟨⟨rfl, rfl⟩, rfl⟩
noncomputable def sameB (a b : List Pg) : Bool := @decide (a = b) (Classical.propDecidable _)
theorem sameB_yes {a b : List Pg} (h : a = b) : sameB a b = true := by unfold sameB; exact @decide_eq_true _ (Classical.propDecidable _) h
theorem sameB_no {a b : List Pg} (h : ¬ a = b) : sameB a b = false := by unfold sameB; exact @decide_eq_false _ (Classical.propDecidable _) h
theorem getB {l : List Pg} {k : Nat} {x : Pg} (h : l[k]? = some x) : l[k]! = x := by rw [List.getElem!_eq_getElem?_getD, h]; rfl
theorem allEq_same (a b : List Pg) : Lib.allEq eqPg a b = sameB a b := by
  by_cases h : a = b
  · subst h
    rw [sameB_yes rfl]
    exact Lib.allEq_all eqPg a a rfl fun j hj => (eqPg_iff _ _).2 rfl
  · rw [sameB_no h]
    by_cases hl : a.length = b.length
    · obtain ⟨k, hk, hne⟩ : ∃ k, k < a.length ∧ a[k]? ≠ b[k]? := by
        apply Classical.byContradiction
        intro hno
        apply h
        apply List.ext_getElem?
        intro i
        by_cases hi : i < a.length
        · apply Classical.byContradiction
          intro hx
          exact hno ⟨i, hi, hx⟩
        · rw [List.getElem?_eq_none (by omega), List.getElem?_eq_none (by omega)]
      refine Lib.allEq_elem eqPg a b k hk (by omega) ?_
      cases he : eqPg a[k]! b[k]! with
      | false => rfl
      | true =>
        have e := (eqPg_iff _ _).1 he
        rw [getB (List.getElem?_eq_getElem hk), getB (List.getElem?_eq_getElem (show k < b.length by omega))] at e
        rw [List.getElem?_eq_getElem hk, List.getElem?_eq_getElem (by omega), e] at hne
        exact absurd rfl hne
    · exact Lib.allEq_len eqPg a b hl
theorem Rd.cells3 {w : World} {b off : Nat} {l : List Pg} (h : Rd w (some ⟨b, off, none⟩) l) : ∀ j, j < l.length → ∀ i v, (pv l[j]!)[i]? = some v → w.cell? ⟨b, off + j * 3 + i, none⟩ = some v := by
  intro j hj i v hv
  have hx := List.getElem?_eq_getElem hj
  rw [getB hx] at hv
  obtain ⟨b', o', e, _, a0, a1, a2⟩ := h j _ hx
  cases e
  have hi : i < 3 := (List.getElem?_eq_some_iff.1 hv).1
  rcases (show i = 0 ∨ i = 1 ∨ i = 2 by omega) with rfl | rfl | rfl
  · cases hv; exact a0
  · cases hv; exact a1
  · cases hv; exact a2
theorem equalC (b1 o1 c1 b2 o2 c2 : Nat) (l l' : List Pg) (w : World) (hn : l.length ≤ 9223372036854775807) (hn' : l'.length ≤ 9223372036854775807) (hr : Rd w (some ⟨b1, o1, none⟩) l) (hr' : Rd w (some ⟨b2, o2, none⟩) l') :
    Calls Try.prog 83 #[.slice (some ⟨b1, o1, none⟩) l.length c1, .slice (some ⟨b2, o2, none⟩) l'.length c2] w fun e w' => e = .returned (.bool (sameB l l')) ∧ ∃ m, w' = w.drewN m := by
  have h := AnyQ.slices_Equal Try.layEqual 3 Try.isAgg95 Try.sizeOf95 pv pv_len eqPg neqPg b1 o1 l.length c1 b2 o2 l'.length c2 l l' w (Nat.le_refl _) (Nat.le_refl _) hn hn' hr.cells3 hr'.cells3
  rw [List.take_length, List.take_length, allEq_same] at h
  exact h
set_option maxHeartbeats 1000000 in
theorem l02SameC (p q : Option Addr) (c1 c2 : Nat) (l l' : List Pg) (w : World) (hn : l.length ≤ 9223372036854775807) (hr : Rd w p l) (hr' : Rd w q l') :
    Calls Try.prog 82 #[.agg #[.slice p l.length c1], .agg #[.slice q l'.length c2]] w fun e w' => e = .returned (.bool (sameB l l')) ∧ Below w.heap.size w w' := by
  have hm := mixed
  obtain ⟨W, hW⟩ : ∃ W, W = (w.alloc (.cells #[.slice p l.length c1] 36)).alloc (.cells #[.slice q l'.length c2] 36) := ⟨_, rfl⟩
  have L0 : Hid (Below w.heap.size w W) := Lib.hid (by rw [hW]; go_grown)
  have A0 : Hid (Bx W w.heap.size p c1 l) := Lib.hid (by rw [hW]; exact (Bx.new _ hr).next (below1 _ _))
  have B0 : Hid (Bx W (w.heap.size + 1) q c2 l') := Lib.hid (by rw [hW]; have := Bx.new (w := w.alloc (.cells #[.slice p l.length c1] 36)) (c := c2) 36 (hr'.below (below1 w _)); simpa using this)
  have HW := Lib.hid hW
  clear hr hr' hW
  by_cases hl : l.length = l'.length
  · have hl2 : ((l.length : Int) != (l'.length : Int)) = false := by rw [bne_eq_false_iff_eq]; omega
    have HLL := Lib.hid hl
    clear hl
    go_enter Try.func82, Try.ntmps82
    go_wp2
    rw [← HW.out]
    go_loopw [5] (fun i wr => ∃ k m : Nat, k ≤ l.length ∧ i = .int .i64 k ∧ Hid (wr = W.drewN m) ∧ Hid (∀ (j : Nat), j < k → l[j]? = l'[j]?)) (fun i _ => l.length - (intOf i).toNat)
    case atStart => exact ⟨0, 0, Nat.zero_le _, rfl, Lib.hid rfl, Lib.hid (fun j h => by omega)⟩
    case round =>
      obtain ⟨k, m, hk, rfl, HWR, HI⟩ := hrel
      have hbw : Below W.heap.size W wr := by rw [HWR.out]; exact below_draw m
      have A1 := Lib.hid (A0.out.next hbw); have B1 := Lib.hid (B0.out.next hbw); have L1 := Lib.hid (bthen L0.out hbw)
      have x1 := A1.out.2.1; have y1 := B1.out.2.1
      clear hbw
      by_cases hlt : k < l.length
      · have hlt' : k < l'.length := by have := HLL.out; omega
        obtain ⟨x, hx⟩ : ∃ x, l[k]? = some x := ⟨_, List.getElem?_eq_getElem hlt⟩
        obtain ⟨y, hy⟩ : ∃ y, l'[k]? = some y := ⟨_, List.getElem?_eq_getElem hlt'⟩
        obtain ⟨b, off, rfl, q0, a0, a1, a2⟩ := A1.out.2.2 k x hx
        obtain ⟨d, dff, rfl, r0, b0, b1, b2⟩ := B1.out.2.2 k y hy
        have hnq : ∀ w, Sem.run Try.prog (binOp .neq 95 (.agg #[.int .i64 x.b, .int .i64 x.p, .string x.d]) (.agg #[.int .i64 y.b, .int .i64 y.p, .string y.d])) w = .ok (.bool (!eqPg x y)) w := fun w => neqPg.1 x y w
        have hgd : ∀ (op : BinOp) (a b : Operand) (w : World), Sem.run Try.prog (eqGuard op 95 a b (.agg #[.int .i64 x.b, .int .i64 x.p, .string x.d]) (.agg #[.int .i64 y.b, .int .i64 y.p, .string y.d])) w = .ok () w := fun op a b w => neqPg.2 op a b x y w
        have HX := Lib.hid hx; have HY := Lib.hid hy
        clear hx hy q0 r0
        cases he : eqPg x y with
        | true =>
          rw [he] at hnq
          simp only [Bool.not_true] at hnq
          have HE := Lib.hid ((eqPg_iff x y).1 he)
          clear he
          go_wp2_with fail
          go_quiet (fail)
          go_wp2
          go_roundw
          case rel =>
            refine ⟨k + 1, m + nq, by omega, by go_num, Lib.hid (by rw [HWR.out, World.drewN_drewN]), Lib.hid (fun j hj => ?_)⟩
            by_cases e : j = k
            · subst e; rw [HX.out, HY.out, HE.out]
            · exact HI.out j (by omega)
          case measure => simp [intOf]; omega
        | false =>
          rw [he] at hnq
          simp only [Bool.not_false] at hnq
          have HE := Lib.hid he
          clear he
          go_wp2_with fail
          go_quiet (fail)
          go_wp2
          go_ret
          refine ⟨ret_b (sameB_no (fun e => ?_)).symm, bthen L1.out (below_draw nq)⟩
          have h1 := HX.out
          rw [e, HY.out] at h1
          cases h1
          have := HE.out
          rw [(eqPg_iff _ _).2 rfl] at this
          cases this
      · obtain rfl : k = l.length := by omega
        go_wp2
        go_ret
        refine ⟨ret_b (sameB_yes ?_).symm, L1.out⟩
        apply List.ext_getElem?
        intro i
        by_cases hi : i < l.length
        · exact HI.out i hi
        · have hll := HLL.out
          rw [List.getElem?_eq_none (by omega), List.getElem?_eq_none (by omega)]
  · have hl2 : ((l.length : Int) != (l'.length : Int)) = true := by rw [bne_iff_ne]; omega
    have HL := Lib.hid hl
    clear hl
    go_enter Try.func82, Try.ntmps82
    go_wp2
    go_ret
    exact ⟨ret_b (sameB_no (fun e => HL.out (by rw [e]))).symm, by rw [← HW.out]; exact L0.out⟩
noncomputable def same2 (a b : List Pg) : Bool := okB a && sameB a b
theorem same2_no {a b : List Pg} (h : ¬ MemOk a) : same2 a b = false := by unfold same2; rw [okB_no h]; rfl
theorem same2_yes {a b : List Pg} (h : MemOk a) : same2 a b = sameB a b := by unfold same2; rw [okB_yes h]; rfl
set_option maxHeartbeats 1000000 in
theorem sameI (b1 o1 c1 b2 o2 c2 : Nat) (l l' : List Pg) (w : World) (hs : Small l) (hn' : l'.length ≤ 9223372036854775807) (hr : Rd w (some ⟨b1, o1, none⟩) l) (hr' : Rd w (some ⟨b2, o2, none⟩) l') :
    Calls Try.prog 59 #[.agg #[.slice (some ⟨b1, o1, none⟩) l.length c1], .agg #[.slice (some ⟨b2, o2, none⟩) l'.length c2]] w fun e w' => e = .returned (.bool (same2 l l')) ∧ Below w.heap.size w w' := by
  obtain ⟨W, hW⟩ : ∃ W, W = (w.alloc (.cells #[.slice (some ⟨b1, o1, none⟩) l.length c1] 36)).alloc (.cells #[.slice (some ⟨b2, o2, none⟩) l'.length c2] 36) := ⟨_, rfl⟩
  have L0 : Hid (Below w.heap.size w W) := Lib.hid (by rw [hW]; go_grown)
  have A0 : Hid (Bx W w.heap.size (some ⟨b1, o1, none⟩) c1 l) := Lib.hid (by rw [hW]; exact (Bx.new _ hr).next (below1 _ _))
  have B0 : Hid (Bx W (w.heap.size + 1) (some ⟨b2, o2, none⟩) c2 l') := Lib.hid (by rw [hW]; have := Bx.new (w := w.alloc (.cells #[.slice (some ⟨b1, o1, none⟩) l.length c1] 36)) (c := c2) 36 (hr'.below (below1 w _)); simpa using this)
  have HW := Lib.hid hW; have HS := Lib.hid hs
  clear hr hr' hW hs
  go_enter Try.func59, Try.ntmps59
  go_wp2_with fail
  rw [← HW.out]
  refine (memOkC _ c1 l W (.inr ⟨b1, o1, rfl⟩) HS.out A0.out.2.2).mono ?_
  rintro e w1 ⟨rfl, hb1⟩
  have L1 := Lib.hid (bthen L0.out hb1); have A1 := Lib.hid (A0.out.next hb1); have B1 := Lib.hid (B0.out.next hb1)
  have x1 := A1.out.2.1; have y1 := B1.out.2.1
  clear hb1
  by_cases hm : MemOk l
  · have hy := okB_yes hm
    have HM := Lib.hid hm
    clear hm
    go_wp2_with fail
    refine (equalC b1 o1 c1 b2 o2 c2 l l' w1 (by have := HS.out.1; omega) hn' A1.out.2.2 B1.out.2.2).mono ?_
    rintro e w2 ⟨rfl, m, rfl⟩
    go_wp2
    go_ret
    exact ⟨ret_b (same2_yes HM.out).symm, bthen L1.out (below_draw m)⟩
  · have hn := okB_no hm
    have HM := Lib.hid hm
    clear hm
    go_wp2
    go_ret
    exact ⟨ret_b (same2_no HM.out).symm, L1.out⟩
end Go.Proofs.Ytcnmklgcifdmoaa
