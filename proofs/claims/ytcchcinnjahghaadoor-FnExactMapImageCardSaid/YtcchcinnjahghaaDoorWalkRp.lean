/-
  What bytes.Repeat answers of one byte: so many of it, in memory of its own; condition: that the byte lies there.
-/
import Derived.Test.YtcchcinnjahghaaDoorMathLf
import Derived.Test.YtcchcinnjahghaaDoorShelf
import Derived.Test.YtcchcinnjahghaaDoorWalkKw
import Derived.Test.YtcchcinnjahghaaDoorWalkHd
import Derived.Lib.MakeNoZero
import Derived.Laws.IdiomCopy
import Derived.Laws.Externs
import Derived.Deep.RegionLaw
namespace Go.Proofs.YtcchcinnjahghaaDoor
open Go.RowKit Go.Sort
set_option linter.unusedVariables false
set_option linter.unusedSimpArgs false
section
variable {P : Program}
theorem copyStep {ops : Array Oper} {o : Oper} {a : Act} {w w' : World} {K : Act → World → Prop} {Q : Exit → Act → World → Prop} {E : Prop} {d s : Operand} {t u : TypeId} {x y z : Value} (hg : o.guard = none)
    (ho : o.op = Op.call { callee := Callee.builtin Builtin.copy, args := #[d, s], argTypes := #[t, u] }) (hx : a.eval d = x) (hy : a.eval s = y) (hr : (Builtin.copy_ #[t, u] o.type #[x, y]).run P w = .ok z w') (hK : K (a.put o.dst z) w') :
    if Region.wanted o (yielded ops a.tmps) = true then Oper.wp P o a w K Q else E := by
  have hw : Region.wanted o (yielded ops a.tmps) = true := by simp [Region.wanted, hg]
  rw [if_pos hw]
  unfold Oper.wp
  simp [execOp, ho, resolve, invoke, builtin, hx, hy, hr, Result.andThen]
  exact hK
theorem copyList {ops : Array Oper} {rest : List Oper} {o : Oper} {a : Act} {w w' : World} {Q : Exit → Act → World → Prop} {d s : Operand} {t u : TypeId} {x y z : Value} (hg : o.guard = none)
    (ho : o.op = Op.call { callee := Callee.builtin Builtin.copy, args := #[d, s], argTypes := #[t, u] }) (hx : a.eval d = x) (hy : a.eval s = y) (hr : (Builtin.copy_ #[t, u] o.type #[x, y]).run P w = .ok z w') (hK : wpList P ops Q rest (a.put o.dst z) w') : wpList P ops Q (o :: rest) a w := by
  refine wpList_plain hg fun _ hk => ?_
  unfold Oper.wp
  simp [execOp, ho, resolve, invoke, builtin, hx, hy, hr, Result.andThen]
  exact hk _ _ hK
end
theorem sliceK1 {a : Act} {w : World} {o : Oper} {i j : Nat} {u v : Value} {k : Int} (ho : o.op = Op.slice 97 (.tmp i) (some (.tmp j)) none none) (hx : a.tmps.getD i undef = u) (hy : a.tmps.getD j undef = .int .i64 k) (hr : (Instr.slice 97 u (some (.int .i64 k)) none none).run Tryd.prog w = .ok v w) : (execOp a.eval o).run Tryd.prog w = .ok (.value v) w := by
  have hx' : a.tmps[i]?.getD undef = u := by rw [← Array.getD_eq_getD_getElem?]; exact hx
  have hy' : a.tmps[j]?.getD undef = .int .i64 k := by rw [← Array.getD_eq_getD_getElem?]; exact hy
  obtain ⟨od, op, oty, ops, oaf, ogd⟩ := o
  simp only at ho
  subst ho
  go_simp
theorem sliceK2 {a : Act} {w : World} {o : Oper} {i j : Nat} {u v : Value} {k : Int} (ho : o.op = Op.slice 97 (.tmp i) none (some (.tmp j)) none) (hx : a.tmps.getD i undef = u) (hy : a.tmps.getD j undef = .int .i64 k) (hr : (Instr.slice 97 u none (some (.int .i64 k)) none).run Tryd.prog w = .ok v w) : (execOp a.eval o).run Tryd.prog w = .ok (.value v) w := by
  have hx' : a.tmps[i]?.getD undef = u := by rw [← Array.getD_eq_getD_getElem?]; exact hx
  have hy' : a.tmps[j]?.getD undef = .int .i64 k := by rw [← Array.getD_eq_getD_getElem?]; exact hy
  obtain ⟨od, op, oty, ops, oaf, ogd⟩ := o
  simp only at ho
  subst ho
  go_simp
theorem addKK {a : Act} {w : World} {o : Oper} {i j : Nat} {u v : Int} (ho : o.op = Op.binOp BinOp.add 3 (.tmp i) (.tmp j) 3) (hx : a.tmps.getD i undef = .int .i64 u) (hy : a.tmps.getD j undef = .int .i64 v) (hw : IntKind.i64.wrap (u + v) = u + v) : (execOp a.eval o).run Tryd.prog w = .ok (.value (.int .i64 (u + v))) w := by
  have hx' : a.tmps[i]?.getD undef = .int .i64 u := by rw [← Array.getD_eq_getD_getElem?]; exact hx
  have hy' : a.tmps[j]?.getD undef = .int .i64 v := by rw [← Array.getD_eq_getD_getElem?]; exact hy
  obtain ⟨od, op, oty, ops, oaf, ogd⟩ := o
  simp only at ho
  subst ho
  go_simp
theorem copyK {P : Program} {o : Oper} {a : Act} {w w' : World} {i j : Nat} {t u : TypeId} {x y z : Value}
    (ho : o.op = Op.call { callee := Callee.builtin Builtin.copy, args := #[.tmp i, .tmp j], argTypes := #[t, u] }) (hx : a.tmps.getD i undef = x) (hy : a.tmps.getD j undef = y) (hr : (Builtin.copy_ #[t, u] o.type #[x, y]).run P w = .ok z w') : (execOp a.eval o).run P w = .ok (.value z) w' := by
  have hx' : a.tmps[i]?.getD undef = x := by rw [← Array.getD_eq_getD_getElem?]; exact hx
  have hy' : a.tmps[j]?.getD undef = y := by rw [← Array.getD_eq_getD_getElem?]; exact hy
  simp [execOp, ho, resolve, invoke, builtin, Act.eval, hx', hy', hr, Result.andThen]
theorem CellsAt.sets {b : Nat} : ∀ (vs : List Value) (o : Nat) (W : World) (us : List Value), CellsAt W b us → o + vs.length ≤ us.length → CellsAt (W.setCells b o vs) b (us.take o ++ vs ++ us.drop (o + vs.length))
  | [], o, W, us, h, hl => by
    rw [show W.setCells b o [] = W from rfl]
    simpa using h
  | v :: r, o, W, us, h, hl => by
    have hl' : o < us.length := by simp at hl; omega
    have ih := CellsAt.sets r (o + 1) (W.setCell ⟨b, o, none⟩ v) (us.set o v) (h.set) (by simp at hl ⊢; omega)
    have e : (us.set o v).take (o + 1) ++ r ++ (us.set o v).drop (o + 1 + r.length) = us.take o ++ v :: r ++ us.drop (o + (v :: r).length) := by
      rw [List.take_succ_eq_append_getElem (by simpa using hl'), List.take_set_of_le (Nat.le_refl _), List.getElem_set_self, List.drop_set_of_lt (by omega)]
      simp [Nat.add_assoc, Nat.add_comm 1]
    rw [e] at ih
    exact ih
theorem below_sets {B b : Nat} {w : World} (hb : B ≤ b) : ∀ (vs : List Value) (o : Nat) (W : World), Below B w W → Below B w (W.setCells b o vs)
  | [], _, _, h => h
  | v :: r, o, W, h => below_sets hb r (o + 1) _ (h.setCell (p := ⟨b, o, none⟩) hb v)
theorem BV_rep (n : Nat) (x : UInt8) : BV (List.replicate n x) = List.replicate n (.int .u8 (x.toNat : Int)) := by simp [BV]
set_option maxRecDepth 20000 in
set_option maxHeartbeats 4000000 in
theorem repC (g off cap : Nat) (x : UInt8) (n : Nat) (w : World) (hc : w.cell? ⟨g, off, none⟩ = some (.int .u8 (x.toNat : Int))) (hg : g < w.heap.size) (h1 : 0 < n) (h2 : n ≤ 8192) :
    Calls Tryd.prog 84 #[.slice (some ⟨g, off, none⟩) 1 cap, .int .i64 (n : Int)] w fun e w' => e = .returned (.slice (some ⟨w.heap.size, 0, none⟩) n n) ∧ CellsAt w' w.heap.size (BV (List.replicate n x)) ∧ Below w.heap.size w w' := by
  have hm := mixed
  have e1 : ((n : Int) == 0) = false := beq_eq_false_iff_ne.2 (by omega)
  have q1 : (1 * n / 18446744073709551616 : Nat) = 0 := by omega
  have q2 : (1 * n % 18446744073709551616 : Nat) = n := by omega
  have C := Lib.hid (fun w => show Calls Tryd.prog 97 #[.int .u64 1, .int .u64 (n : Int)] w fun e w' => e = .returned (.tuple #[.int .u64 0, .int .u64 (n : Int)]) ∧ w' = w from by
    have h := Tryd.bits_Mul 1 n (by decide) (by omega) w
    rw [q1, q2] at h
    exact h)
  obtain ⟨cs, hrunM, hle, _⟩ := Lib.run_makeNoZero (P := Tryd.prog) w #[3] 97 5 Tryd.underlying97 n (by omega)
  have hcall : (callFunc 98 #[.int .i64 (n : Int)]).run Tryd.prog w = .ok (.value (.slice (some ⟨w.heap.size, 0, none⟩) n cs.size)) ((w.alloc (.cells cs 5)).drewN 2) := by
    rw [run_callFunc_extern Tryd.func98 (by kernel_rfl) (by kernel_rfl) (by kernel_rfl) (e := Extern.BytealgMakeNoZero.makeNoZero #[3] #[97]) (by kernel_rfl), hrunM]
    rfl
  clear hrunM q1 q2
  have HC := Lib.hid hc
  clear hc
  go_enter Tryd.func84, Tryd.ntmps84
  go_wp2_with fail
  refine (C.out _).mono ?_
  rintro e w1 ⟨rfl, rfl⟩
  have u1 : (n : Int) ≤ 9223372036854775807 := by omega
  have i0 : (0 : Int) ≤ (n : Int) := by omega
  have i1 : (n : Int) ≤ (cs.size : Int) := by omega
  clear C
  obtain ⟨W1, hW1⟩ : ∃ W, W = (w1.alloc (.cells cs 5)).drewN 2 := ⟨_, rfl⟩
  obtain ⟨J, hJ⟩ : ∃ J, J = cs.toList := ⟨_, rfl⟩
  have hJl : n ≤ J.length := by rw [hJ]; simpa using hle
  have b1 : Below w1.heap.size w1 W1 := by rw [hW1]; exact (below1 _ _).trans (below_draw 2)
  have A1 : CellsAt W1 w1.heap.size J := by rw [hW1, hJ]; exact (CellsAt.of_block (heap_alloc_new w1 (.cells cs 5))).next (below_draw 2)
  have hs1 : (Tryd.prog.info? 5).map (·.size) = some 1 := by kernel_rfl
  have cut (o m : Nat) (a : Addr) (sl sc : Nat) (W : World) (K : List Value) (hA : CellsAt W w1.heap.size K) (hK : n ≤ K.length) (hm : m = Nat.min sl (n - o)) (hon : o ≤ n) (hsrc : ∀ j, j < m → W.cell? (a.add j) = some (.int .u8 (x.toNat : Int))) :
      (Builtin.copy_ #[97, 97] 3 #[.slice (some ⟨w1.heap.size, o, none⟩) (n - o) (n - o), .slice (some a) sl sc]).run Tryd.prog W = .ok (.int .i64 (m : Int)) (W.setCells w1.heap.size o (List.replicate m (.int .u8 (x.toNat : Int)))) := by
    have hmn : o + m ≤ n := by rw [hm]; have : Nat.min sl (n - o) ≤ n - o := Nat.min_le_right _ _; omega
    have h := run_copy_cells (P := Tryd.prog) W 97 97 3 5 w1.heap.size o (n - o) (n - o) a sl sc (List.replicate m (.int .u8 (x.toNat : Int))) Tryd.underlying97 hs1 (by simpa using hm)
      (fun j v hj => by
        rw [List.getElem?_replicate] at hj
        split at hj
        · cases hj; exact hsrc j (by assumption)
        · cases hj)
      (fun j hj => by
        have hj' : j < m := by simpa using hj
        rw [hA.2.1 (o + j) _ (List.getElem?_eq_getElem (by omega))]; rfl)
      (fun j hj => hA.2.2 (o + j))
      (fun v hv => by obtain ⟨_, rfl⟩ := List.mem_replicate.1 hv; rfl)
    rw [List.length_replicate] at h
    exact h
  have ad (b o i : Nat) : (⟨b, o, none⟩ : Addr).add i = ⟨b, o + i, none⟩ := by unfold Addr.add; split <;> simp_all
  have hr0 := cut 0 1 ⟨g, off, none⟩ 1 cap W1 J A1 hJl (by rw [Nat.sub_zero]; exact (Nat.min_eq_left h1).symm) (Nat.zero_le _) (fun j hj => by
    obtain rfl : j = 0 := by omega
    rw [ad, Nat.add_zero]
    exact (b1.cell (p := ⟨g, off, none⟩) hg).trans HC.out)
  rw [Nat.sub_zero] at hr0
  have A2 : CellsAt (W1.setCells w1.heap.size 0 (List.replicate 1 (.int .u8 (x.toNat : Int)))) w1.heap.size (List.replicate 1 (.int .u8 (x.toNat : Int)) ++ J.drop 1) := by
    have h := CellsAt.sets (List.replicate 1 (.int .u8 (x.toNat : Int))) 0 W1 J A1 (by rw [List.length_replicate]; omega)
    simpa using h
  have b2 := below_sets (b := w1.heap.size) (Nat.le_refl _) (List.replicate 1 (.int .u8 (x.toNat : Int))) 0 W1 b1
  obtain ⟨W2, hW2⟩ : ∃ W, W = W1.setCells w1.heap.size 0 (List.replicate 1 (.int .u8 (x.toNat : Int))) := ⟨_, rfl⟩
  rw [← hW2] at hr0 A2 b2
  have HA2 := Lib.hid A2; have HB2 := Lib.hid b2; have HJL := Lib.hid hJl; have CUT := Lib.hid cut; have AD := Lib.hid ad
  rw [hW1] at hr0
  clear A1 b1 A2 b2 hW2 cut ad hJ hJl hs1
  go_wp2_with (at_builtin; refine copyList rfl rfl rfl rfl hr0 ?_)
  go_loopw [10] (fun v wr => ∃ k : Nat, 0 < k ∧ k ≤ n ∧ v = .int .i64 (k : Int) ∧ Hid (CellsAt wr w1.heap.size (List.replicate k (.int .u8 (x.toNat : Int)) ++ J.drop k)) ∧ Hid (Below w1.heap.size w1 wr)) (fun v _ => n - (intOf v).toNat)
  case atStart => exact ⟨1, by decide, h1, rfl, HA2, HB2⟩
  case round =>
    obtain ⟨k, hk0, hk, rfl, HA, HL⟩ := hrel
    by_cases hlt : k < n
    · have hlt2 : (k : Int) < (n : Int) := by omega
      obtain ⟨m, hm'⟩ : ∃ m, m = Nat.min k (n - k) := ⟨_, rfl⟩
      have hm1 : 0 < m ∧ k + m ≤ n := by
        have h3 : Nat.min k (n - k) ≤ n - k := Nat.min_le_right _ _
        have h4 : 0 < Nat.min k (n - k) := Nat.lt_min.2 ⟨hk0, by omega⟩
        omega
      have hJL := HJL.out
      have HAD := HA.out.next (below_draw 1)
      have hr' := CUT.out k m ⟨w1.heap.size, 0, none⟩ k n wr.drew _ HAD (by simp; omega) hm' (Nat.le_of_lt hlt) (fun j hj => by
        have h3 : Nat.min k (n - k) ≤ k := Nat.min_le_left _ _
        rw [AD.out, Nat.zero_add]
        exact HAD.2.1 j _ (by rw [List.getElem?_append_left (by simp; omega), List.getElem?_replicate, if_pos (by omega)]))
      have A3 : CellsAt (wr.drew.setCells w1.heap.size k (List.replicate m (.int .u8 (x.toNat : Int)))) w1.heap.size (List.replicate (k + m) (.int .u8 (x.toNat : Int)) ++ J.drop (k + m)) := by
        have h := CellsAt.sets (List.replicate m (.int .u8 (x.toNat : Int))) k wr.drew _ HAD (by simp; omega)
        have e : ((List.replicate k (Value.int .u8 (x.toNat : Int)) ++ J.drop k).take k ++ List.replicate m (Value.int .u8 (x.toNat : Int)) ++ (List.replicate k (Value.int .u8 (x.toNat : Int)) ++ J.drop k).drop (k + (List.replicate m (Value.int .u8 (x.toNat : Int))).length)) = List.replicate (k + m) (Value.int .u8 (x.toNat : Int)) ++ J.drop (k + m) := by
          rw [List.length_replicate, List.take_append, List.drop_append, List.length_replicate, List.take_replicate, Nat.min_self, Nat.sub_self, List.take_zero, List.append_nil, List.drop_replicate, List.drop_drop, ← List.replicate_append_replicate]
          have e1 : k - (k + m) = 0 := by omega
          have e2 : k + (k + m - k) = k + m := by omega
          rw [e1, e2]
          simp
        rw [e] at h
        exact h
      have B3 := below_sets (b := w1.heap.size) (Nat.le_refl _) (List.replicate m (.int .u8 (x.toNat : Int))) k wr.drew HL.out.drew
      have sl1 : ∀ W, (Instr.slice 97 (.slice (some ⟨w1.heap.size, 0, none⟩) n n) (some (.int .i64 (k : Int))) none none).run Tryd.prog W = .ok (.slice (some ⟨w1.heap.size, k, none⟩) (n - k) (n - k)) W := fun W => by
        have ht' : Tryd.prog.underlying 97 = some (.slice (Tryd.prog.elem 97)) := by simp [Program.elem, Tryd.underlying97]
        have he : Tryd.prog.elem 97 = 5 := by simp [Program.elem, Tryd.underlying97]
        rw [run_slice_l W 97 _ _ _ ht' .i64 _ (by omega) (by omega), he, Tryd.sizeOf5]
        have hne : ¬ n = k := by omega
        have hk0' : ¬ k = 0 := by omega
        simp [Result.andThen, sliced, Addr.add, hne, hk0']
      have sl2 : ∀ W, (Instr.slice 97 (.slice (some ⟨w1.heap.size, 0, none⟩) n n) none (some (.int .i64 (k : Int))) none).run Tryd.prog W = .ok (.slice (some ⟨w1.heap.size, 0, none⟩) k n) W := fun W => by
        have i0 : (0 : Int) ≤ (k : Int) := by omega
        have i1 : (k : Int) ≤ (n : Int) := by omega
        go_simp
      have ekm : IntKind.i64.wrap ((k : Int) + (m : Int)) = (k : Int) + (m : Int) := IntWalk.i64_in _ (by omega)
      have HA3 := Lib.hid A3; have HB3 := Lib.hid B3; have HM1 := Lib.hid hm1; have HMM := Lib.hid hm'
      have mn : min (k : Int) (n : Int) = (k : Int) := Int.min_eq_left (by omega)
      have j0 : (0 : Int) ≤ (k : Int) := by omega
      have j1 : (k : Int) ≤ (n : Int) := by omega
      clear A3 B3 hm1 hm' hJL
      go_wp2_with fail
      refine wp_region_kw (fun d w => w = if d then wr.drew.setCells w1.heap.size k (List.replicate m (.int .u8 (x.toNat : Int))) else wr.drew) 7 [fun v => v = (.int .i64 (k : Int)), fun v => v = (.slice (some ⟨w1.heap.size, 0, none⟩) n n), fun v => v = (.int .i64 (k : Int)), fun v => v = (.slice (some ⟨w1.heap.size, k, none⟩) (n - k) (n - k)), fun v => v = (.slice (some ⟨w1.heap.size, 0, none⟩) n n), fun v => v = (.int .i64 (k : Int)), fun v => v = (.slice (some ⟨w1.heap.size, 0, none⟩) k n), fun v => v = (.int .i64 (m : Int)), fun v => v = (.int .i64 ((k : Int) + (m : Int))), fun v => v = (.int .i64 ((k : Int) + (m : Int)))] hm (by rfl) (by kernel_rfl) (by kernel_rfl) (by kernel_rfl) (by kernel_rfl) (by decide) (by simp) ?_ ?_
      · intro i hi o V ho hV d a wx hC hd0 hs hd
        have hi' : i = 0 ∨ i = 1 ∨ i = 2 ∨ i = 3 ∨ i = 4 ∨ i = 5 ∨ i = 6 ∨ i = 7 ∨ i = 8 ∨ i = 9 := by simp at hi; omega
        clear hi
        rcases hi' with rfl | rfl | rfl | rfl | rfl | rfl | rfl | rfl | rfl | rfl
        · obtain rfl := Option.some.inj ho
          obtain rfl := Option.some.inj hV
          rw [moveK a wx _ 10 (.int .i64 (k : Int)) (.inl rfl) (by show a.tmps.getD 10 undef = _; rw [Array.getD_eq_getD_getElem?, hs.2.2 10 (noDstW (by kernel_rfl))]; rfl)]
          exact ⟨by simpa using hC, rfl⟩
        · obtain rfl := Option.some.inj ho
          obtain rfl := Option.some.inj hV
          rw [moveK a wx _ 9 (.slice (some ⟨w1.heap.size, 0, none⟩) n n) (.inl rfl) (by show a.tmps.getD 9 undef = _; rw [Array.getD_eq_getD_getElem?, hs.2.2 9 (noDstW (by kernel_rfl))]; rfl)]
          exact ⟨by simpa using hC, rfl⟩
        · obtain rfl := Option.some.inj ho
          obtain rfl := Option.some.inj hV
          rw [moveK a wx _ 10 (.int .i64 (k : Int)) (.inl rfl) (by show a.tmps.getD 10 undef = _; rw [Array.getD_eq_getD_getElem?, hs.2.2 10 (noDstW (by kernel_rfl))]; rfl)]
          exact ⟨by simpa using hC, rfl⟩
        · obtain rfl := Option.some.inj ho
          obtain rfl := Option.some.inj hV
          have ex : a.tmps.getD 68 undef = (.slice (some ⟨w1.heap.size, 0, none⟩) n n) := hd ⟨1, .data⟩ (by simp) rfl _ _ _ rfl rfl rfl
          have ey : a.tmps.getD 69 undef = (.int .i64 (k : Int)) := hd ⟨2, .data⟩ (by simp) rfl _ _ _ rfl rfl rfl
          rw [sliceK1 rfl ex ey (sl1 wx)]
          exact ⟨by simpa using hC, rfl⟩
        · obtain rfl := Option.some.inj ho
          obtain rfl := Option.some.inj hV
          rw [moveK a wx _ 9 (.slice (some ⟨w1.heap.size, 0, none⟩) n n) (.inl rfl) (by show a.tmps.getD 9 undef = _; rw [Array.getD_eq_getD_getElem?, hs.2.2 9 (noDstW (by kernel_rfl))]; rfl)]
          exact ⟨by simpa using hC, rfl⟩
        · obtain rfl := Option.some.inj ho
          obtain rfl := Option.some.inj hV
          rw [moveK a wx _ 11 (.int .i64 (k : Int)) (.inl rfl) (by show a.tmps.getD 11 undef = _; rw [Array.getD_eq_getD_getElem?, hs.2.2 11 (noDstW (by kernel_rfl))]; rfl)]
          exact ⟨by simpa using hC, rfl⟩
        · obtain rfl := Option.some.inj ho
          obtain rfl := Option.some.inj hV
          have ex : a.tmps.getD 71 undef = (.slice (some ⟨w1.heap.size, 0, none⟩) n n) := hd ⟨4, .data⟩ (by simp) rfl _ _ _ rfl rfl rfl
          have ey : a.tmps.getD 72 undef = (.int .i64 (k : Int)) := hd ⟨5, .data⟩ (by simp) rfl _ _ _ rfl rfl rfl
          rw [sliceK2 rfl ex ey (sl2 wx)]
          exact ⟨by simpa using hC, rfl⟩
        · obtain rfl := Option.some.inj ho
          obtain rfl := Option.some.inj hV
          obtain rfl := hd0 rfl
          obtain rfl : wx = wr.drew := by simpa using hC
          have ex : a.tmps.getD 70 undef = (.slice (some ⟨w1.heap.size, k, none⟩) (n - k) (n - k)) := hd ⟨3, .data⟩ (by simp) rfl _ _ _ rfl rfl rfl
          have ey : a.tmps.getD 73 undef = (.slice (some ⟨w1.heap.size, 0, none⟩) k n) := hd ⟨6, .data⟩ (by simp) rfl _ _ _ rfl rfl rfl
          rw [copyK rfl ex ey hr']
          exact ⟨by simp, rfl⟩
        · obtain rfl := Option.some.inj ho
          obtain rfl := Option.some.inj hV
          rw [addKK rfl (hd ⟨0, .data⟩ (by simp) rfl _ _ _ rfl rfl rfl) (hd ⟨7, .data⟩ (by simp) rfl _ _ _ rfl rfl rfl) ekm]
          exact ⟨by simpa using hC, rfl⟩
        · obtain rfl := Option.some.inj ho
          obtain rfl := Option.some.inj hV
          rw [moveK a wx _ 75 (.int .i64 ((k : Int) + (m : Int))) (.inr rfl) (hd ⟨8, .data⟩ (by simp) rfl _ _ _ rfl rfl rfl)]
          exact ⟨by simpa using hC, rfl⟩
      intro a wx hC hs hh
      obtain rfl : wx = wr.drew.setCells w1.heap.size k (List.replicate m (.int .u8 (x.toNat : Int))) := by simpa using hC
      have e10 : a.tmps.getD 10 undef = (.int .i64 ((k : Int) + (m : Int))) := hh 9 (by simp) _ _ _ rfl rfl rfl
      have ea := same_litL hs [67, 68, 69, 70, 71, 72, 73, 74, 75, 10] (by kernel_rfl) _ rfl
      simp only [List.foldl_cons, List.foldl_nil, List.set_cons_succ, List.set_cons_zero] at ea
      rw [e10] at ea
      generalize a.tmps.getD 67 undef = z67 at ea
      generalize a.tmps.getD 68 undef = z68 at ea
      generalize a.tmps.getD 69 undef = z69 at ea
      generalize a.tmps.getD 70 undef = z70 at ea
      generalize a.tmps.getD 71 undef = z71 at ea
      generalize a.tmps.getD 72 undef = z72 at ea
      generalize a.tmps.getD 73 undef = z73 at ea
      generalize a.tmps.getD 74 undef = z74 at ea
      generalize a.tmps.getD 75 undef = z75 at ea
      clear hh hs e10 hC
      subst ea
      go_wp2
      go_roundw
      case rel => exact ⟨k + m, by omega, HM1.out.2, rfl, HA3, HB3⟩
      case measure => simp [intOf]; have := HM1.out; omega
    · obtain rfl : k = n := by omega
      have e1 : List.replicate k (Value.int .u8 (x.toNat : Int)) = BV (List.replicate k x) := (BV_rep k x).symm
      go_wp2
      go_ret
      refine ⟨rfl, ?_, HL.out⟩
      refine ⟨HA.out.1, fun j v hj => HA.out.2.1 j v ?_, HA.out.2.2⟩
      rw [← e1] at hj
      rw [List.getElem?_append_left (List.getElem?_eq_some_iff.1 hj).1]
      exact hj
end Go.Proofs.YtcchcinnjahghaaDoor
