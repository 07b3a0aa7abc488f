/-
  What impl.pagesOf answers: so many pages side by side, with a content and then one byte over and over; conditions: those in each head.
  What impl.pagesOf answers of a list of bytes for its content; conditions: those in each head.
  What the method pages of a segment of impl answers; conditions: those in each head.
-/
import Derived.Test.YtcchcinnjahghaaDoorWalkRp
import Derived.Test.YtcchcinnjahghaaDoorWalkCk
import Derived.Lib.LazyBuf
import Derived.Test.YtcchcinnjahghaaDoorMathLe
import Derived.Test.YtcchcinnjahghaaDoorWalkImI
namespace Go.Proofs.YtcchcinnjahghaaDoor
open Go.RowKit Go.Sort Go.Shelf
attribute [local go_sem] Oper.semAt_some
set_option linter.unusedVariables false
set_option linter.unusedSimpArgs false
section
variable {P : Program}
theorem copyListIn {F : Fence} {n : Nat} {ops : Array Oper} {rest : List Oper} {o : Oper} {a : Act} {w w' : World} {Q : Exit → Act → World → Prop} {d s : Operand} {t u : TypeId} {x y z : Value} (hg : o.guard = none)
    (ho : o.op = Op.call { callee := Callee.builtin Builtin.copy, args := #[d, s], argTypes := #[t, u] }) (hx : a.eval d = x) (hy : a.eval s = y) (hr : (Builtin.copy_ #[t, u] o.type #[x, y]).run P w = .ok z w') (hK : wpListIn F n P ops Q rest (a.put o.dst z) w') : wpListIn F n P ops Q (o :: rest) a w := by
  refine wpListIn_plain hg fun _ hk => ?_
  refine ⟨?_, ?_⟩
  · simp [Oper.about, ho, resolve, Target.leads, Sem.run_pure]
  · rw [Oper.semAt_plain F _ _ (by rw [ho]; intro c hc; cases hc)]
    simp [execOp, ho, resolve, invoke, builtin, hx, hy, hr, Result.andThen]
    exact hk _ _ hK
end
theorem wpC (m : Int) (n : Nat) (w : World) (h1 : 0 < m) (h2 : m ≤ 8192) (hn : n = nPg m) : Calls Tryd.prog 30 #[.int .i64 m] w fun e w' => e = .returned (.int .i64 ((256 * n : Nat) : Int)) ∧ w' = w := by
  have e1 : IntKind.i64.wrap (m + 256) = m + 256 := IntWalk.i64_in _ (by omega)
  have e2 : IntKind.i64.wrap (m + 256 - 1) = m + 256 - 1 := IntWalk.i64_in _ (by omega)
  have e3 : (m + 256 - 1).tdiv 256 = (m + 255) / 256 := by rw [Int.tdiv_eq_ediv_of_nonneg (by omega)]; congr 1; omega
  have e4 : IntKind.i64.wrap ((m + 255) / 256) = (m + 255) / 256 := IntWalk.i64_in _ (by omega)
  have e5 : IntKind.i64.wrap ((m + 255) / 256 * 256) = ((256 * n : Nat) : Int) := by rw [IntWalk.i64_in _ (by omega), hn]; unfold nPg; omega
  clear hn
  go_enter Tryd.func30, Tryd.ntmps30
  go_wp2
  go_ret
  refine ⟨?_, rfl⟩
  first | rfl | (congr 2; omega) | (rw [e5]) | skip
/-- the pages that have come -/
def lstF (b p : Int) (U : List UInt8) {n : Nat} (pre : List (Fin n)) : List Pg := pre.zipIdx.map fun y => ⟨b + 256 * (y.2 : Int), p, chunkAt U y.1.val⟩
theorem lstF_len (b p : Int) (U : List UInt8) {n : Nat} (pre : List (Fin n)) : (lstF b p U pre).length = pre.length := by simp [lstF]
theorem lstF_snoc (b p : Int) (U : List UInt8) {n : Nat} (pre : List (Fin n)) (x : Fin n) : lstF b p U (pre ++ [x]) = lstF b p U pre ++ [⟨b + 256 * (pre.length : Int), p, chunkAt U x.val⟩] := by simp [lstF, List.zipIdx_append]
theorem lstF_all (b p : Int) (U : List UInt8) (n : Nat) : lstF b p U (List.finRange n) = fPgs b p U n := by
  apply List.ext_getElem?
  intro k
  by_cases hk : k < n
  · simp [lstF, fPgs, hk]
  · rw [List.getElem?_eq_none (by rw [lstF_len]; simp; omega), List.getElem?_eq_none (by rw [fPgs_len]; omega)]
theorem convCk (W : World) (h k n : Nat) (U : List UInt8) (hA : CellsAt W h (BV U)) (hU : U.length = 256 * n) (hk : k < n) : (convert 97 9 (.slice (some ⟨h, 256 * k, none⟩) 256 256)).run Tryd.prog W = .ok (.string (chunkAt U k)) W := by
  have hl : ((U.drop (256 * k)).take 256).length = 256 := by simp [hU]; omega
  have e := run_convert_bytes_back W 97 9 5 ⟨h, 256 * k, none⟩ 256 ((U.drop (256 * k)).take 256) Tryd.underlying97 Tryd.underlying5 Tryd.underlying9 (fun j hj => by
    have hj' : j < 256 := by rw [hl] at hj; exact hj
    have hadd : (⟨h, 256 * k, none⟩ : Addr).add j = ⟨h, 256 * k + j, none⟩ := by unfold Addr.add; split <;> simp_all
    rw [hadd]
    refine hA.2.1 (256 * k + j) _ ?_
    simp [BV, List.getElem?_eq_getElem (show 256 * k + j < U.length by omega)])
  rw [hl] at e
  exact e
set_option maxRecDepth 100000 in
set_option maxHeartbeats 4000000 in
theorem pagesOfS (b p m : Int) (t : ByteArray) (x : UInt8) (n : Nat) (w : World) (h1 : 0 < m) (h2 : m ≤ 4096) (hn : n = nPg m) (ht : t.size ≤ 256 * n) (h3 : 0 ≤ b) (h4 : b ≤ 65535) :
    Calls Tryd.prog 62 #[.int .i64 b, .int .i64 p, .int .i64 m, .string t, .int .u8 (x.toNat : Int)] w fun e w' => ∃ g cap, e = .returned (.slice (some ⟨g, 0, none⟩) (fPgs b p (padTo t.data.toList (256 * n) x) n).length cap) ∧ Owns w' w.heap.size (some ⟨g, 0, none⟩) cap (fPgs b p (padTo t.data.toList (256 * n) x) n) ∧ Below w.heap.size w w' := by
  have hn1 : 0 < n ∧ n ≤ 16 := by rw [hn]; unfold nPg; omega
  have hm := mixed
  obtain ⟨N, hN⟩ : ∃ N, N = 256 * n := ⟨_, rfl⟩
  have CW := fun w => wpC m n w h1 (by omega) hn
  rw [← hN] at CW
  have CR := repC
  have hN1 : 0 < N ∧ N ≤ 8192 := by omega
  have htN : t.size ≤ N := by omega
  have HN := Lib.hid hN; have HNN := Lib.hid hn
  clear hN hn
  refine (callsIn_wide (n := 6)).1 ?_
  refine callsIn_of_wp_marks Tryd.func62 rfl trivial ?_ rfl
  simp only [Tryd.ntmps62, List.size_toArray, List.length_cons, List.length_nil, Nat.reduceAdd, Nat.reduceSub, Array.replicate_succ, Array.replicate_zero, List.push_toArray, List.append_toArray, List.nil_append, List.cons_append]
  obtain ⟨W3, hW3⟩ : ∃ W, W = ((w.alloc (.cells #[.int .i64 b] 3)).alloc (.cells #[.int .i64 p] 3)).alloc (.cells #[.int .u8 (x.toNat : Int)] 5) := ⟨_, rfl⟩
  have z3 : W3.heap.size = w.heap.size + 1 + 1 + 1 := by rw [hW3]; simp
  have b3 : Below w.heap.size w W3 := by rw [hW3]; go_grown
  have X3 : W3.cell? ⟨w.heap.size + 1 + 1, 0, none⟩ = some (.int .u8 (x.toNat : Int)) := by
    rw [hW3]
    have := cell_of_row _ _ 0 _ _ _ (heap_alloc_new ((w.alloc (.cells #[.int .i64 b] 3)).alloc (.cells #[.int .i64 p] 3)) (.cells #[.int .u8 (x.toNat : Int)] 5))
    simpa using this
  have bb3 : Boxed W3 w.heap.size 3 (.int .i64 b) := by rw [hW3]; exact ((Boxed.new w _ _).alloc _).alloc _
  have bp3 : Boxed W3 (w.heap.size + 1) 3 (.int .i64 p) := by
    rw [hW3]
    have := (Boxed.new (w.alloc (.cells #[.int .i64 b] 3)) 3 (.int .i64 p)).alloc (.cells #[.int .u8 (x.toNat : Int)] 5)
    simpa using this
  have HW3 := Lib.hid hW3
  clear hW3
  gi_wp2_with fail
  rw [← HW3.out]
  refine ⟨trivial, (callsIn_wide.2 (CW W3)).mono ?_⟩
  rintro e w1 ⟨rfl, rfl⟩
  gi_wp2_with fail
  refine ⟨trivial, (callsIn_wide.2 (CR (w.heap.size + 1 + 1) 0 1 x N w1 X3 (by omega) hN1.1 hN1.2)).mono ?_⟩
  rintro e w2 ⟨rfl, A2, b2⟩
  have bb2 := bb3.kept (below_grownBy b2 none) (by simp)
  have bp2 := bp3.kept (below_grownBy b2 none) (by simp)
  have L2 : Below w.heap.size w w2 := bthen b3 b2
  have hl : t.data.toList.length = t.size := rfl
  have hr := run_copy_string (P := Tryd.prog) w2 97 9 3 5 w1.heap.size 0 N N t Tryd.underlying97 Tryd.sizeOf5 htN
    (fun j hj => by rw [Nat.zero_add, A2.2.1 j _ (List.getElem?_eq_getElem (by rw [BV_len, List.length_replicate]; omega))]; rfl) (fun j hj => A2.2.2 _)
  have A4 : CellsAt (w2.setCells w1.heap.size 0 (BV t.data.toList)) w1.heap.size (BV (padTo t.data.toList N x)) := by
    have h := CellsAt.sets (BV t.data.toList) 0 w2 _ A2 (by rw [BV_len, BV_len, List.length_replicate, hl]; omega)
    have e : (BV (List.replicate N x)).take 0 ++ BV t.data.toList ++ (BV (List.replicate N x)).drop (0 + (BV t.data.toList).length) = BV (padTo t.data.toList N x) := by
      rw [BV_len, hl, Nat.zero_add, List.take_zero, List.nil_append]
      unfold padTo
      rw [← BV_app, hl]
      congr 1
      simp [BV, List.drop_replicate]
    rw [e] at h
    exact h
  have L4 : Below w.heap.size w (w2.setCells w1.heap.size 0 (BV t.data.toList)) := below_sets (by omega) _ _ _ L2
  have bb4 : Boxed (w2.setCells w1.heap.size 0 (BV t.data.toList)) w.heap.size 3 (.int .i64 b) := (below_sets (b := w1.heap.size) (Nat.le_refl _) (BV t.data.toList) 0 w2 (Below.refl _ w2)).block _ (by omega) |>.trans bb2
  have bp4 : Boxed (w2.setCells w1.heap.size 0 (BV t.data.toList)) (w.heap.size + 1) 3 (.int .i64 p) := (below_sets (b := w1.heap.size) (Nat.le_refl _) (BV t.data.toList) 0 w2 (Below.refl _ w2)).block _ (by omega) |>.trans bp2
  have z4 : w1.heap.size < (w2.setCells w1.heap.size 0 (BV t.data.toList)).heap.size := A4.1
  obtain ⟨W4, hW4⟩ : ∃ W, W = w2.setCells w1.heap.size 0 (BV t.data.toList) := ⟨_, rfl⟩
  have hBV : (t.data.toList.map fun x => Value.int .u8 (x.toNat : Int)) = BV t.data.toList := rfl
  rw [hBV] at hr
  rw [← hW4] at hr A4 L4 bb4 bp4 z4
  obtain ⟨h, hh⟩ : ∃ h, h = w1.heap.size := ⟨_, rfl⟩
  rw [← hh] at hr A4 z4 ⊢
  have hhw : w.heap.size + 1 + 1 < h := by omega
  clear hW4 hh A2 b2 bb2 bp2 L2 bb3 bp3 X3 b3 z3 HW3
  gi_wp2_with (gi_at_builtin; refine copyListIn rfl rfl rfl rfl hr ?_)
  refine ⟨trivial, (callsIn_wide.2 (chunkMk (some ⟨h, 0, none⟩) N N _)).mono ?_⟩
  rintro e w5 ⟨rfl, rfl⟩
  have BL := Boxed.new W4 34 (.slice none 0 0)
  have BS := Boxed.new (W4.alloc (.cells #[.slice none 0 0] 34)) 97 (.slice (some ⟨h, 0, none⟩) N N)
  have BN := Boxed.new ((W4.alloc (.cells #[.slice none 0 0] 34)).alloc (.cells #[.slice (some ⟨h, 0, none⟩) N N] 97)) 3 (.int .i64 256)
  simp only [World.size_alloc] at BS BN
  obtain ⟨W5, hW5⟩ : ∃ W, W = ((W4.alloc (.cells #[.slice none 0 0] 34)).alloc (.cells #[.slice (some ⟨h, 0, none⟩) N N] 97)).alloc (.cells #[.int .i64 256] 3) := ⟨_, rfl⟩
  have z5 : W5.heap.size = W4.heap.size + 1 + 1 + 1 := by rw [hW5]; simp
  have g5 : Below W4.heap.size W4 W5 := by rw [hW5]; go_grown
  have BL5 : Boxed W5 W4.heap.size 34 (.slice none 0 0) := by rw [hW5]; exact (BL.alloc _).alloc _
  have BS5 : Boxed W5 (W4.heap.size + 1) 97 (.slice (some ⟨h, 0, none⟩) N N) := by rw [hW5]; exact BS.alloc _
  have BN5 : Boxed W5 (W4.heap.size + 1 + 1) 3 (.int .i64 256) := by rw [hW5]; exact BN
  have L5 := bthen L4 g5
  have A5 := A4.next g5
  have bb5 := bb4.kept (below_grownBy g5 none) (by simp)
  have bp5 := bp4.kept (below_grownBy g5 none) (by simp)
  have hU : (padTo t.data.toList N x).length = 256 * n := by rw [padTo_len (by simpa using htN)]; exact HN.out
  obtain ⟨U, hUU⟩ : ∃ U, U = padTo t.data.toList N x := ⟨_, rfl⟩
  rw [← hUU] at A4 A5 hU
  have HUU := Lib.hid hUU
  have HNU : Hid (U = padTo t.data.toList (256 * n) x) := Lib.hid (by rw [hUU]; congr 1)
  have eN : N = 256 * n := HN.out
  rw [eN] at BS5
  obtain ⟨i0, hi, hz0, hz1, hz2⟩ := info_parts infoP
  rw [eN] at hW5
  have HW5 := Lib.hid hW5
  have hlt5 : h < W4.heap.size := z4
  clear hW5 BL BS BN hr A4 bb4 bp4 L4 g5 hUU z4
  gi_wp2_with fail
  rw [← HW5.out]
  refine wpIn_rangeFunc_ownG rfl (by omega) (gf := 99) (lb := #[.pointer (some ⟨W4.heap.size + 1, 0, none⟩), .pointer (some ⟨W4.heap.size + 1 + 1, 0, none⟩)]) rfl trivial (enters_of Tryd.func99 (by kernel_rfl) rfl)
    (chunkStops Fence.wide _ trivial rfl (by omega) (W4.heap.size + 1) (W4.heap.size + 1 + 1) h n (by omega) W5 (by omega) (by omega) BS5.cell BN5.cell) KpC.t (fun W l o o' hl ho hc hw => ⟨World.putObj_heap_other (by omega), World.putObj_heap_other (by omega)⟩) (Below.refl _ _) (fun _ => rfl)
    (fun pre W => (∃ v, Boxed W W4.heap.size 34 v ∧ W.ownsRow W4.heap.size 126 3 v pre.length (PV (lstF b p U pre)) ∧ ∃ q cap, v = .slice q pre.length cap) ∧ Below w.heap.size w W ∧ CellsAt W h (BV U) ∧ Boxed W w.heap.size 3 (.int .i64 b) ∧ Boxed W (w.heap.size + 1) 3 (.int .i64 p) ∧
      Boxed W (W4.heap.size + 1) 97 (.slice (some ⟨h, 0, none⟩) (256 * n) (256 * n)) ∧ Boxed W (W4.heap.size + 1 + 1) 3 (.int .i64 256))
    (fun _ _ _ => False)
    (OwnFrom.and (Own.from (holdsRow_own W4.heap.size W4.heap.size 34 126 3 (fun pre : List (Fin n) => pre.length) (fun pre => PV (lstF b p U pre)) (fun pre v => ∃ q cap, v = .slice q pre.length cap)) _)
      (OwnFrom.and (ownFrom_below (Nat.le_refl _) (by omega)) (OwnFrom.and (fun s A B row hs hg hr => hs.far hg (fun e => by have := (hr h e.symm).1; omega)) (OwnFrom.and (Own.from (boxed_own _ _ _) _) (OwnFrom.and (Own.from (boxed_own _ _ _) _) (OwnFrom.and (Own.from (boxed_own _ _ _) _) (Own.from (boxed_own _ _ _) _)))))))
    (fun _ _ _ _ _ hs _ _ => hs)
    ⟨⟨_, BL5, World.ownsRow_nil _ _ _ _, none, 0, rfl⟩, L5, A5, bb5, bp5, BS5, BN5⟩
    (fun k => { tmps := #[.int .i64 b, .int .i64 p, .int .i64 m, .string t, .int .u8 (x.toNat : Int), .pointer (some ⟨w.heap.size, 0, none⟩), .pointer (some ⟨w.heap.size + 1, 0, none⟩), undef, undef, undef, .slice none 0 0, .slice (some ⟨h, 0, none⟩) (256 * n) (256 * n), .pointer (some ⟨W4.heap.size, 0, none⟩), .slice (some ⟨h, 256 * k.val, none⟩) 256 256, .int .u8 (x.toNat : Int), .slice (some ⟨w.heap.size + 1 + 1, 0, none⟩) 1 1, .int .i64 m, .int .i64 (256 * (n : Int)), .slice (some ⟨h, 0, none⟩) (256 * n) (256 * n), .slice (some ⟨h, 0, none⟩) (256 * n) (256 * n), .string t, .int .i64 (t.size : Int), .slice (some ⟨h, 0, none⟩) (256 * n) (256 * n), .func (.func 99) #[] #[.pointer (some ⟨W4.heap.size + 1, 0, none⟩), .pointer (some ⟨W4.heap.size + 1 + 1, 0, none⟩)], .slice (some ⟨h, 256 * k.val, none⟩) 256 256, undef, undef, undef, undef, undef, undef, undef, undef, undef, undef, undef, undef, undef], defers := [] }) ?assign ?body ?done ?stop
  case assign =>
    intro l k W K hK
    gi_wp2
    exact hK
  case body =>
    rintro l pre k W ⟨⟨v, hv, hrow, q, cap, rfl⟩, hB, hA, hb, hp, hS, hN⟩ hlt
    have hc := hv.cell
    have hcb := hb.cell
    have hcp := hp.cell
    have hcv := convCk W h k.val n U hA hU k.isLt
    have e1 : IntKind.i64.wrap (pre.length : Int) = (pre.length : Int) := IntWalk.i64_in _ (by omega)
    have e2 : IntKind.i64.wrap ((pre.length : Int) * 256) = (pre.length : Int) * 256 := IntWalk.i64_in _ (by omega)
    have e3 : IntKind.i64.wrap (b + (pre.length : Int) * 256) = b + (pre.length : Int) * 256 := IntWalk.i64_in _ (by omega)
    have hSz := hB.size
    have hnews : PV [⟨b + 256 * (pre.length : Int), p, chunkAt U k.val⟩] = [.int .i64 (b + (pre.length : Int) * 256), .int .i64 p, .string (chunkAt U k.val)] := by
      simp [PV, pv, Int.mul_comm]
    have hnew : ∀ (j : Nat) (u : Value), [Value.int .i64 (b + (pre.length : Int) * 256), .int .i64 p, .string (chunkAt U k.val)][j]? = some u → (W.alloc (.cells #[.int .i64 (b + (pre.length : Int) * 256), .int .i64 p, .string (chunkAt U k.val)] 126)).cell? ((⟨W.heap.size, 0, none⟩ : Addr).add j) = some u := fun j u hj => by
      have hadd : (⟨W.heap.size, 0, none⟩ : Addr).add j = ⟨W.heap.size, j, none⟩ := by unfold Addr.add; split <;> simp_all
      rw [hadd, cell_of_row _ _ j _ _ _ (heap_alloc_new W (.cells #[.int .i64 (b + (pre.length : Int) * 256), .int .i64 p, .string (chunkAt U k.val)] 126))]
      simpa using hj
    have hone : ∀ u ∈ [Value.int .i64 (b + (pre.length : Int) * 256), .int .i64 p, .string (chunkAt U k.val)], u.oneCell' = true := by simp [Value.oneCell']
    have hlw : W4.heap.size ≤ W.heap.size := Nat.le_of_lt hv.lt
    have hsz3 : (Value.agg #[Value.int .i64 0, .int .i64 0, .string ⟨#[]⟩]).cells.size = 3 := by simp [Value.cells]
    have hmx : pre.length + 1 ≤ maxLen := by unfold maxLen; omega
    have hby : (pre.length + 1) * 32 ≤ 140737488355328 := by omega
    gi_wp2_with (gi_at_builtin; refine wpListIn_append_own _ rfl _ _ 34 rfl W4.heap.size 126 i0 _ 3 32 Tryd.underlying34 hi hz0 hz1 hz2 hsz3 (by decide) _ _ _ rfl (hrow.alloc _) ⟨W.heap.size, 0, none⟩ 1 1 [.int .i64 (b + (pre.length : Int) * 256), .int .i64 p, .string (chunkAt U k.val)] rfl rfl hnew hone hmx hby (by simp; omega) ?_; intro v' w1 hown' hgrow _; obtain ⟨g', cap', rfl⟩ := ownsRow_succ hown'; obtain ⟨hv1, hv2, hr2, hk2, hb2⟩ := hv.appended (by decide) hrow hlw (by omega) hown' hgrow; have hc1 := hv1.cell; have hf1 := hv1.frozen)
    have hwW : w.heap.size ≤ W4.heap.size := by omega
    have hS2 : Boxed (w1.setCell ⟨W4.heap.size, 0, none⟩ (.slice (some ⟨g', 0, none⟩) (pre.length + 1) cap')) (W4.heap.size + 1) 97 (.slice (some ⟨h, 0, none⟩) (256 * n) (256 * n)) :=
      Boxed.other ((hS.alloc _).kept hgrow (hS.not_row (by decide) hrow)) (by omega) _
    have hN2 : Boxed (w1.setCell ⟨W4.heap.size, 0, none⟩ (.slice (some ⟨g', 0, none⟩) (pre.length + 1) cap')) (W4.heap.size + 1 + 1) 3 (.int .i64 256) :=
      Boxed.other ((hN.alloc _).kept hgrow (hN.not_row (by decide) hrow)) (by omega) _
    refine ⟨hk2.from _, ⟨(show _ = _ from hS2).trans (show _ = _ from hS).symm, (show _ = _ from hN2).trans (show _ = _ from hN).symm⟩, ⟨_, hv2, ?_, some ⟨g', 0, none⟩, cap', by simp⟩, hB.trans (hb2.mono hwW), ?_, ?_, ?_, hS2, hN2⟩
    · rw [lstF_snoc, PV_app, hnews, List.length_append]
      exact hr2
    · exact ⟨Nat.lt_of_lt_of_le hA.1 hb2.size, fun j v hj => (hb2.cell (p := ⟨h, j, none⟩) hlt5).trans (hA.2.1 j v hj), fun j => (hb2.frozen (p := ⟨h, j, none⟩) hlt5).trans (hA.2.2 j)⟩
    · exact (hb2.block _ (by omega)).trans hb
    · exact (hb2.block _ (by omega)).trans hp
  case done =>
    rintro D ys W hD rfl ⟨⟨v, hv, hrow, q, cap, rfl⟩, hB, _⟩ hK
    have hc := hv.cell
    rw [lstF_all] at hrow
    rw [HNU.out] at hrow
    have hrow2 := ownsRow_putObj hrow (.deferred none) hK rfl
    have hlen : (List.finRange n).length = n := by simp
    rw [hlen] at hrow2
    have hg : ∃ g, q = some ⟨g, 0, none⟩ ∧ W4.heap.size ≤ g := by
      rcases hrow2.2 with ⟨_, h0⟩ | ⟨g, c, cur, hv', hle, _⟩
      · omega
      · simp at hv'
        exact ⟨g, hv'.1, hle⟩
    obtain ⟨g, rfl, hg⟩ := hg
    gi_wp2
    refine ⟨by simp, .inl ⟨_, _, rfl, run_takeDeferred hK, ?_⟩⟩
    refine ⟨_, results_tmp rfl _ _ _, ?_⟩
    refine ⟨g, cap, ?_, ?_, hB.trans (belowK_b (w := w) (Nat.le_refl _) W D _ _ (by omega) hK rfl rfl)⟩
    · rw [fPgs_len]; simp
    · unfold Owns
      rw [fPgs_len]
      refine ⟨hrow2.1, .inr ?_⟩
      rcases hrow2.2 with ⟨h0, _⟩ | ⟨g', c, cur, hv', hle, hb, r⟩
      · simp at h0
      · exact ⟨g', c, cur, hv', by omega, hb, r⟩
  case stop =>
    rintro D c pre W _ _ h _
    exact h.elim
end Go.Proofs.YtcchcinnjahghaaDoor
namespace Go.Proofs.YtcchcinnjahghaaDoor
open Go.RowKit Go.Sort Go.Shelf
attribute [local go_sem] Oper.semAt_some
set_option linter.unusedVariables false
set_option linter.unusedSimpArgs false
set_option maxRecDepth 100000 in
set_option maxHeartbeats 4000000 in
theorem pagesOfB (b p m : Int) (c : Nat) (L : List UInt8) (hL : L.length = 256) (x : UInt8) (n : Nat) (w : World) (hA0 : CellsAt w c (BV L)) (h1 : 0 < m) (h2 : m ≤ 4096) (hn : n = nPg m) (h3 : 0 ≤ b) (h4 : b ≤ 65535) :
    Calls Tryd.prog 61 #[.int .i64 b, .int .i64 p, .int .i64 m, .slice (some ⟨c, 0, none⟩) 256 256, .int .u8 (x.toNat : Int)] w fun e w' => ∃ g cap, e = .returned (.slice (some ⟨g, 0, none⟩) (fPgs b p (padTo L (256 * n) x) n).length cap) ∧ Owns w' w.heap.size (some ⟨g, 0, none⟩) cap (fPgs b p (padTo L (256 * n) x) n) ∧ Below w.heap.size w w' := by
  have hn1 : 0 < n ∧ n ≤ 16 := by rw [hn]; unfold nPg; omega
  have hm := mixed
  obtain ⟨N, hN⟩ : ∃ N, N = 256 * n := ⟨_, rfl⟩
  have CW := fun w => wpC m n w h1 (by omega) hn
  rw [← hN] at CW
  have CR := repC
  have hN1 : 0 < N ∧ N ≤ 8192 := by omega
  have htN : 256 ≤ N := by omega
  have ht : 256 ≤ 256 * n := by omega
  have HN := Lib.hid hN; have HNN := Lib.hid hn
  clear hN hn
  refine (callsIn_wide (n := 6)).1 ?_
  refine callsIn_of_wp_marks Tryd.func61 rfl trivial ?_ rfl
  simp only [Tryd.ntmps61, List.size_toArray, List.length_cons, List.length_nil, Nat.reduceAdd, Nat.reduceSub, Array.replicate_succ, Array.replicate_zero, List.push_toArray, List.append_toArray, List.nil_append, List.cons_append]
  obtain ⟨W3, hW3⟩ : ∃ W, W = ((w.alloc (.cells #[.int .i64 b] 3)).alloc (.cells #[.int .i64 p] 3)).alloc (.cells #[.int .u8 (x.toNat : Int)] 5) := ⟨_, rfl⟩
  have z3 : W3.heap.size = w.heap.size + 1 + 1 + 1 := by rw [hW3]; simp
  have b3 : Below w.heap.size w W3 := by rw [hW3]; go_grown
  have X3 : W3.cell? ⟨w.heap.size + 1 + 1, 0, none⟩ = some (.int .u8 (x.toNat : Int)) := by
    rw [hW3]
    have := cell_of_row _ _ 0 _ _ _ (heap_alloc_new ((w.alloc (.cells #[.int .i64 b] 3)).alloc (.cells #[.int .i64 p] 3)) (.cells #[.int .u8 (x.toNat : Int)] 5))
    simpa using this
  have bb3 : Boxed W3 w.heap.size 3 (.int .i64 b) := by rw [hW3]; exact ((Boxed.new w _ _).alloc _).alloc _
  have bp3 : Boxed W3 (w.heap.size + 1) 3 (.int .i64 p) := by
    rw [hW3]
    have := (Boxed.new (w.alloc (.cells #[.int .i64 b] 3)) 3 (.int .i64 p)).alloc (.cells #[.int .u8 (x.toNat : Int)] 5)
    simpa using this
  have HW3 := Lib.hid hW3
  clear hW3
  gi_wp2_with fail
  rw [← HW3.out]
  refine ⟨trivial, (callsIn_wide.2 (CW W3)).mono ?_⟩
  rintro e w1 ⟨rfl, rfl⟩
  gi_wp2_with fail
  refine ⟨trivial, (callsIn_wide.2 (CR (w.heap.size + 1 + 1) 0 1 x N w1 X3 (by omega) hN1.1 hN1.2)).mono ?_⟩
  rintro e w2 ⟨rfl, A2, b2⟩
  have bb2 := bb3.kept (below_grownBy b2 none) (by simp)
  have bp2 := bp3.kept (below_grownBy b2 none) (by simp)
  have L2 : Below w.heap.size w w2 := bthen b3 b2
  have hl : L.length = 256 := hL
  have Ac := (hA0.next b3).next (b2.mono (show w1.heap.size ≤ w1.heap.size from Nat.le_refl _))
  have hr := run_copy_cells (P := Tryd.prog) w2 97 97 3 5 w1.heap.size 0 N N ⟨c, 0, none⟩ 256 256 (BV L) Tryd.underlying97 (by obtain ⟨j0, gi, _, g1, _⟩ := info_parts infoB; rw [gi]; simp [g1]) (by rw [BV_len, hL]; exact (Nat.min_eq_left htN).symm)
    (fun j v hj => by
      have hadd : (⟨c, 0, none⟩ : Addr).add j = ⟨c, j, none⟩ := by unfold Addr.add; split <;> simp_all
      rw [hadd]; exact Ac.2.1 j v hj)
    (fun j hj => by
      rw [BV_len, hL] at hj
      rw [Nat.zero_add, A2.2.1 j _ (List.getElem?_eq_getElem (by rw [BV_len, List.length_replicate]; omega))]; rfl) (fun j hj => A2.2.2 _) (BV_one L)
  rw [show goInt (BV L).length = .int .i64 256 by rw [BV_len, hL]; rfl] at hr
  have A4 : CellsAt (w2.setCells w1.heap.size 0 (BV L)) w1.heap.size (BV (padTo L N x)) := by
    have h := CellsAt.sets (BV L) 0 w2 _ A2 (by rw [BV_len, BV_len, List.length_replicate, hl]; omega)
    have e : (BV (List.replicate N x)).take 0 ++ BV L ++ (BV (List.replicate N x)).drop (0 + (BV L).length) = BV (padTo L N x) := by
      rw [BV_len, hl, Nat.zero_add, List.take_zero, List.nil_append]
      unfold padTo
      rw [← BV_app, hl]
      congr 1
      simp [BV, List.drop_replicate]
    rw [e] at h
    exact h
  have L4 : Below w.heap.size w (w2.setCells w1.heap.size 0 (BV L)) := below_sets (by omega) _ _ _ L2
  have bb4 : Boxed (w2.setCells w1.heap.size 0 (BV L)) w.heap.size 3 (.int .i64 b) := (below_sets (b := w1.heap.size) (Nat.le_refl _) (BV L) 0 w2 (Below.refl _ w2)).block _ (by omega) |>.trans bb2
  have bp4 : Boxed (w2.setCells w1.heap.size 0 (BV L)) (w.heap.size + 1) 3 (.int .i64 p) := (below_sets (b := w1.heap.size) (Nat.le_refl _) (BV L) 0 w2 (Below.refl _ w2)).block _ (by omega) |>.trans bp2
  have z4 : w1.heap.size < (w2.setCells w1.heap.size 0 (BV L)).heap.size := A4.1
  obtain ⟨W4, hW4⟩ : ∃ W, W = w2.setCells w1.heap.size 0 (BV L) := ⟨_, rfl⟩
  rw [← hW4] at hr A4 L4 bb4 bp4 z4
  obtain ⟨h, hh⟩ : ∃ h, h = w1.heap.size := ⟨_, rfl⟩
  rw [← hh] at hr A4 z4 ⊢
  have hhw : w.heap.size + 1 + 1 < h := by omega
  clear Ac hW4 hh A2 b2 bb2 bp2 L2 bb3 bp3 X3 b3 z3 HW3
  gi_wp2_with (gi_at_builtin; refine copyListIn rfl rfl rfl rfl hr ?_)
  refine ⟨trivial, (callsIn_wide.2 (chunkMk (some ⟨h, 0, none⟩) N N _)).mono ?_⟩
  rintro e w5 ⟨rfl, rfl⟩
  have BL := Boxed.new W4 34 (.slice none 0 0)
  have BS := Boxed.new (W4.alloc (.cells #[.slice none 0 0] 34)) 97 (.slice (some ⟨h, 0, none⟩) N N)
  have BN := Boxed.new ((W4.alloc (.cells #[.slice none 0 0] 34)).alloc (.cells #[.slice (some ⟨h, 0, none⟩) N N] 97)) 3 (.int .i64 256)
  simp only [World.size_alloc] at BS BN
  obtain ⟨W5, hW5⟩ : ∃ W, W = ((W4.alloc (.cells #[.slice none 0 0] 34)).alloc (.cells #[.slice (some ⟨h, 0, none⟩) N N] 97)).alloc (.cells #[.int .i64 256] 3) := ⟨_, rfl⟩
  have z5 : W5.heap.size = W4.heap.size + 1 + 1 + 1 := by rw [hW5]; simp
  have g5 : Below W4.heap.size W4 W5 := by rw [hW5]; go_grown
  have BL5 : Boxed W5 W4.heap.size 34 (.slice none 0 0) := by rw [hW5]; exact (BL.alloc _).alloc _
  have BS5 : Boxed W5 (W4.heap.size + 1) 97 (.slice (some ⟨h, 0, none⟩) N N) := by rw [hW5]; exact BS.alloc _
  have BN5 : Boxed W5 (W4.heap.size + 1 + 1) 3 (.int .i64 256) := by rw [hW5]; exact BN
  have L5 := bthen L4 g5
  have A5 := A4.next g5
  have bb5 := bb4.kept (below_grownBy g5 none) (by simp)
  have bp5 := bp4.kept (below_grownBy g5 none) (by simp)
  have hU : (padTo L N x).length = 256 * n := by rw [padTo_len (by rw [hL]; exact htN)]; exact HN.out
  obtain ⟨U, hUU⟩ : ∃ U, U = padTo L N x := ⟨_, rfl⟩
  rw [← hUU] at A4 A5 hU
  have HUU := Lib.hid hUU
  have HNU : Hid (U = padTo L (256 * n) x) := Lib.hid (by rw [hUU]; congr 1)
  have eN : N = 256 * n := HN.out
  rw [eN] at BS5
  obtain ⟨i0, hi, hz0, hz1, hz2⟩ := info_parts infoP
  rw [eN] at hW5
  have HW5 := Lib.hid hW5
  have hlt5 : h < W4.heap.size := z4
  clear hW5 BL BS BN hr A4 bb4 bp4 L4 g5 hUU z4
  gi_wp2_with fail
  rw [← HW5.out]
  refine wpIn_rangeFunc_ownG rfl (by omega) (gf := 99) (lb := #[.pointer (some ⟨W4.heap.size + 1, 0, none⟩), .pointer (some ⟨W4.heap.size + 1 + 1, 0, none⟩)]) rfl trivial (enters_of Tryd.func99 (by kernel_rfl) rfl)
    (chunkStops Fence.wide _ trivial rfl (by omega) (W4.heap.size + 1) (W4.heap.size + 1 + 1) h n (by omega) W5 (by omega) (by omega) BS5.cell BN5.cell) KpC.t (fun W l o o' hl ho hc hw => ⟨World.putObj_heap_other (by omega), World.putObj_heap_other (by omega)⟩) (Below.refl _ _) (fun _ => rfl)
    (fun pre W => (∃ v, Boxed W W4.heap.size 34 v ∧ W.ownsRow W4.heap.size 126 3 v pre.length (PV (lstF b p U pre)) ∧ ∃ q cap, v = .slice q pre.length cap) ∧ Below w.heap.size w W ∧ CellsAt W h (BV U) ∧ Boxed W w.heap.size 3 (.int .i64 b) ∧ Boxed W (w.heap.size + 1) 3 (.int .i64 p) ∧
      Boxed W (W4.heap.size + 1) 97 (.slice (some ⟨h, 0, none⟩) (256 * n) (256 * n)) ∧ Boxed W (W4.heap.size + 1 + 1) 3 (.int .i64 256))
    (fun _ _ _ => False)
    (OwnFrom.and (Own.from (holdsRow_own W4.heap.size W4.heap.size 34 126 3 (fun pre : List (Fin n) => pre.length) (fun pre => PV (lstF b p U pre)) (fun pre v => ∃ q cap, v = .slice q pre.length cap)) _)
      (OwnFrom.and (ownFrom_below (Nat.le_refl _) (by omega)) (OwnFrom.and (fun s A B row hs hg hr => hs.far hg (fun e => by have := (hr h e.symm).1; omega)) (OwnFrom.and (Own.from (boxed_own _ _ _) _) (OwnFrom.and (Own.from (boxed_own _ _ _) _) (OwnFrom.and (Own.from (boxed_own _ _ _) _) (Own.from (boxed_own _ _ _) _)))))))
    (fun _ _ _ _ _ hs _ _ => hs)
    ⟨⟨_, BL5, World.ownsRow_nil _ _ _ _, none, 0, rfl⟩, L5, A5, bb5, bp5, BS5, BN5⟩
    (fun k => { tmps := #[.int .i64 b, .int .i64 p, .int .i64 m, .slice (some ⟨c, 0, none⟩) 256 256, .int .u8 (x.toNat : Int), .pointer (some ⟨w.heap.size, 0, none⟩), .pointer (some ⟨w.heap.size + 1, 0, none⟩), undef, undef, undef, .slice none 0 0, .slice (some ⟨h, 0, none⟩) (256 * n) (256 * n), .pointer (some ⟨W4.heap.size, 0, none⟩), .slice (some ⟨h, 256 * k.val, none⟩) 256 256, .int .u8 (x.toNat : Int), .slice (some ⟨w.heap.size + 1 + 1, 0, none⟩) 1 1, .int .i64 m, .int .i64 (256 * (n : Int)), .slice (some ⟨h, 0, none⟩) (256 * n) (256 * n), .slice (some ⟨h, 0, none⟩) (256 * n) (256 * n), .slice (some ⟨c, 0, none⟩) 256 256, .int .i64 256, .slice (some ⟨h, 0, none⟩) (256 * n) (256 * n), .func (.func 99) #[] #[.pointer (some ⟨W4.heap.size + 1, 0, none⟩), .pointer (some ⟨W4.heap.size + 1 + 1, 0, none⟩)], .slice (some ⟨h, 256 * k.val, none⟩) 256 256, undef, undef, undef, undef, undef, undef, undef, undef, undef, undef, undef, undef, undef], defers := [] }) ?assign ?body ?done ?stop
  case assign =>
    intro l k W K hK
    gi_wp2
    exact hK
  case body =>
    rintro l pre k W ⟨⟨v, hv, hrow, q, cap, rfl⟩, hB, hA, hb, hp, hS, hN⟩ hlt
    have hc := hv.cell
    have hcb := hb.cell
    have hcp := hp.cell
    have hcv := convCk W h k.val n U hA hU k.isLt
    have e1 : IntKind.i64.wrap (pre.length : Int) = (pre.length : Int) := IntWalk.i64_in _ (by omega)
    have e2 : IntKind.i64.wrap ((pre.length : Int) * 256) = (pre.length : Int) * 256 := IntWalk.i64_in _ (by omega)
    have e3 : IntKind.i64.wrap (b + (pre.length : Int) * 256) = b + (pre.length : Int) * 256 := IntWalk.i64_in _ (by omega)
    have hSz := hB.size
    have hnews : PV [⟨b + 256 * (pre.length : Int), p, chunkAt U k.val⟩] = [.int .i64 (b + (pre.length : Int) * 256), .int .i64 p, .string (chunkAt U k.val)] := by
      simp [PV, pv, Int.mul_comm]
    have hnew : ∀ (j : Nat) (u : Value), [Value.int .i64 (b + (pre.length : Int) * 256), .int .i64 p, .string (chunkAt U k.val)][j]? = some u → (W.alloc (.cells #[.int .i64 (b + (pre.length : Int) * 256), .int .i64 p, .string (chunkAt U k.val)] 126)).cell? ((⟨W.heap.size, 0, none⟩ : Addr).add j) = some u := fun j u hj => by
      have hadd : (⟨W.heap.size, 0, none⟩ : Addr).add j = ⟨W.heap.size, j, none⟩ := by unfold Addr.add; split <;> simp_all
      rw [hadd, cell_of_row _ _ j _ _ _ (heap_alloc_new W (.cells #[.int .i64 (b + (pre.length : Int) * 256), .int .i64 p, .string (chunkAt U k.val)] 126))]
      simpa using hj
    have hone : ∀ u ∈ [Value.int .i64 (b + (pre.length : Int) * 256), .int .i64 p, .string (chunkAt U k.val)], u.oneCell' = true := by simp [Value.oneCell']
    have hlw : W4.heap.size ≤ W.heap.size := Nat.le_of_lt hv.lt
    have hsz3 : (Value.agg #[Value.int .i64 0, .int .i64 0, .string ⟨#[]⟩]).cells.size = 3 := by simp [Value.cells]
    have hmx : pre.length + 1 ≤ maxLen := by unfold maxLen; omega
    have hby : (pre.length + 1) * 32 ≤ 140737488355328 := by omega
    gi_wp2_with (gi_at_builtin; refine wpListIn_append_own _ rfl _ _ 34 rfl W4.heap.size 126 i0 _ 3 32 Tryd.underlying34 hi hz0 hz1 hz2 hsz3 (by decide) _ _ _ rfl (hrow.alloc _) ⟨W.heap.size, 0, none⟩ 1 1 [.int .i64 (b + (pre.length : Int) * 256), .int .i64 p, .string (chunkAt U k.val)] rfl rfl hnew hone hmx hby (by simp; omega) ?_; intro v' w1 hown' hgrow _; obtain ⟨g', cap', rfl⟩ := ownsRow_succ hown'; obtain ⟨hv1, hv2, hr2, hk2, hb2⟩ := hv.appended (by decide) hrow hlw (by omega) hown' hgrow; have hc1 := hv1.cell; have hf1 := hv1.frozen)
    have hwW : w.heap.size ≤ W4.heap.size := by omega
    have hS2 : Boxed (w1.setCell ⟨W4.heap.size, 0, none⟩ (.slice (some ⟨g', 0, none⟩) (pre.length + 1) cap')) (W4.heap.size + 1) 97 (.slice (some ⟨h, 0, none⟩) (256 * n) (256 * n)) :=
      Boxed.other ((hS.alloc _).kept hgrow (hS.not_row (by decide) hrow)) (by omega) _
    have hN2 : Boxed (w1.setCell ⟨W4.heap.size, 0, none⟩ (.slice (some ⟨g', 0, none⟩) (pre.length + 1) cap')) (W4.heap.size + 1 + 1) 3 (.int .i64 256) :=
      Boxed.other ((hN.alloc _).kept hgrow (hN.not_row (by decide) hrow)) (by omega) _
    refine ⟨hk2.from _, ⟨(show _ = _ from hS2).trans (show _ = _ from hS).symm, (show _ = _ from hN2).trans (show _ = _ from hN).symm⟩, ⟨_, hv2, ?_, some ⟨g', 0, none⟩, cap', by simp⟩, hB.trans (hb2.mono hwW), ?_, ?_, ?_, hS2, hN2⟩
    · rw [lstF_snoc, PV_app, hnews, List.length_append]
      exact hr2
    · exact ⟨Nat.lt_of_lt_of_le hA.1 hb2.size, fun j v hj => (hb2.cell (p := ⟨h, j, none⟩) hlt5).trans (hA.2.1 j v hj), fun j => (hb2.frozen (p := ⟨h, j, none⟩) hlt5).trans (hA.2.2 j)⟩
    · exact (hb2.block _ (by omega)).trans hb
    · exact (hb2.block _ (by omega)).trans hp
  case done =>
    rintro D ys W hD rfl ⟨⟨v, hv, hrow, q, cap, rfl⟩, hB, _⟩ hK
    have hc := hv.cell
    rw [lstF_all] at hrow
    rw [HNU.out] at hrow
    have hrow2 := ownsRow_putObj hrow (.deferred none) hK rfl
    have hlen : (List.finRange n).length = n := by simp
    rw [hlen] at hrow2
    have hg : ∃ g, q = some ⟨g, 0, none⟩ ∧ W4.heap.size ≤ g := by
      rcases hrow2.2 with ⟨_, h0⟩ | ⟨g, c, cur, hv', hle, _⟩
      · omega
      · simp at hv'
        exact ⟨g, hv'.1, hle⟩
    obtain ⟨g, rfl, hg⟩ := hg
    gi_wp2
    refine ⟨by simp, .inl ⟨_, _, rfl, run_takeDeferred hK, ?_⟩⟩
    refine ⟨_, results_tmp rfl _ _ _, ?_⟩
    refine ⟨g, cap, ?_, ?_, hB.trans (belowK_b (w := w) (Nat.le_refl _) W D _ _ (by omega) hK rfl rfl)⟩
    · rw [fPgs_len]; simp
    · unfold Owns
      rw [fPgs_len]
      refine ⟨hrow2.1, .inr ?_⟩
      rcases hrow2.2 with ⟨h0, _⟩ | ⟨g', c, cur, hv', hle, hb, r⟩
      · simp at h0
      · exact ⟨g', c, cur, hv', by omega, hb, r⟩
  case stop =>
    rintro D c pre W _ _ h _
    exact h.elim
end Go.Proofs.YtcchcinnjahghaaDoor
namespace Go.Proofs.YtcchcinnjahghaaDoor
open Go.RowKit Go.Sort Go.Shelf
set_option linter.unusedVariables false
set_option linter.unusedSimpArgs false
set_option maxRecDepth 20000 in
set_option maxHeartbeats 1000000 in
theorem sgPgC (x : Sg) (w : World) (h0 : 0 ≤ x.v) (h1 : x.v ≤ 3583) (h2 : 1 ≤ x.m) (h3 : x.m ≤ 3584) (h4 : x.d.size ≤ 256 * nPg x.m) :
    Calls Tryd.prog 63 #[sgV x] w fun e w' => ∃ g cap, e = .returned (.slice (some ⟨g, 0, none⟩) (segPgs x).length cap) ∧ Owns w' w.heap.size (some ⟨g, 0, none⟩) cap (segPgs x) ∧ Below w.heap.size w w' := by
  obtain ⟨f, v, m, d⟩ := x
  obtain ⟨n, hn⟩ : ∃ n, n = nPg m := ⟨_, rfl⟩
  obtain ⟨P, hP⟩ : ∃ P, P = permOf f := ⟨_, rfl⟩
  obtain ⟨X, hX⟩ : ∃ X, X = hltOf f := ⟨_, rfl⟩
  obtain ⟨L, hL⟩ : ∃ L, L = segPgs ⟨f, v, m, d⟩ := ⟨_, rfl⟩
  dsimp only at h0 h1 h2 h3 h4
  rw [← hn] at h4
  have C := fun w => pagesOfS (16384 + v) P m d X n w (by omega) (by omega) hn h4 (by omega) (by omega)
  have e : fPgs (16384 + v) P (padTo d.data.toList (256 * n) X) n = L := by rw [hL, hP, hX, hn]; rfl
  simp only [e] at C
  rw [← hL]
  have e1 : IntKind.i64.wrap (16384 + v) = 16384 + v := IntWalk.i64_in _ (by omega)
  clear e hn hL h4
  have CH := fun w => Lib.hid (C w)
  clear C
  have fin : ∀ (w1 w' : World) (e : Ending), Below w.heap.size w w1 → w.heap.size ≤ w1.heap.size → (∃ g cap, e = .returned (.slice (some ⟨g, 0, none⟩) L.length cap) ∧ Owns w' w1.heap.size (some ⟨g, 0, none⟩) cap L ∧ Below w1.heap.size w1 w') → ∃ g cap, e = .returned (.slice (some ⟨g, 0, none⟩) L.length cap) ∧ Owns w' w.heap.size (some ⟨g, 0, none⟩) cap L ∧ Below w.heap.size w w' := by
    rintro w1 w' e hb hs ⟨g, cap, h, own, b2⟩
    exact ⟨g, cap, h, Joins.ownsRow_le own hs, bthen hb b2⟩
  have hA := (Below.refl _ w).alloc (Nat.le_refl _) (.cells #[.int .i64 f, .int .i64 v, .int .i64 m, .string d] 61)
  by_cases h5 : f = 5
  · subst h5
    obtain rfl : P = 5 := hP
    obtain rfl : X = 244 := hX
    have hm : Tryd.prog.follows .mixedOrders = true := by kernel_rfl
    unfold sgV
    go_enter Tryd.func63, Tryd.ntmps63
    go_wp2_with fail
    go_region
    go_wp2_with fail
    refine (CH _).out.mono ?_
    rintro e w1 hh
    have hh := fin _ _ _ (bthen hA (belowD _)) (by simp) hh
    obtain ⟨g, cap, rfl, ow, bl⟩ := hh
    go_wp2
    go_ret
    exact ⟨g, cap, rfl, ow, bl⟩
  have b5 : (f == 5) = false := beq_eq_false_iff_ne.2 h5
  by_cases h6 : f = 6
  · subst h6
    obtain rfl : P = 3 := hP
    obtain rfl : X = 0 := hX
    unfold sgV
    go_enter Tryd.func63, Tryd.ntmps63
    go_wp2_with fail
    refine (CH _).out.mono ?_
    rintro e w1 hh
    have hh := fin _ _ _ hA (by simp) hh
    obtain ⟨g, cap, rfl, ow, bl⟩ := hh
    go_wp2
    go_ret
    exact ⟨g, cap, rfl, ow, bl⟩
  · have b6 : (f == 6) = false := beq_eq_false_iff_ne.2 h6
    obtain rfl : P = 1 := by rw [hP]; unfold permOf; rw [if_neg h5, if_neg h6]
    obtain rfl : X = 0 := by rw [hX]; unfold hltOf; rw [if_neg h5]
    clear hP hX
    unfold sgV
    go_enter Tryd.func63, Tryd.ntmps63
    go_wp2_with fail
    refine (CH _).out.mono ?_
    rintro e w1 hh
    have hh := fin _ _ _ hA (by simp) hh
    obtain ⟨g, cap, rfl, ow, bl⟩ := hh
    go_wp2
    go_ret
    exact ⟨g, cap, rfl, ow, bl⟩
end Go.Proofs.YtcchcinnjahghaaDoor
