/-
  What spec.l11Halts, l11Perm, l11Up and l11Pages answer, and spec.l02Put of a text on fresh pages; conditions: those in each head.
-/
import Derived.Test.YtcchcinnjahghaaDoorMathLe
import Derived.Test.YtcchcinnjahghaaDoorWalkAddS2
import Derived.Test.YtcchcinnjahghaaDoorWalkPutS
namespace Go.Proofs.YtcchcinnjahghaaDoor
open Go.RowKit Go.Sort
set_option linter.unusedVariables false
set_option linter.unusedSimpArgs false
theorem hlt_fill {w : World} {B g n k : Nat} (h : w.ownsRow B 5 1 (.slice (some ⟨g, 0, none⟩) n n) n (BV (List.replicate k 244 ++ List.replicate (n - k) 0))) (hk : k < n) : (w.setCell ⟨g, k, none⟩ (.int .u8 244)).ownsRow B 5 1 (.slice (some ⟨g, 0, none⟩) n n) n (BV (List.replicate (k + 1) 244 ++ List.replicate (n - (k + 1)) 0)) := by
  have e : (BV (List.replicate k 244 ++ List.replicate (n - k) 0)).set k (.int .u8 244) = BV (List.replicate (k + 1) 244 ++ List.replicate (n - (k + 1)) 0) := by
    have e1 : n - k = (n - (k + 1)) + 1 := by omega
    rw [e1, List.replicate_succ (n := n - (k + 1)), List.replicate_succ' (n := k)]
    simp [BV, List.set_append]
  rw [← e]; exact (h.stored k _).1
set_option maxHeartbeats 1000000 in
theorem haltsS (n : Nat) (w : World) (hn : n ≤ 4096) : Calls Tryd.prog 54 #[.int .i64 (n : Int)] w fun e w' => e = .returned (.string (haltT n)) ∧ Below w.heap.size w w' := by
  obtain ⟨i0, hi, hz0, hz1, hz2⟩ := info_parts infoB
  go_enter Tryd.func54, Tryd.ntmps54
  go_wp2_with (at_make; refine wpList_make_full _ rfl _ _ 97 rfl w.heap.size 5 i0 (.int .u8 0) 1 Tryd.underlying97 hi hz0 hz1 .i64 .i64 _ _ n rfl rfl rfl rfl (by rw [hz2]; omega) (by unfold maxLen; omega) (Nat.le_refl _) ?_; intro w2 hown0 hgrow0)
  have hb0 : Below w.heap.size w w2 := (Below.refl _ _).grown hgrow0 (Nat.le_refl _) (fun _ h => by cases h)
  rw [made_u8] at hown0
  clear hgrow0
  go_loopw [4] (fun i wr => ∃ k : Nat, k ≤ n ∧ i = .int .i64 k ∧ Hid (wr.ownsRow w.heap.size 5 1 (.slice (some ⟨w.heap.size, 0, none⟩) n n) n (BV (List.replicate k 244 ++ List.replicate (n - k) 0))) ∧ Hid (Below w.heap.size w wr)) (fun i _ => n - (intOf i).toNat)
  case atStart => exact ⟨0, Nat.zero_le _, rfl, Lib.hid (by simpa using hown0), Lib.hid hb0⟩
  case round =>
    obtain ⟨k, hk, rfl, HO, HL⟩ := hrel
    by_cases hlt : k < n
    · have hlt2 : (k : Int) < (n : Int) := by omega
      obtain ⟨u, d⟩ := own_cell HO.out k (by omega)
      have f := HO.out.frozenAt k
      go_wp2
      go_roundw
      case rel => exact ⟨k + 1, by omega, by go_num, Lib.hid (hlt_fill HO.out hlt), Lib.hid (HL.out.setCell (Nat.le_refl _) _)⟩
      case measure => simp [intOf]; omega
    · obtain rfl : k = n := by omega
      have e1 : List.replicate k (244 : UInt8) ++ List.replicate (k - k) 0 = List.replicate k 244 := by simp
      have ho := HO.out
      rw [e1] at ho
      have hs := str_own ho
      clear ho
      go_wp2
      go_ret
      exact ⟨rfl, HL.out⟩
theorem permS1 (f : Int) (w : World) : Calls Tryd.prog 55 #[.int .i64 f] w fun e w' => e = .returned (.int .i64 (permOf f)) ∧ w' = w := by
  by_cases h5 : f = 5
  · subst h5
    go_enter Tryd.func55, Tryd.ntmps55
    go_wp2
    go_returns
    exact ⟨rfl, rfl⟩
  · have b5 : (f == 5) = false := by simpa using h5
    by_cases h6 : f = 6
    · subst h6
      go_enter Tryd.func55, Tryd.ntmps55
      go_wp2
      go_returns
      exact ⟨rfl, rfl⟩
    · have b6 : (f == 6) = false := by simpa using h6
      rw [show permOf f = 1 by unfold permOf; rw [if_neg h5, if_neg h6]]
      clear h5 h6
      go_enter Tryd.func55, Tryd.ntmps55
      go_wp2
      go_returns
      exact ⟨rfl, rfl⟩
def upN (n : Nat) : Nat := (n + 255) / 256 * 256
theorem upS (n : Nat) (w : World) (hn : n ≤ 8192) : Calls Tryd.prog 56 #[.int .i64 (n : Int)] w fun e w' => e = .returned (.int .i64 (upN n : Int)) ∧ w' = w := by
  have hup : n ≤ upN n ∧ upN n ≤ 8448 ∧ upN n % 256 = 0 ∧ upN n < n + 256 := by unfold upN; omega
  generalize upN n = u at hup ⊢
  obtain ⟨u1, u2, u3, u4⟩ := hup
  go_enter Tryd.func56, Tryd.ntmps56
  go_wp2
  go_loopw [0] (fun v wr => ∃ j : Nat, n ≤ j ∧ j ≤ u ∧ v = .int .i64 j ∧ Hid (wr = w)) (fun v _ => u - (intOf v).toNat)
  case atStart => exact ⟨n, Nat.le_refl _, u1, rfl, Lib.hid rfl⟩
  case round =>
    obtain ⟨j, h1, h2, rfl, HW⟩ := hrel
    have ht : (j : Int).tmod 256 = (j : Int) % 256 := Int.tmod_eq_emod_of_nonneg (by omega)
    by_cases hz : j % 256 = 0
    · obtain rfl : j = u := by omega
      have ht2 : (j : Int).tmod 256 = 0 := by omega
      clear ht
      go_wp2
      go_ret
      exact ⟨rfl, HW.out⟩
    · have hb : ((j : Int).tmod 256 != 0) = true := by rw [bne_iff_ne]; omega
      have HT := Lib.hid ht
      clear ht
      go_wp2
      go_roundw
      case rel => exact ⟨j + 1, by omega, by omega, by go_num, HW⟩
      case measure => simp [intOf]; omega
/-- three lists one behind the other -/
def cat3 (A M B : List Pg) : List Pg := A ++ M ++ B
/-- a memory that grows page by page: the argument's box, the result's box, the list -/
def PJ (w wr : World) (A B : List Pg) (b perm : Int) (j : Nat) (q : Option Addr) (c : Nat) : Prop :=
  wr.heap[w.heap.size]? = some (.cells #[.slice q (cat3 A (zPgs b perm j) B).length c] 36 (0, 0)) ∧ wr.heap[w.heap.size + 1]? = some (.cells #[.slice none 0 0] 36 (0, 0)) ∧ Rd wr q (cat3 A (zPgs b perm j) B) ∧ (0 < j → Owns wr (w.heap.size + 1 + 1) q c (cat3 A (zPgs b perm j) B)) ∧ Below w.heap.size w wr
theorem PJ.step {w wr w1 : World} {A B : List Pg} {b perm : Int} {j : Nat} {q p' : Option Addr} {c cap' : Nat} (h : PJ w wr A B b perm j q c) (ho : Owns w1 wr.heap.size p' cap' (cat3 A (zPgs b perm (j + 1)) B)) (hb : Below wr.heap.size wr w1) : PJ w (w1.setCell ⟨w.heap.size, 0, none⟩ (.slice p' (cat3 A (zPgs b perm (j + 1)) B).length cap')) A B b perm (j + 1) p' cap' := by
  obtain ⟨h1, h2, h3, h4, h5⟩ := h
  have l1 := lt_of_block h1
  have l2 := lt_of_block h2
  have o1 : Owns (w1.setCell ⟨w.heap.size, 0, none⟩ (.slice p' (cat3 A (zPgs b perm (j + 1)) B).length cap')) wr.heap.size p' cap' (cat3 A (zPgs b perm (j + 1)) B) := ho.other (by omega) 0 _
  refine ⟨one_setCell ((hb.block _ l1).trans h1), ?_, Rd.of_own o1, fun _ => Joins.ownsRow_le o1 (by omega), (bthen h5 hb).setCell (Nat.le_refl _) _⟩
  rw [Below.heap_setCell _ _ _ _ (by simp)]
  exact (hb.block _ l2).trans h2
set_option maxHeartbeats 1000000 in
theorem pagesS (A B : List Pg) (p : Option Addr) (cap : Nat) (b perm size : Int) (n : Nat) (w : World) (hn : 0 < n) (hs : ∀ j : Nat, (256 * (j : Int) < size ↔ j < n)) (hA : ∀ x ∈ A, x.b < b) (hB : ∀ x ∈ B, b + 256 * n ≤ x.b) (hl : A.length + n + B.length ≤ 32) (h0 : 0 ≤ b) (h1 : b ≤ 65535) (hr : Rd w p (cat3 A [] B)) :
    Calls Tryd.prog 51 #[.agg #[.slice p (cat3 A [] B).length cap], .int .i64 b, .int .i64 size, .int .i64 perm] w fun e w' => ∃ p' cap', e = .returned (.agg #[.slice p' (cat3 A (zPgs b perm n) B).length cap']) ∧ Owns w' w.heap.size p' cap' (cat3 A (zPgs b perm n) B) ∧ Below w.heap.size w w' := by
  obtain ⟨W, hW⟩ : ∃ W, W = (w.alloc (.cells #[.slice p (cat3 A [] B).length cap] 36)).alloc (.cells #[.slice none 0 0] 36) := ⟨_, rfl⟩
  have e0 : cat3 A (zPgs b perm 0) B = cat3 A [] B := rfl
  have P0 : Hid (PJ w W A B b perm 0 p cap) := Lib.hid (by
    refine ⟨?_, ?_, ?_, fun h => by omega, ?_⟩
    · rw [e0, hW, Below.heap_alloc _ _ _ (by simp)]; exact heap_alloc_new w _
    · rw [hW]; have := heap_alloc_new (w.alloc (.cells #[.slice p (cat3 A [] B).length cap] 36)) (.cells #[.slice none 0 0] 36); simpa using this
    · rw [e0, hW]; exact hr.below (by go_grown)
    · rw [hW]; go_grown)
  have HW := Lib.hid hW; have HA := Lib.hid hA; have HB := Lib.hid hB
  clear hr hW e0 hA hB
  go_enter Tryd.func51, Tryd.ntmps51
  go_wp2
  rw [← HW.out]
  go_loopw [9] (fun i wr => ∃ j : Nat, j ≤ n ∧ i = .int .i64 (256 * (j : Int)) ∧ ∃ q c, Hid (PJ w wr A B b perm j q c)) (fun i _ => 256 * n - (intOf i).toNat)
  case atStart => exact ⟨0, Nat.zero_le _, rfl, p, cap, P0⟩
  case round =>
    obtain ⟨j, hj, rfl, q, c, HI⟩ := hrel
    obtain ⟨i1, i2, i3, i4, i5⟩ := HI.out
    have HI3 := Lib.hid i3
    have c1 := cell_of_one i1
    have c2 := cell_of_one i2
    have f1 := free_of_one i1
    have f2 := free_of_one i2
    have l1 := lt_of_block i1
    by_cases hlt : j < n
    · have hlt2 : 256 * (j : Int) < size := (hs j).2 hlt
      have ew : IntKind.i64.wrap (b + 256 * (j : Int)) = b + 256 * (j : Int) := IntWalk.i64_in _ (by omega)
      have hlen : (cat3 A (zPgs b perm j) B).length = A.length + j + B.length := by simp [cat3, zPgs_len]; omega
      have hzb : ∀ x ∈ zPgs b perm j, x.b < b + 256 * (j : Int) ∧ b ≤ x.b := by
        intro x hx
        unfold zPgs at hx
        obtain ⟨k, hk, rfl⟩ := List.mem_map.1 hx
        have := List.mem_range.1 hk
        simp only
        omega
      have hAj : ∀ x ∈ A ++ zPgs b perm j, x.b < b + 256 * (j : Int) := by
        intro x hx
        rcases List.mem_append.1 hx with h | h
        · have := HA.out x h; omega
        · exact (hzb x h).1
      have hBj : ∀ x ∈ B, b + 256 * (j : Int) ≤ x.b := fun x hx => by have := HB.out x hx; omega
      have hBj' : ∀ x ∈ B, x.b ≠ b + 256 * (j : Int) := fun x hx => by have := HB.out x hx; omega
      have hpl := place_app hAj hBj
      have hno : ∀ (k : Nat) x, (cat3 A (zPgs b perm j) B)[k]? = some x → x.b ≠ b + 256 * (j : Int) := by
        intro k x hk
        rcases List.mem_append.1 (show x ∈ (A ++ zPgs b perm j) ++ B from List.mem_iff_getElem?.2 ⟨k, hk⟩) with h | h
        · have := hAj x h; omega
        · exact hBj' x h
      have C := l02AddC q c (A ++ zPgs b perm j).length (cat3 A (zPgs b perm j) B) (b + 256 * (j : Int)) perm wr (by rw [hlen]; omega) HI3.out hpl hno
      have hins : insL (cat3 A (zPgs b perm j) B) (A ++ zPgs b perm j).length ⟨b + 256 * (j : Int), perm, zeros256⟩ = cat3 A (zPgs b perm (j + 1)) B := by
        unfold cat3; rw [ins_app, List.append_assoc A, zPgs_snoc]
      rw [hins] at C
      clear hins
      have HC := Lib.hid C
      clear C hpl hno hBj hBj' hAj hzb hlen i1 i2 i3 i4 i5
      go_wp2_with fail
      refine (HC.out).mono ?_
      rintro e w1 ⟨p', cap', rfl, ho, hb⟩
      have PS := Lib.hid (PJ.step HI.out ho hb)
      have d1 := (hb.cell (p := ⟨w.heap.size, 0, none⟩) l1).trans c1
      have g1 := (hb.frozen (p := ⟨w.heap.size, 0, none⟩) l1).trans f1
      clear ho hb HC c1 c2 f1 f2
      go_wp2
      go_roundw
      case rel => exact ⟨j + 1, by omega, by go_num, _, _, PS⟩
      case measure => simp [intOf]; omega
    · obtain rfl : j = n := by omega
      have hlt2 : ¬ 256 * (j : Int) < size := fun h => by have := (hs j).1 h; omega
      have r1 (v : Value) := cellSame c2 v
      have OW := Lib.hid (i4 hn)
      have HL := Lib.hid i5
      clear i1 i2 i3 i4 i5
      go_wp2
      refine bodyPost_ret (v := .agg #[.slice q (cat3 A (zPgs b perm j) B).length c]) (by simp [results, Tryd.results51, go_sem, r1]) rfl ?_
      exact ⟨q, c, rfl, Joins.ownsRow_le (OW.out.other (b := w.heap.size + 1) (by omega) 0 _) (by omega), HL.out.setCell (by simp) _⟩
theorem putF (A B : List Pg) (b0 off cap : Nat) (b p : Int) (t : ByteArray) (n : Nat) (w : World) (hm : MemOk (cat3 A (zPgs b p n) B)) (ht : t.size ≤ 256 * n) (hr : Rd w (some ⟨b0, off, none⟩) (cat3 A (zPgs b p n) B)) :
    Calls Tryd.prog 52 #[.agg #[.slice (some ⟨b0, off, none⟩) (cat3 A (zPgs b p n) B).length cap], .int .i64 b, .string t] w fun e w' => ∃ p' cap', e = .returned (.agg #[.slice p' (cat3 A (fPgs b p (padTo t.data.toList (256 * n) 0) n) B).length cap']) ∧ Owns w' w.heap.size p' cap' (cat3 A (fPgs b p (padTo t.data.toList (256 * n) 0) n) B) ∧ Below w.heap.size w w' := by
  have hl := lay_fill A B b p t n ht n 0 (by omega) (by omega)
  rw [mixF_zero, mixF_all] at hl
  change LayR 0 (cat3 A (zPgs b p n) B) _ _ (cat3 A (fPgs b p (padTo t.data.toList (256 * n) 0) n) B) 0 at hl
  have e1 : b + 256 * ((0 : Nat) : Int) = b := by omega
  have e2 : t.extract (256 * 0) t.size = t := by rw [Nat.mul_zero]; exact cut_all t
  rw [e1, e2] at hl
  have hft : ∀ i : Nat, i < t.size → ∃ v, ByteAt (cat3 A (zPgs b p n) B) 0 (b + i) v := by
    rcases hl.ft hm with ⟨_, h⟩ | ⟨i, _, _, hc⟩
    · exact h
    · have := code_pos hc; omega
  refine (l02PutC b0 off cap _ b t w (by have := hm.1; omega) hm hr hft).mono ?_
  rintro e w' ⟨p', cap', l', rfl, hL, ho, hb⟩
  obtain rfl := hl.one hm hL.out
  exact ⟨p', cap', rfl, ho, hb⟩
end Go.Proofs.YtcchcinnjahghaaDoor
