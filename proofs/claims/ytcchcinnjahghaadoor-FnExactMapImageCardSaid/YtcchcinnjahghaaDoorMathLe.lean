/-
  Plain facts on the pages that a right image has in memory: cut out of bytes, put behind one another, laid by stores; no condition but those in each head.
  Plain facts on the pages of a right image: they rise, are in bounds, and what a segment's pages hold; no condition but those in each head.
-/
import Derived.Test.YtcchcinnjahghaaDoorWalkLay
import Derived.Test.YtcchcinnjahghaaDoorMathIns
import Derived.Test.YtcchcinnjahghaaDoorWalkPrv
import Derived.Test.YtcchcinnjahghaaDoorMathChk
namespace Go.Proofs.YtcchcinnjahghaaDoor
open Go.RowKit Go.Sort
set_option linter.unusedVariables false
set_option linter.unusedSimpArgs false
/-- t, and then h up to N bytes -/
def padTo (t : List UInt8) (N : Nat) (h : UInt8) : List UInt8 := t ++ List.replicate (N - t.length) h
theorem padTo_len {t : List UInt8} {N : Nat} {h : UInt8} (ht : t.length ≤ N) : (padTo t N h).length = N := by simp [padTo]; omega
/-- the bytes of page k -/
def chunkAt (u : List UInt8) (k : Nat) : ByteArray := ⟨((u.drop (256 * k)).take 256).toArray⟩
/-- n pages with the bytes u -/
def fPgs (b p : Int) (u : List UInt8) (n : Nat) : List Pg := (List.range n).map fun (k : Nat) => ⟨b + 256 * k, p, chunkAt u k⟩
/-- the same, filled up to page j -/
def mixF (b p : Int) (u : List UInt8) (n j : Nat) : List Pg := (List.range n).map fun (k : Nat) => ⟨b + 256 * k, p, if k < j then chunkAt u k else zeros256⟩
def zPgs (b p : Int) (n : Nat) : List Pg := (List.range n).map fun (k : Nat) => ⟨b + 256 * k, p, zeros256⟩
theorem zPgs_len (b p : Int) (n : Nat) : (zPgs b p n).length = n := by simp [zPgs]
theorem zPgs_snoc (b p : Int) (n : Nat) : zPgs b p n ++ [⟨b + 256 * n, p, zeros256⟩] = zPgs b p (n + 1) := by simp [zPgs, List.range_succ]
theorem fPgs_len (b p : Int) (u : List UInt8) (n : Nat) : (fPgs b p u n).length = n := by simp [fPgs]
theorem mixF_len (b p : Int) (u : List UInt8) (n j : Nat) : (mixF b p u n j).length = n := by simp [mixF]
theorem mixF_zero (b p : Int) (u : List UInt8) (n : Nat) : mixF b p u n 0 = zPgs b p n := by simp [mixF, zPgs]
theorem mixF_all (b p : Int) (u : List UInt8) (n : Nat) : mixF b p u n n = fPgs b p u n := by
  unfold mixF fPgs
  apply List.map_congr_left
  intro k hk
  rw [if_pos (List.mem_range.1 hk)]
theorem mixF_at {b p : Int} {u : List UInt8} {n j k : Nat} (h : k < n) : (mixF b p u n j)[k]? = some ⟨b + 256 * k, p, if k < j then chunkAt u k else zeros256⟩ := by simp [mixF, h]
theorem mixF_set {b p : Int} {u : List UInt8} {n j : Nat} (h : j < n) : (mixF b p u n j).set j ⟨b + 256 * j, p, chunkAt u j⟩ = mixF b p u n (j + 1) := by
  apply List.ext_getElem?
  intro k
  rw [List.getElem?_set]
  by_cases e : j = k
  · subst e
    rw [if_pos rfl, if_pos (by rw [mixF_len]; exact h), mixF_at h, if_pos (by omega)]
  · rw [if_neg e]
    by_cases hk : k < n
    · rw [mixF_at hk, mixF_at hk]
      congr 2
      by_cases hkj : k < j
      · rw [if_pos hkj, if_pos (by omega)]
      · rw [if_neg hkj, if_neg (by omega)]
    · rw [List.getElem?_eq_none (by rw [mixF_len]; omega), List.getElem?_eq_none (by rw [mixF_len]; omega)]
theorem chunk_zero {t : List UInt8} {n k : Nat} (hk : t.length ≤ 256 * k) (hn : k < n) : chunkAt (padTo t (256 * n) 0) k = zeros256 := by
  unfold chunkAt padTo zeros256
  rw [List.drop_append, List.drop_eq_nil_of_le hk, List.nil_append, List.drop_replicate, List.take_replicate]
  congr 3
  omega
theorem mixF_end {b p : Int} {t : List UInt8} {n j : Nat} (h : t.length ≤ 256 * j) : mixF b p (padTo t (256 * n) 0) n j = mixF b p (padTo t (256 * n) 0) n n := by
  unfold mixF
  apply List.map_congr_left
  intro k hk
  have hk := List.mem_range.1 hk
  by_cases hkj : k < j
  · rw [if_pos hkj, if_pos hk]
  · rw [if_neg hkj, if_pos hk, chunk_zero (by omega) hk]
theorem ba_list (t : ByteArray) (a b : Nat) : (t.extract a b).data.toList = (t.data.toList.take b).drop a := by
  simp [ByteArray.data_extract, List.extract_eq_take_drop, List.drop_take]
theorem chunk_wr {t : ByteArray} {n j : Nat} (hj : j < n) (h : 256 * j < t.size) (hn : t.size ≤ 256 * n) : wrB zeros256 0 (t.extract (256 * j) t.size) (min (t.extract (256 * j) t.size).size 256) = chunkAt (padTo t.data.toList (256 * n) 0) j := by
  have hsz : (t.extract (256 * j) t.size).size = t.size - 256 * j := by rw [ByteArray.size_extract]; omega
  have hl : t.data.toList.length = t.size := rfl
  apply ByteArray.ext
  apply Array.ext'
  unfold wrB chunkAt
  rw [hsz, zeros_size]
  simp only [ByteArray.data_append, Array.toList_append, ba_list]
  have hz : zeros256.data.toList = List.replicate 256 0 := rfl
  rw [hz]
  unfold padTo
  rw [List.drop_append, hl]
  have e1 : t.data.toList.take t.size = t.data.toList := List.take_of_length_le (by rw [hl]; exact Nat.le_refl _)
  rw [e1]
  simp only [List.take_zero, List.drop_nil, List.nil_append, List.drop_zero, Nat.sub_zero]
  rw [List.take_append, List.length_drop, hl]
  have e2 : (256 * j - t.size) = 0 := by omega
  rw [e2, List.drop_zero]
  have e3 : (List.drop (256 * j) t.data.toList).take (min (t.size - 256 * j) 256) = (List.drop (256 * j) t.data.toList).take 256 := by
    by_cases hm : t.size - 256 * j ≤ 256
    · rw [Nat.min_eq_left hm, List.take_of_length_le (by rw [List.length_drop, hl]; exact Nat.le_refl _), List.take_of_length_le (by rw [List.length_drop, hl]; exact hm)]
    · rw [Nat.min_eq_right (by omega)]
  rw [e3]
  congr 1
  simp only [Nat.zero_add, List.take_replicate, List.drop_replicate]
  congr 1
  omega
/-- a text laid on fresh pages fills them -/
theorem lay_fill (A B : List Pg) (b p : Int) (t : ByteArray) (n : Nat) (ht : t.size ≤ 256 * n) (d : Nat) : ∀ j, n - j = d → j ≤ n → LayR 0 (A ++ mixF b p (padTo t.data.toList (256 * n) 0) n j ++ B) (b + 256 * j) (t.extract (256 * j) t.size) (A ++ mixF b p (padTo t.data.toList (256 * n) 0) n n ++ B) 0 := by
  have hl : t.data.toList.length = t.size := rfl
  induction d with
  | zero =>
    intro j hd hj
    obtain rfl : j = n := by omega
    exact .done _ _ _ (by rw [ByteArray.size_extract]; omega)
  | succ d ih =>
    intro j hd hj
    by_cases h : t.size ≤ 256 * j
    · rw [mixF_end (by rw [hl]; exact h)]
      exact .done _ _ _ (by rw [ByteArray.size_extract]; omega)
    · have hjn : j < n := by omega
      have hsz : (t.extract (256 * j) t.size).size = t.size - 256 * j := by rw [ByteArray.size_extract]; omega
      have hat : (A ++ mixF b p (padTo t.data.toList (256 * n) 0) n j ++ B)[A.length + j]? = some ⟨b + 256 * j, p, zeros256⟩ := by
        rw [List.append_assoc, List.getElem?_append_right (by omega), Nat.add_sub_cancel_left, List.getElem?_append_left (by rw [mixF_len]; exact hjn), mixF_at hjn, if_neg (by omega)]
      have e0 : (b + 256 * (j : Int) - (b + 256 * (j : Int))).toNat = 0 := by omega
      have hmu : much ⟨b + 256 * j, p, zeros256⟩ (b + 256 * j) (t.extract (256 * j) t.size) = min (t.extract (256 * j) t.size).size 256 := by
        unfold much; simp only [e0, Nat.sub_zero]
      refine .step _ _ _ (A.length + j) ⟨b + 256 * j, p, zeros256⟩ _ _ (by rw [hsz]; omega) ⟨hat, by simp, by simp; omega⟩ (allow0 _) ?_
      rw [hmu]
      simp only [e0]
      rw [chunk_wr hjn (by omega) ht]
      have hset : (A ++ mixF b p (padTo t.data.toList (256 * n) 0) n j ++ B).set (A.length + j) ⟨b + 256 * j, p, chunkAt (padTo t.data.toList (256 * n) 0) j⟩ = A ++ mixF b p (padTo t.data.toList (256 * n) 0) n (j + 1) ++ B := by
        rw [List.append_assoc, List.set_append_right _ _ (by omega), Nat.add_sub_cancel_left, List.set_append_left _ _ (by rw [mixF_len]; exact hjn), mixF_set hjn, ← List.append_assoc]
      rw [hset, hsz]
      by_cases hm : t.size - 256 * j ≤ 256
      · rw [Nat.min_eq_left hm]
        rw [mixF_end (j := j + 1) (by rw [hl]; omega)]
        exact .done _ _ _ (by rw [ByteArray.size_extract, hsz]; omega)
      · rw [Nat.min_eq_right (by omega)]
        have e4 : b + 256 * (j : Int) + ((256 : Nat) : Int) = b + 256 * ((j + 1 : Nat) : Int) := by omega
        have e5 : (t.extract (256 * j) t.size).extract 256 (t.size - 256 * j) = t.extract (256 * (j + 1)) t.size := by
          have := cut_cut t (256 * j) 256
          rw [hsz] at this
          rw [this, Nat.mul_add]
        rw [e4, e5]
        exact ih (j + 1) (by omega) (by omega)
end Go.Proofs.YtcchcinnjahghaaDoor
namespace Go.Proofs.YtcchcinnjahghaaDoor
open Go.RowKit Go.Sort
set_option linter.unusedVariables false
set_option linter.unusedSimpArgs false
def Rise (l : List Pg) : Prop := l.Pairwise (fun x y => x.b < y.b)
theorem memOk_of {l : List Pg} (h32 : l.length ≤ 32) (hok : ∀ x ∈ l, PgOk x) (hr : Rise l) : MemOk l := by
  refine ⟨h32, fun k x hk => hok x (List.mem_iff_getElem?.2 ⟨k, hk⟩), fun k x y hx hy => ?_⟩
  obtain ⟨h1, e1⟩ := List.getElem?_eq_some_iff.1 hx
  obtain ⟨h2, e2⟩ := List.getElem?_eq_some_iff.1 hy
  have := List.pairwise_iff_getElem.1 hr k (k + 1) h1 h2 (by omega)
  rwa [e1, e2] at this
theorem rise_app {a b : List Pg} (ha : Rise a) (hb : Rise b) (h : ∀ x ∈ a, ∀ y ∈ b, x.b < y.b) : Rise (a ++ b) := List.pairwise_append.2 ⟨ha, hb, h⟩
theorem place_app {A B : List Pg} {b : Int} (hA : ∀ x ∈ A, x.b < b) (hB : ∀ x ∈ B, b ≤ x.b) : PlaceAt (A ++ B) b A.length := by
  refine ⟨by simp, fun k x hk => ?_⟩
  rcases Nat.lt_or_ge k A.length with h | h
  · rw [List.getElem?_append_left h] at hk
    exact ⟨fun _ => h, fun _ => hA x (List.mem_iff_getElem?.2 ⟨k, hk⟩)⟩
  · rw [List.getElem?_append_right h] at hk
    have := hB x (List.mem_iff_getElem?.2 ⟨_, hk⟩)
    constructor <;> intro <;> omega
theorem ins_app (A B : List Pg) (x : Pg) : insL (A ++ B) A.length x = A ++ [x] ++ B := by
  unfold insL
  rw [List.take_left, List.drop_left]
  simp
def permOf (f : Int) : Int := if f = 5 then 5 else if f = 6 then 3 else 1
def hltOf (f : Int) : UInt8 := if f = 5 then 244 else 0
def nPg (m : Int) : Nat := ((m + 255) / 256).toNat
def segU (x : Sg) : List UInt8 := padTo x.d.data.toList (256 * nPg x.m) (hltOf x.f)
/-- a segment's pages -/
def segPgs (x : Sg) : List Pg := fPgs (16384 + x.v) (permOf x.f) (segU x) (nPg x.m)
def allSegs (l : List Sg) : List Pg := l.flatMap segPgs
def haltT (n : Nat) : ByteArray := ⟨(List.replicate n 244).toArray⟩
def headPgs : List Pg := [⟨4096, 3, prvT⟩, ⟨16640, 4, haltT 256⟩]
def tailPgs : List Pg := [⟨19968, 3, zeros256⟩, ⟨20224, 3, zeros256⟩, ⟨32768, 3, prvT⟩]
/-- all pages of a right image -/
def imgPgs (l : List Sg) : List Pg := headPgs ++ allSegs l ++ tailPgs
theorem seg_facts {free : Int} {run : Bool} {x : Sg} (hf : 512 ≤ free) (h : segC free run x = 0) : ∃ q : Nat, x.v = 256 * q ∧ free ≤ x.v ∧ x.v ≤ 3583 ∧ 1 ≤ x.m ∧ x.m ≤ 3584 - x.v ∧ (x.d.size : Int) ≤ x.m ∧ (x.f = 5 → (x.d.size : Int) = x.m) ∧ (x.f = 4 ∨ x.f = 5 ∨ x.f = 6) := by
  obtain ⟨h1, h2, h3, h4, h5, h6, h7, h8⟩ := seg_ok hf h
  have ht : x.v.tmod 256 = 0 := by
    unfold fitB at h2
    simp at h2
    exact h2.1.1.1
  rw [Int.tmod_eq_emod_of_nonneg (by omega)] at ht
  refine ⟨(x.v / 256).toNat, by omega, h4, h5, h6, h7, h8, fun h => ?_, ?_⟩
  · have := (h3 h).2
    unfold codeB at this
    simp at this
    exact this.1
  · unfold fOk at h1
    simp at h1
    omega
/-- what a segment's pages are like -/
theorem segPgs_ok {x : Sg} {q : Nat} (hv : x.v = 256 * q) (h0 : 512 ≤ x.v) (h3 : x.v ≤ 3583) (h4 : 1 ≤ x.m) (h5 : x.m ≤ 3584 - x.v) (h6 : (x.d.size : Int) ≤ x.m) :
    x.v + 256 * nPg x.m = wpN (x.v + x.m) ∧ x.d.size ≤ 256 * nPg x.m ∧ 0 < nPg x.m ∧ nPg x.m ≤ 12 ∧ (∀ y ∈ segPgs x, PgOk y ∧ 16384 + x.v ≤ y.b ∧ y.b + 256 ≤ 16384 + wpN (x.v + x.m)) ∧ Rise (segPgs x) := by
  have hn : ((nPg x.m : Nat) : Int) = (x.m + 255) / 256 := by unfold nPg; omega
  have e1 : x.v + 256 * nPg x.m = wpN (x.v + x.m) := by unfold wpN; omega
  have e2 : x.d.size ≤ 256 * nPg x.m := by omega
  have hul : (segU x).length = 256 * nPg x.m := padTo_len (by simpa using e2)
  refine ⟨e1, e2, by omega, by omega, fun y hy => ?_, ?_⟩
  · unfold segPgs fPgs at hy
    obtain ⟨k, hk, rfl⟩ := List.mem_map.1 hy
    have hk := List.mem_range.1 hk
    refine ⟨⟨?_, ?_, ?_, ?_, ?_, ?_⟩, ?_, ?_⟩
    · simp only; omega
    · simp only; omega
    · simp only; omega
    · simp only; unfold permOf; split <;> (try split) <;> omega
    · simp only; unfold permOf; split <;> (try split) <;> omega
    · show (chunkAt (segU x) k).size = 256
      unfold chunkAt
      show ((List.take 256 (List.drop (256 * k) (segU x))).toArray).size = 256
      simp [hul]
      omega
    · simp only; omega
    · simp only; omega
  · unfold segPgs fPgs Rise
    rw [List.pairwise_map]
    exact List.pairwise_lt_range.imp (fun h => by simp only; omega)
theorem allSegs_snoc {l : List Sg} {k : Nat} {x : Sg} (h : l[k]? = some x) : allSegs (l.take (k + 1)) = allSegs (l.take k) ++ segPgs x := by
  rw [take_snoc h]; simp [allSegs]
theorem segs_ok {l : List Sg} {k : Nat} (h : OkTo l k) (hk : k ≤ l.length) : (∀ y ∈ allSegs (l.take k), PgOk y ∧ 16896 ≤ y.b ∧ y.b + 256 ≤ 16384 + freeOf (l.take k)) ∧ Rise (allSegs (l.take k)) ∧ 512 + 256 * ((allSegs (l.take k)).length : Int) ≤ freeOf (l.take k) := by
  induction k with
  | zero => exact ⟨by simp [allSegs], by simp [allSegs, Rise], by simp [allSegs, freeOf]⟩
  | succ k ih =>
    have hx : l[k]? = some (l[k]'(by omega)) := List.getElem?_eq_getElem (by omega)
    obtain ⟨i1, i2, i3⟩ := ih (fun j x hj => h j x (by omega)) (by omega)
    have hf := okTo_free (okTo_mono h (Nat.le_succ k)) (by omega)
    obtain ⟨q, f1, f2, f3, f4, f5, f6, f7, f8⟩ := seg_facts hf.1 (h k _ (by omega) hx)
    obtain ⟨g1, g2, g3, g4, g5, g6⟩ := segPgs_ok f1 (by omega) f3 f4 f5 f6
    rw [allSegs_snoc hx, free_snoc hx]
    refine ⟨fun y hy => ?_, ?_, ?_⟩
    · rcases List.mem_append.1 hy with hy | hy
      · obtain ⟨a, b, c⟩ := i1 y hy
        exact ⟨a, b, by omega⟩
      · obtain ⟨a, b, c⟩ := g5 y hy
        exact ⟨a, by omega, by omega⟩
    · refine rise_app i2 g6 (fun y hy z hz => ?_)
      have a := i1 y hy
      have b := g5 z hz
      omega
    · rw [List.length_append]
      have : (segPgs (l[k]'(by omega))).length = nPg (l[k]'(by omega)).m := fPgs_len _ _ _ _
      rw [this]
      omega
theorem haltT_size (n : Nat) : (haltT n).size = n := by
  show ((List.replicate n (244 : UInt8)).toArray).size = n
  simp
theorem prvT_size : prvT.size = 256 := by
  show ((prvL 256).toArray).size = 256
  simp [prvL_len]
end Go.Proofs.YtcchcinnjahghaaDoor
