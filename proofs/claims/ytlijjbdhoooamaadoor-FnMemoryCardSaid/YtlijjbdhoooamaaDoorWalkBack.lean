/-
  Numbers are read back from their bytes: what impl.PutLittle, TakeLittle, SignOf and ZeroOf answer, put together, and what laws.sizeAt does; conditions: a number of kind int, a size of 1, 2, 4 or 8, the sentinels as the program's text lays them.
-/
import Derived.Test.YtlijjbdhoooamaaDoorWalkTake
import Derived.Test.YtlijjbdhoooamaaDoorLawAt
namespace Go.Proofs.YtlijjbdhoooamaaDoor
open Go.RowKit Go.Extern.Stop Go.Stop Go.Extern
theorem nb_list (s : ByteArray) (i : Nat) : nb s i = ((s.data.toList[i]?.map UInt8.toNat).getD 0) := by
  unfold nb
  by_cases h : i < s.size
  · have e : s.data.toList[i]? = some s[i] := by
      rw [List.getElem?_eq_getElem (by simpa using h)]; rfl
    rw [dif_pos h, e]; rfl
  · rw [dif_neg h, List.getElem?_eq_none (by simpa using h)]; rfl
theorem nb_mid (a b : ByteArray) (l : List UInt8) (hb : b = ⟨l.toArray⟩) (r : ByteArray) (j : Nat) (hj : j < l.length) : nb (a ++ b ++ r) (a.size + j) = l[j].toNat := by
  subst hb
  rw [nb_list]
  have e : (a ++ ⟨l.toArray⟩ ++ r).data.toList = a.data.toList ++ (l ++ r.data.toList) := by simp
  rw [e, List.getElem?_append_right (by simp), List.getElem?_append_left (by simp; omega)]
  have e2 : a.size + j - a.data.toList.length = j := by simp
  rw [e2, List.getElem?_eq_getElem hj]; rfl
theorem takeN_val (s : ByteArray) (a X : Nat) : ∀ n, (∀ j, j < n → nb s (a + j) = X / 2 ^ (8 * j) % 256) → takeN s a n = X % 2 ^ (8 * n)
  | 0, _ => by simp [takeN, Nat.mod_one]
  | n + 1, h => by
    simp only [takeN]
    rw [takeN_val s a X n (fun j hj => h j (by omega)), h n (by omega), pow8, Nat.mul_comm 256, Nat.mod_mul, Nat.mul_comm (X / _ % 256)]
theorem leB_len (X n : Nat) : (leB X n).length = n := by simp [leB]
theorem take_put (h T r : ByteArray) (X n : Nat) (hT : T = ⟨(leB X n).toArray⟩) : takeN (h ++ T ++ r) h.size n = X % 2 ^ (8 * n) := by
  refine takeN_val _ _ X n fun j hj => ?_
  rw [nb_mid h T (leB X n) hT r j (by rw [leB_len]; exact hj)]
  simp [leB, byteOf_nat]
theorem first_byte {T : ByteArray} {X size : Nat} (hT : T = ⟨(leB X size).toArray⟩) (hs : 1 ≤ size) (h : 0 < T.size) : T[0].toNat = X % 256 := by
  subst hT
  have hl : 0 < (leB X size).length := by rw [leB_len]; omega
  have e : (⟨(leB X size).toArray⟩ : ByteArray)[0] = (leB X size)[0] := rfl
  rw [e]; simp [leB, byteOf_nat]
theorem leB_size {T : ByteArray} {X size : Nat} (hT : T = ⟨(leB X size).toArray⟩) : T.size = size := by
  subst hT; show (leB X size).toArray.size = size; simp [leB_len]
theorem app_size3 (a b : ByteArray) : (a ++ b ++ ⟨#[120]⟩).size = a.size + b.size + 1 := by rw [ByteArray.size_append, ByteArray.size_append]; rfl
theorem low_byte {v : Int} {X : Nat} (hX : IntKind.u64.wrap v = (X : Int)) : wrap64 ((IntKind.u64.wrap v).tmod 256) = (X : Int) % 256 := by
  rw [hX, Int.tmod_eq_emod_of_nonneg (by omega)]; unfold wrap64; omega
theorem whole_word {v x : Int} {X size : Nat} (hv : (Lit.int .i64 v).wf = true) (hX : IntKind.u64.wrap v = (X : Int)) (hx : x = wrap64 ((X % 2 ^ (8 * size) : Nat) : Int)) (hs : size = 8) : x = v := by
  subst hs
  rw [hx, eqZ8 hX, wrapU]
  have := bounds_i64 hv
  unfold wrap64; omega
theorem sgn_mod (X s : Nat) : sgnU (X % 2 ^ (8 * s)) s = sgnU X s := by
  unfold sgnU
  congr 2
  apply BitVec.eq_of_toNat_eq
  simp
theorem u_w64 {n : Nat} (h : n < 18446744073709551616) : IntKind.u64.wrap (wrap64 (n : Int)) = (n : Int) := by rw [wrapU]; unfold wrap64; omega
theorem implZero (v : Int) (X size : Nat) (w : World) (hX : IntKind.u64.wrap v = (X : Int)) (hok : okSize (size : Int)) :
    Calls Tryd.prog 12 #[.int .i64 v, .int .i64 (size : Int)] w fun e w' => e = .returned (.tuple #[.int .i64 (wrap64 ((X % 2 ^ (8 * size) : Nat) : Int)), .int .i64 0]) ∧ Below w.heap.size w w' := by
  rcases (show size = 1 ∨ size = 2 ∨ size = 4 ∨ size = 8 by rcases hok with h | h | h | h <;> omega) with rfl | rfl | rfl | rfl
  · rw [eqZ1 hX]; exact implZeroYes v 1 _ w (unsigned1 v w)
  · rw [eqZ2 hX]; exact implZeroYes v 2 _ w (unsigned2 v w)
  · rw [eqZ4 hX]; exact implZeroYes v 4 _ w (unsigned4 v w)
  · rw [eqZ8 hX]; exact implZeroYes v 8 _ w (unsigned8 v w)
theorem implTakeIs (s : ByteArray) (a n r c : Int) (w : World) (aE aR : Addr) (hs : Sent w aE aR) (hm : s.size ≤ maxLen) (hw : (Lit.int .i64 a).wf = true) (ho : TakeOut s a n r c) :
    Calls Tryd.prog 32 #[.string s, .int .i64 a, .int .i64 n] w fun e w' => e = .returned (.tuple #[.int .i64 r, .int .i64 c]) ∧ Below w.heap.size w w' :=
  (implTake s a n w aE aR hs hm hw).mono fun e w' ⟨r', c', ho', he, hb⟩ => by
    obtain ⟨rfl, rfl⟩ := ho.one ho'
    exact ⟨he, hb⟩
def SizeOut (w : World) (e : Ending) (w' : World) : Prop := ∃ size : Nat, okSize (size : Int) ∧ e = .returned (.int .i64 (size : Int)) ∧ Below w.heap.size w w'
def sizesV : Array Value := #[.int .i64 1, .int .i64 2, .int .i64 4, .int .i64 8]
theorem sizes_at : ∀ i : Nat, i < 4 → ∃ size : Nat, sizesV[i]? = some (.int .i64 (size : Int)) ∧ okSize (size : Int)
  | 0, _ => ⟨1, rfl, .inl rfl⟩ | 1, _ => ⟨2, rfl, .inr (.inl rfl)⟩ | 2, _ => ⟨4, rfl, .inr (.inr (.inl rfl))⟩ | 3, _ => ⟨8, rfl, .inr (.inr (.inr rfl))⟩
  | n + 4, h => by omega
set_option maxHeartbeats 400000 in
theorem lawSizeAt (i len cap : Nat) (A : Option Addr) (w : World) (hr : Rdb w w.heap.size A len) (hl : len ≤ 140737488355328) (hi : i ≤ 1000000) :
    Calls Tryd.prog 5 #[.slice A len cap, .int .i64 (i : Int)] w (SizeOut w) := by
  have hat : ∀ w, Rdb w w.heap.size A len → Calls Tryd.prog 16 #[.slice A len cap, .int .i64 (i : Int), .int .i64 4] w (IntIn 0 3 w.heap.size w) := fun w hr => lawAt i 4 len cap A w hr hl hi (by omega) (by omega)
  have HAT := Lib.hid hat
  have HR := Lib.hid hr
  clear hat hr
  go_enter Tryd.func5, Tryd.ntmps5
  go_wp2_with fail
  refine (HAT.out _ ((HR.out.alloc (Nat.le_refl _) _).more (by simp))).mono ?_
  rintro e w1 ⟨r, r0, r1, rfl, hb⟩
  obtain ⟨k, rfl⟩ := Int.eq_ofNat_of_zero_le r0
  obtain ⟨size, hv, hok⟩ := sizes_at k (by omega)
  have hc : w1.cell? ⟨w.heap.size, k, none⟩ = some (.int .i64 (size : Int)) := by
    rw [hb.cell (p := ⟨w.heap.size, k, none⟩) (by simp), blk_cell (heap_alloc_new w _) k]; exact hv
  have HOK := Lib.hid hok
  have hk4 : (k : Int) < 4 := by omega
  clear hv hok
  go_wp2
  go_ret
  exact ⟨size, HOK.out, rfl, ((Below.refl _ _).alloc (Nat.le_refl _) _).trans (hb.mono (by simp))⟩
end Go.Proofs.YtlijjbdhoooamaaDoor
