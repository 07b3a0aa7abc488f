/-
  What spec.l01Little does: the lowest bytes of a number, the lowest one first, in a text of its own; changing nothing that was there; conditions: those in each head.
  What spec.l10Head answers: the head of an image's text, in memory of its own; condition: those in each head.
-/
import Derived.Test.YtcchcinnjahghaaDoorBytes
import Derived.Lib.Hide
import Derived.Test.YtcchcinnjahghaaDoorWalkKw
namespace Go.Proofs.YtcchcinnjahghaaDoor
open Go.RowKit
set_option linter.unusedVariables false
set_option linter.unusedSimpArgs false
theorem wrapUL (n : Int) : IntKind.u64.wrap n = n % 18446744073709551616 := IntKind.wrap_u64 n
theorem cast_dpL (U k : Nat) : ((U / 2 ^ k : Nat) : Int) = (U : Int) / 2 ^ k := by simp
def byteL (X k : Nat) : UInt8 := UInt8.ofNat (X / 2 ^ (8 * k) % 256)
def litB (X n : Nat) : List UInt8 := (List.range n).map (byteL X)
theorem byteL_nat (X k : Nat) : (byteL X k).toNat = X / 2 ^ (8 * k) % 256 := by
  unfold byteL; rw [UInt8.toNat_ofNat']; omega
theorem litB_snoc (X k : Nat) : litB X k ++ [byteL X k] = litB X (k + 1) := by simp [litB, List.range_succ]
theorem pByteL (X k : Nat) : IntKind.u8.wrap ((X : Int) / 2 ^ (8 * k)) = ((byteL X k).toNat : Int) := by
  rw [byteL_nat, ← cast_dpL, IntKind.wrap_u8]; omega
theorem pByteL' (X k : Nat) : ((X : Int) / 2 ^ (8 * k)) % 256 = ((byteL X k).toNat : Int) := by
  rw [byteL_nat, ← cast_dpL]; omega
set_option maxHeartbeats 1000000 in
theorem specLit (v : Int) (X size : Nat) (w : World) (hX : IntKind.u64.wrap v = (X : Int)) (hs8 : size ≤ 8) :
    Calls Tryd.prog 87 #[.int .i64 v, .int .i64 (size : Int)] w fun e w' => e = .returned (.string ⟨(litB X size).toArray⟩) ∧ Below w.heap.size w w' := by
  obtain ⟨i0, hi, hz0, hz1, hz2⟩ := info_parts infoB
  go_enter Tryd.func87, Tryd.ntmps87
  go_wp2
  go_loopw [5, 6] (fun x i wr => ∃ (k g cap : Nat), k ≤ size ∧ i = .int .i64 k ∧ x = .slice (some ⟨g, 0, none⟩) k cap ∧ wr.ownsRow w.heap.size 5 1 (.slice (some ⟨g, 0, none⟩) k cap) k (BV (litB X k)) ∧ Below w.heap.size w wr) (fun _ i _ => size - (intOf i).toNat)
  case atStart =>
    exact ⟨0, w.heap.size, 0, Nat.zero_le _, rfl, rfl, World.ownsRow_made w #[] 0 (Nat.le_refl _) (Nat.zero_le _) rfl, (Below.refl _ _).alloc (Nat.le_refl _) _⟩
  case round =>
    obtain ⟨k, g, cap, hk, rfl, rfl, hown, hnx⟩ := hrel
    by_cases hlt : k < size
    · have hlt2 : (k : Int) < size := by omega
      have hsz := hnx.size
      have hm1 : k + 1 ≤ maxLen := by unfold maxLen; omega
      have hb1 : (k + 1) * 1 ≤ 140737488355328 := by omega
      have f1 := pByteL X k
      have f2 := pByteL' X k
      go_wp2_with (at_builtin; refine wpList_append_lies _ rfl _ _ _ rfl w.heap.size 5 i0 (.int .u8 0) 1 1 Tryd.underlying97 hi hz0 hz1 hz2 rfl (by omega) _ k (BV (litB X k)) rfl (hown.alloc _) ⟨wr.heap.size, 0, none⟩ 1 1 (BV [byteL X k]) rfl rfl (news1' _ _) (BV_one _) (by omega) hm1 hb1 (by simp; omega) (wr.heap.size + 1) (by simp) ?_; intro g' cap' w1 hown1 hgrow hat hlt1)
      rw [BV_app, litB_snoc] at hown1
      have hb2 := below_app' hnx hgrow (fun j hj => (hown.lt j hj).1)
      clear hown hnx hgrow hat hlt1 hm1 hb1 hsz f1 f2
      go_wp2
      go_roundw
      case rel => exact ⟨k + 1, g', cap', by omega, by go_num, rfl, hown1, hb2⟩
      case measure => simp [intOf]; omega
    · obtain rfl : k = size := by omega
      have hconv := str_own hown
      go_wp2
      go_ret
      exact ⟨rfl, hnx⟩
/-- the lowest n bytes of a number -/
def litS (v : Int) (n : Nat) : ByteArray := ⟨(litB (IntKind.u64.wrap v).toNat n).toArray⟩
theorem litS_size (v : Int) (n : Nat) : (litS v n).size = n := by show (litB _ n).toArray.size = n; simp [litB]
theorem litC (v : Int) (n : Nat) (w : World) (h : n ≤ 8) : Calls Tryd.prog 87 #[.int .i64 v, .int .i64 (n : Int)] w fun e w' => e = .returned (.string (litS v n)) ∧ Below w.heap.size w w' :=
  specLit v (IntKind.u64.wrap v).toNat n w (by have := wrapUL v; omega) h
end Go.Proofs.YtcchcinnjahghaaDoor
namespace Go.Proofs.YtcchcinnjahghaaDoor
open Go.RowKit
set_option linter.unusedVariables false
set_option linter.unusedSimpArgs false
def z8 : ByteArray := ⟨#[0, 0, 0, 0, 0, 0, 0, 0]⟩
def z6 : ByteArray := ⟨#[0, 0, 0, 0, 0, 0]⟩
/-- the head of an image's text -/
def headT (n many : Int) : ByteArray := (((((((((((((⟨#[127, 69, 76, 70, 2, 1, 1, 0]⟩ : ByteArray) ++ z8) ++ (litS 2 2)) ++ (litS 62 2)) ++ (litS 1 4)) ++ (litS n 8)) ++ (litS 64 8)) ++ (litS 0 8)) ++ (litS 0 4)) ++ (litS 64 2)) ++ (litS 56 2)) ++ (litS many 2)) ++ z6)
theorem headT_size (n many : Int) : (headT n many).size = 64 := by
  simp only [headT, ByteArray.size_append, litS_size]; rfl
/-- a row of k noughts of one's own -/
def SlK (B k : Nat) (w : World) (v : Value) : Prop := ∃ g, v = .slice (some ⟨g, 0, none⟩) k k ∧ w.ownsRow B 5 1 (.slice (some ⟨g, 0, none⟩) k k) k (BV (List.replicate k 0))
theorem SlK.mono {B k : Nat} {w w' : World} {v : Value} (he : Ext w w') (h : SlK B k w v) : SlK B k w' v := by
  obtain ⟨g, e, hw⟩ := h
  refine ⟨g, e, hw.1, ?_⟩
  rcases hw.2 with h' | ⟨b, cap, cur, e1, e2, e3, e4⟩
  · exact .inl h'
  · exact .inr ⟨b, cap, cur, e1, e2, (he.block b (Array.getElem?_eq_some_iff.1 e3).1).trans e3, e4⟩
theorem noDst {L : List Oper} {k : Nat} (h : L.all (fun o => o.dst != some k) = true) : ∀ (j : Nat) o, L.toArray[j]? = some o → o.dst ≠ some k := by
  intro j o ho hd
  have h1 := List.all_eq_true.1 h o (List.mem_iff_getElem?.2 ⟨j, by simpa using ho⟩)
  rw [hd] at h1
  simp at h1
theorem addK (a : Act) (w : World) (o : Oper) (x y : Operand) (s t u : ByteArray) (ho : o.op = Op.binOp BinOp.add 9 x y 9) (hx : a.eval x = .string s) (hy : a.eval y = .string t) (hb : s.size + t.size ≤ 9223372036854775807) (hu : u = s ++ t) :
    (execOp a.eval o).run Tryd.prog w = .ok (.value (.string u)) w := by
  subst hu
  have hb' : ¬ 9223372036854775807 < s.size + t.size := by omega
  obtain ⟨od, op, oty, ops, oaf, ogd⟩ := o
  simp only at ho
  subst ho
  simp only [execOp, hx, hy]
  go_simp
theorem makeK (a : Act) (w : World) (o : Oper) (B k : Nat) (ho : o.op = Op.makeSlice 97 (.const (.int .i64 (k : Int))) (.const (.int .i64 (k : Int)))) (hB : B ≤ w.heap.size) (hk : k ≤ 1000) :
    upK Tryd.prog (fun w' v => Ext w w' ∧ SlK B k w' v) ((execOp a.eval o).run Tryd.prog w) := by
  obtain ⟨i0, hi, hz0, hz1, hz2⟩ := info_parts infoB
  obtain ⟨w', hrun, r1, r2⟩ := run_make_full (P := Tryd.prog) w B 97 5 i0 _ 1 Tryd.underlying97 hi hz0 hz1 .i64 .i64 k (by rw [hz2]; omega) (by unfold maxLen; omega) hB
  obtain ⟨od, op, oty, ops, oaf, ogd⟩ := o
  simp only at ho
  subst ho
  have e : (execOp a.eval { dst := od, op := Op.makeSlice 97 (.const (.int .i64 (k : Int))) (.const (.int .i64 (k : Int))), type := oty, pos := ops, after := oaf, guard := ogd }).run Tryd.prog w = .ok (.value (.slice (some ⟨w.heap.size, 0, none⟩) k k)) w' := by
    simp [execOp, Act.eval, hrun, Result.andThen]
  rw [e]
  refine ⟨(Below.refl _ _).grown r2 (Nat.le_refl _) (fun _ h => by cases h), w.heap.size, rfl, ?_⟩
  have hm : (madeCells (Value.int .u8 0).cells (k * 1)).toList = BV (List.replicate k 0) := by
    simp [madeCells, BV, Value.cells, Nat.mod_one]
    rw [List.map_const', List.length_range]
  rw [← hm]; exact r1
theorem convK (a : Act) (w : World) (o : Oper) (x : Operand) (B k : Nat) (u : ByteArray) (ho : o.op = Op.convert 97 9 x) (hx : SlK B k w (a.eval x)) (hu : u = ⟨(List.replicate k 0).toArray⟩) :
    (execOp a.eval o).run Tryd.prog w = .ok (.value (.string u)) w := by
  obtain ⟨g, e, hw⟩ := hx
  have hc := str_own hw
  subst hu
  obtain ⟨od, op, oty, ops, oaf, ogd⟩ := o
  simp only at ho
  subst ho
  simp only [execOp, e]
  simp [hc, Result.andThen]
theorem litK (a : Act) (w : World) (o : Oper) (v : Int) (n : Nat) (ho : o.op = Op.call { callee := Callee.value (Operand.func 87), args := #[.const (.int .i64 v), .const (.int .i64 (n : Int))], argTypes := #[3, 3] }) (hn : n ≤ 8) :
    upK Tryd.prog (fun w' r => Ext w w' ∧ r = .string (litS v n)) ((execOp a.eval o).run Tryd.prog w) := by
  obtain ⟨od, op, oty, ops, oaf, ogd⟩ := o
  simp only at ho
  subst ho
  have e : (execOp a.eval { dst := od, op := Op.call { callee := Callee.value (Operand.func 87), args := #[.const (.int .i64 v), .const (.int .i64 (n : Int))], argTypes := #[3, 3] }, type := oty, pos := ops, after := oaf, guard := ogd }).run Tryd.prog w = .ok (.enter 87 #[.int .i64 v, .int .i64 (n : Int)]) w := by
    go_simp
  rw [e]
  exact (litC v n w hn).mono fun e w' ⟨he, hb⟩ => ⟨_, he, hb, rfl⟩
theorem litV (a : Act) (w : World) (o : Oper) (k : Nat) (v : Int) (n : Nat) (ho : o.op = Op.call { callee := Callee.value (Operand.func 87), args := #[.tmp k, .const (.int .i64 (n : Int))], argTypes := #[3, 3] }) (hx : a.tmps.getD k undef = .int .i64 v) (hn : n ≤ 8) :
    upK Tryd.prog (fun w' r => Ext w w' ∧ r = .string (litS v n)) ((execOp a.eval o).run Tryd.prog w) := by
  have hx' : a.tmps[k]?.getD undef = .int .i64 v := by rw [← Array.getD_eq_getD_getElem?]; exact hx
  obtain ⟨od, op, oty, ops, oaf, ogd⟩ := o
  simp only at ho
  subst ho
  have e : (execOp a.eval { dst := od, op := Op.call { callee := Callee.value (Operand.func 87), args := #[.tmp k, .const (.int .i64 (n : Int))], argTypes := #[3, 3] }, type := oty, pos := ops, after := oaf, guard := ogd }).run Tryd.prog w = .ok (.enter 87 #[.int .i64 v, .int .i64 (n : Int)]) w := by
    go_simp
  rw [e]
  exact (litC v n w hn).mono fun e w' ⟨he, hb⟩ => ⟨_, he, hb, rfl⟩
theorem moveK (a : Act) (w : World) (o : Oper) (k : Nat) (v : Value) (ho : o.op = Op.move (.tmp k) ∨ o.op = Op.assign (.tmp k)) (hx : a.tmps.getD k undef = v) : (execOp a.eval o).run Tryd.prog w = .ok (.value v) w := by
  have hx' : a.tmps[k]?.getD undef = v := by rw [← Array.getD_eq_getD_getElem?]; exact hx
  obtain ⟨od, op, oty, ops, oaf, ogd⟩ := o
  simp only at ho
  rcases ho with ho | ho
  · subst ho
    go_simp
  · subst ho
    go_simp
theorem extSelf (w : World) : Ext w w := Below.refl _ _
set_option maxRecDepth 100000 in
set_option maxHeartbeats 4000000 in
theorem headC (n many : Int) (w : World) : Calls Tryd.prog 70 #[.int .i64 n, .int .i64 many] w fun e w' => e = .returned (.string (headT n many)) ∧ Below w.heap.size w w' := by
  obtain ⟨T7, hT7⟩ : ∃ T : ByteArray, T = (⟨#[127, 69, 76, 70, 2, 1, 1, 0]⟩ : ByteArray) ++ z8 := ⟨_, rfl⟩
  have z7 : T7.size = 16 := by rw [hT7]; simp only [ByteArray.size_append, litS_size]; try rfl
  obtain ⟨T9, hT9⟩ : ∃ T : ByteArray, T = T7 ++ (litS 2 2) := ⟨_, rfl⟩
  have z9 : T9.size = 18 := by rw [hT9]; simp only [ByteArray.size_append, litS_size, z7]; try rfl
  obtain ⟨T11, hT11⟩ : ∃ T : ByteArray, T = T9 ++ (litS 62 2) := ⟨_, rfl⟩
  have z11 : T11.size = 20 := by rw [hT11]; simp only [ByteArray.size_append, litS_size, z9]; try rfl
  obtain ⟨T13, hT13⟩ : ∃ T : ByteArray, T = T11 ++ (litS 1 4) := ⟨_, rfl⟩
  have z13 : T13.size = 24 := by rw [hT13]; simp only [ByteArray.size_append, litS_size, z11]; try rfl
  obtain ⟨T16, hT16⟩ : ∃ T : ByteArray, T = T13 ++ (litS n 8) := ⟨_, rfl⟩
  have z16 : T16.size = 32 := by rw [hT16]; simp only [ByteArray.size_append, litS_size, z13]; try rfl
  obtain ⟨T18, hT18⟩ : ∃ T : ByteArray, T = T16 ++ (litS 64 8) := ⟨_, rfl⟩
  have z18 : T18.size = 40 := by rw [hT18]; simp only [ByteArray.size_append, litS_size, z16]; try rfl
  obtain ⟨T20, hT20⟩ : ∃ T : ByteArray, T = T18 ++ (litS 0 8) := ⟨_, rfl⟩
  have z20 : T20.size = 48 := by rw [hT20]; simp only [ByteArray.size_append, litS_size, z18]; try rfl
  obtain ⟨T22, hT22⟩ : ∃ T : ByteArray, T = T20 ++ (litS 0 4) := ⟨_, rfl⟩
  have z22 : T22.size = 52 := by rw [hT22]; simp only [ByteArray.size_append, litS_size, z20]; try rfl
  obtain ⟨T24, hT24⟩ : ∃ T : ByteArray, T = T22 ++ (litS 64 2) := ⟨_, rfl⟩
  have z24 : T24.size = 54 := by rw [hT24]; simp only [ByteArray.size_append, litS_size, z22]; try rfl
  obtain ⟨T26, hT26⟩ : ∃ T : ByteArray, T = T24 ++ (litS 56 2) := ⟨_, rfl⟩
  have z26 : T26.size = 56 := by rw [hT26]; simp only [ByteArray.size_append, litS_size, z24]; try rfl
  obtain ⟨T29, hT29⟩ : ∃ T : ByteArray, T = T26 ++ (litS many 2) := ⟨_, rfl⟩
  have z29 : T29.size = 58 := by rw [hT29]; simp only [ByteArray.size_append, litS_size, z26]; try rfl
  obtain ⟨T32, hT32⟩ : ∃ T : ByteArray, T = T29 ++ z6 := ⟨_, rfl⟩
  have z32 : T32.size = 64 := by rw [hT32]; simp only [ByteArray.size_append, litS_size, z29]; try rfl
  have hfin : headT n many = T32 := by unfold headT; rw [hT32, hT29, hT26, hT24, hT22, hT20, hT18, hT16, hT13, hT11, hT9, hT7]
  rw [hfin]
  clear hfin
  have hm : Tryd.prog.follows .mixedOrders = true := by kernel_rfl
  go_enter Tryd.func70, Tryd.ntmps70
  go_wp2_with fail
  refine wp_region_kr [SlK w.heap.size 8, fun _ v => v = .string z8, fun _ v => v = .string T7, fun _ v => v = .string (litS 2 2), fun _ v => v = .string T9, fun _ v => v = .string (litS 62 2), fun _ v => v = .string T11, fun _ v => v = .string (litS 1 4), fun _ v => v = .string T13, fun _ v => v = .int .i64 n, fun _ v => v = .string (litS n 8), fun _ v => v = .string T16, fun _ v => v = .string (litS 64 8), fun _ v => v = .string T18, fun _ v => v = .string (litS 0 8), fun _ v => v = .string T20, fun _ v => v = .string (litS 0 4), fun _ v => v = .string T22, fun _ v => v = .string (litS 64 2), fun _ v => v = .string T24, fun _ v => v = .string (litS 56 2), fun _ v => v = .string T26, fun _ v => v = .int .i64 many, fun _ v => v = .string (litS many 2), fun _ v => v = .string T29, SlK w.heap.size 6, fun _ v => v = .string z6, fun _ v => v = .string T32, fun _ v => v = .string T32] hm (by rfl) (by kernel_rfl) (by kernel_rfl) (by kernel_rfl) (by kernel_rfl) ?_ ?_ ?_
  · intro j V hV w1 w2 v he h
    have hm := List.mem_of_getElem? hV
    simp only [List.mem_cons, List.not_mem_nil, or_false] at hm
    rcases hm with rfl | rfl | rfl | rfl | rfl | rfl | rfl | rfl | rfl | rfl | rfl | rfl | rfl | rfl | rfl | rfl | rfl | rfl | rfl | rfl | rfl | rfl | rfl | rfl | rfl | rfl | rfl | rfl | rfl
    all_goals first | exact h | exact SlK.mono he h
  · intro i hi o V ho hV a w1 he hs hd
    have hi' : i = 0 ∨ i = 1 ∨ i = 2 ∨ i = 3 ∨ i = 4 ∨ i = 5 ∨ i = 6 ∨ i = 7 ∨ i = 8 ∨ i = 9 ∨ i = 10 ∨ i = 11 ∨ i = 12 ∨ i = 13 ∨ i = 14 ∨ i = 15 ∨ i = 16 ∨ i = 17 ∨ i = 18 ∨ i = 19 ∨ i = 20 ∨ i = 21 ∨ i = 22 ∨ i = 23 ∨ i = 24 ∨ i = 25 ∨ i = 26 ∨ i = 27 ∨ i = 28 := by simp at hi; omega
    clear hi
    rcases hi' with rfl | rfl | rfl | rfl | rfl | rfl | rfl | rfl | rfl | rfl | rfl | rfl | rfl | rfl | rfl | rfl | rfl | rfl | rfl | rfl | rfl | rfl | rfl | rfl | rfl | rfl | rfl | rfl | rfl
    · obtain rfl := Option.some.inj ho
      obtain rfl := Option.some.inj hV
      exact makeK a w1 _ _ 8 rfl he.size (by decide)
    · obtain rfl := Option.some.inj ho
      obtain rfl := Option.some.inj hV
      rw [convK a w1 _ (.tmp 5) w.heap.size 8 z8 rfl (hd ⟨0, .data⟩ (by simp) rfl _ _ _ rfl rfl rfl) rfl]
      exact ⟨extSelf _, rfl⟩
    · obtain rfl := Option.some.inj ho
      obtain rfl := Option.some.inj hV
      rw [addK a w1 _ (.const (.string ⟨#[127, 69, 76, 70, 2, 1, 1, 0]⟩)) (.tmp 6) ⟨#[127, 69, 76, 70, 2, 1, 1, 0]⟩ z8 T7 rfl (rfl) (hd ⟨1, .data⟩ (by simp) rfl _ _ _ rfl rfl rfl) (by decide) hT7]
      exact ⟨extSelf _, rfl⟩
    · obtain rfl := Option.some.inj ho
      obtain rfl := Option.some.inj hV
      exact litK a w1 _ 2 2 rfl (by decide)
    · obtain rfl := Option.some.inj ho
      obtain rfl := Option.some.inj hV
      rw [addK a w1 _ (.tmp 7) (.tmp 8) T7 (litS 2 2) T9 rfl (hd ⟨2, .data⟩ (by simp) rfl _ _ _ rfl rfl rfl) (hd ⟨3, .data⟩ (by simp) rfl _ _ _ rfl rfl rfl) (by rw [z7, litS_size]; decide) hT9]
      exact ⟨extSelf _, rfl⟩
    · obtain rfl := Option.some.inj ho
      obtain rfl := Option.some.inj hV
      exact litK a w1 _ 62 2 rfl (by decide)
    · obtain rfl := Option.some.inj ho
      obtain rfl := Option.some.inj hV
      rw [addK a w1 _ (.tmp 9) (.tmp 10) T9 (litS 62 2) T11 rfl (hd ⟨4, .data⟩ (by simp) rfl _ _ _ rfl rfl rfl) (hd ⟨5, .data⟩ (by simp) rfl _ _ _ rfl rfl rfl) (by rw [z9, litS_size]; decide) hT11]
      exact ⟨extSelf _, rfl⟩
    · obtain rfl := Option.some.inj ho
      obtain rfl := Option.some.inj hV
      exact litK a w1 _ 1 4 rfl (by decide)
    · obtain rfl := Option.some.inj ho
      obtain rfl := Option.some.inj hV
      rw [addK a w1 _ (.tmp 11) (.tmp 12) T11 (litS 1 4) T13 rfl (hd ⟨6, .data⟩ (by simp) rfl _ _ _ rfl rfl rfl) (hd ⟨7, .data⟩ (by simp) rfl _ _ _ rfl rfl rfl) (by rw [z11, litS_size]; decide) hT13]
      exact ⟨extSelf _, rfl⟩
    · obtain rfl := Option.some.inj ho
      obtain rfl := Option.some.inj hV
      rw [moveK a w1 _ 0 (.int .i64 n) (.inl rfl) (by show a.tmps.getD 0 undef = _; rw [Array.getD_eq_getD_getElem?, hs.2.2 0 (noDst (by kernel_rfl))]; rfl)]
      exact ⟨extSelf _, rfl⟩
    · obtain rfl := Option.some.inj ho
      obtain rfl := Option.some.inj hV
      exact litV a w1 _ 14 n 8 rfl (hd ⟨9, .data⟩ (by simp) rfl _ _ _ rfl rfl rfl) (by decide)
    · obtain rfl := Option.some.inj ho
      obtain rfl := Option.some.inj hV
      rw [addK a w1 _ (.tmp 13) (.tmp 15) T13 (litS n 8) T16 rfl (hd ⟨8, .data⟩ (by simp) rfl _ _ _ rfl rfl rfl) (hd ⟨10, .data⟩ (by simp) rfl _ _ _ rfl rfl rfl) (by rw [z13, litS_size]; decide) hT16]
      exact ⟨extSelf _, rfl⟩
    · obtain rfl := Option.some.inj ho
      obtain rfl := Option.some.inj hV
      exact litK a w1 _ 64 8 rfl (by decide)
    · obtain rfl := Option.some.inj ho
      obtain rfl := Option.some.inj hV
      rw [addK a w1 _ (.tmp 16) (.tmp 17) T16 (litS 64 8) T18 rfl (hd ⟨11, .data⟩ (by simp) rfl _ _ _ rfl rfl rfl) (hd ⟨12, .data⟩ (by simp) rfl _ _ _ rfl rfl rfl) (by rw [z16, litS_size]; decide) hT18]
      exact ⟨extSelf _, rfl⟩
    · obtain rfl := Option.some.inj ho
      obtain rfl := Option.some.inj hV
      exact litK a w1 _ 0 8 rfl (by decide)
    · obtain rfl := Option.some.inj ho
      obtain rfl := Option.some.inj hV
      rw [addK a w1 _ (.tmp 18) (.tmp 19) T18 (litS 0 8) T20 rfl (hd ⟨13, .data⟩ (by simp) rfl _ _ _ rfl rfl rfl) (hd ⟨14, .data⟩ (by simp) rfl _ _ _ rfl rfl rfl) (by rw [z18, litS_size]; decide) hT20]
      exact ⟨extSelf _, rfl⟩
    · obtain rfl := Option.some.inj ho
      obtain rfl := Option.some.inj hV
      exact litK a w1 _ 0 4 rfl (by decide)
    · obtain rfl := Option.some.inj ho
      obtain rfl := Option.some.inj hV
      rw [addK a w1 _ (.tmp 20) (.tmp 21) T20 (litS 0 4) T22 rfl (hd ⟨15, .data⟩ (by simp) rfl _ _ _ rfl rfl rfl) (hd ⟨16, .data⟩ (by simp) rfl _ _ _ rfl rfl rfl) (by rw [z20, litS_size]; decide) hT22]
      exact ⟨extSelf _, rfl⟩
    · obtain rfl := Option.some.inj ho
      obtain rfl := Option.some.inj hV
      exact litK a w1 _ 64 2 rfl (by decide)
    · obtain rfl := Option.some.inj ho
      obtain rfl := Option.some.inj hV
      rw [addK a w1 _ (.tmp 22) (.tmp 23) T22 (litS 64 2) T24 rfl (hd ⟨17, .data⟩ (by simp) rfl _ _ _ rfl rfl rfl) (hd ⟨18, .data⟩ (by simp) rfl _ _ _ rfl rfl rfl) (by rw [z22, litS_size]; decide) hT24]
      exact ⟨extSelf _, rfl⟩
    · obtain rfl := Option.some.inj ho
      obtain rfl := Option.some.inj hV
      exact litK a w1 _ 56 2 rfl (by decide)
    · obtain rfl := Option.some.inj ho
      obtain rfl := Option.some.inj hV
      rw [addK a w1 _ (.tmp 24) (.tmp 25) T24 (litS 56 2) T26 rfl (hd ⟨19, .data⟩ (by simp) rfl _ _ _ rfl rfl rfl) (hd ⟨20, .data⟩ (by simp) rfl _ _ _ rfl rfl rfl) (by rw [z24, litS_size]; decide) hT26]
      exact ⟨extSelf _, rfl⟩
    · obtain rfl := Option.some.inj ho
      obtain rfl := Option.some.inj hV
      rw [moveK a w1 _ 1 (.int .i64 many) (.inl rfl) (by show a.tmps.getD 1 undef = _; rw [Array.getD_eq_getD_getElem?, hs.2.2 1 (noDst (by kernel_rfl))]; rfl)]
      exact ⟨extSelf _, rfl⟩
    · obtain rfl := Option.some.inj ho
      obtain rfl := Option.some.inj hV
      exact litV a w1 _ 27 many 2 rfl (hd ⟨22, .data⟩ (by simp) rfl _ _ _ rfl rfl rfl) (by decide)
    · obtain rfl := Option.some.inj ho
      obtain rfl := Option.some.inj hV
      rw [addK a w1 _ (.tmp 26) (.tmp 28) T26 (litS many 2) T29 rfl (hd ⟨21, .data⟩ (by simp) rfl _ _ _ rfl rfl rfl) (hd ⟨23, .data⟩ (by simp) rfl _ _ _ rfl rfl rfl) (by rw [z26, litS_size]; decide) hT29]
      exact ⟨extSelf _, rfl⟩
    · obtain rfl := Option.some.inj ho
      obtain rfl := Option.some.inj hV
      exact makeK a w1 _ _ 6 rfl he.size (by decide)
    · obtain rfl := Option.some.inj ho
      obtain rfl := Option.some.inj hV
      rw [convK a w1 _ (.tmp 30) w.heap.size 6 z6 rfl (hd ⟨25, .data⟩ (by simp) rfl _ _ _ rfl rfl rfl) rfl]
      exact ⟨extSelf _, rfl⟩
    · obtain rfl := Option.some.inj ho
      obtain rfl := Option.some.inj hV
      rw [addK a w1 _ (.tmp 29) (.tmp 31) T29 z6 T32 rfl (hd ⟨24, .data⟩ (by simp) rfl _ _ _ rfl rfl rfl) (hd ⟨26, .data⟩ (by simp) rfl _ _ _ rfl rfl rfl) (by rw [z29]; decide) hT32]
      exact ⟨extSelf _, rfl⟩
    · obtain rfl := Option.some.inj ho
      obtain rfl := Option.some.inj hV
      rw [moveK a w1 _ 32 (.string T32) (.inr rfl) (hd ⟨27, .data⟩ (by simp) rfl _ _ _ rfl rfl rfl)]
      exact ⟨extSelf _, rfl⟩
  · intro a w1 he hs hh
    have s4 : a.tmps.getD 4 undef = .string T32 := hh 28 (by simp) _ _ _ rfl rfl rfl
    have s4' : a.tmps[4]?.getD undef = .string T32 := by rw [← Array.getD_eq_getD_getElem?]; exact s4
    have hdf : a.defers = [] := hs.1
    clear hh hs
    go_step
    refine ‹∀ (a : Act) (w : World), Code.wp _ Code.ret _ a w → _› _ _ ?_
    go_wp2
    refine bodyPost_ret (v := .string T32) (by simp [results, Tryd.results70, go_sem, s4']) hdf ?_
    exact ⟨rfl, he⟩
end Go.Proofs.YtcchcinnjahghaaDoor
