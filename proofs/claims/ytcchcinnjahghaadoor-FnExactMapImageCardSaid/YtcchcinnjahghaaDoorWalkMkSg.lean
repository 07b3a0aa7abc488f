/-
  What the law's helpers over what is loaded do (eqLoaded, markLoaded, heldLoaded), where its report is empty; conditions: those in each head.
  What laws.markImage and laws.heldImage do: the first writes marks into an image's own segments, the second tells whether they stand there; conditions: those in each head.
-/
import Derived.Test.YtcchcinnjahghaaDoorLawWrite
import Derived.Test.YtcchcinnjahghaaDoorMathLf
import Derived.Test.YtcchcinnjahghaaDoorWalkImT
namespace Go.Proofs.YtcchcinnjahghaaDoor
open Go.RowKit Go.Sort
set_option linter.unusedVariables false
set_option linter.unusedSimpArgs false
theorem eqInts0 (p q : Option Addr) (c d : Nat) (w : World) :
    Calls Tryd.prog 65 #[.slice p 0 c, .slice q 0 d] w fun e w' => e = .returned (.bool true) ∧ w' = w := by
  go_enter Tryd.func65, Tryd.ntmps65
  go_wp2
  refine wp_loop_rounds 1 ?_
  rw [rounds_succ]
  go_wp2
  go_ret
  exact ⟨rfl, rfl⟩
theorem markInts0 (p : Option Addr) (c : Nat) (k : Int) (w : World) :
    Calls Tryd.prog 67 #[.slice p 0 c, .int .i64 k] w fun e w' => e = .returned (.int .i64 k) ∧ w' = w := by
  go_enter Tryd.func67, Tryd.ntmps67
  go_wp2
  refine wp_loop_rounds 1 ?_
  rw [rounds_succ]
  go_wp2
  go_ret
  exact ⟨rfl, rfl⟩
theorem heldInts0 (p : Option Addr) (c : Nat) (k : Int) (w : World) :
    Calls Tryd.prog 69 #[.slice p 0 c, .int .i64 k] w fun e w' => e = .returned (.int .i64 k) ∧ w' = w := by
  go_enter Tryd.func69, Tryd.ntmps69
  go_wp2
  refine wp_loop_rounds 1 ?_
  rw [rounds_succ]
  go_wp2
  go_ret
  exact ⟨rfl, rfl⟩
theorem eqRep0 (p0 p1 p2 q0 q1 q2 : Option Addr) (w : World) :
    Calls Tryd.prog 33 #[.agg #[.slice p0 0 0, .slice p1 0 0, .slice p2 0 0, .int .i64 0], .agg #[.slice q0 0 0, .slice q1 0 0, .slice q2 0 0, .int .i64 0]] w fun e w' => e = .returned (.bool true) ∧ Below w.heap.size w w' := by
  have C := Lib.hid (fun p q w => eqInts0 p q 0 0 w)
  go_enter Tryd.func33, Tryd.ntmps33
  go_wp2_with fail
  refine (C.out _ _ _).mono ?_
  rintro e w1 ⟨rfl, rfl⟩
  go_wp2_with fail
  refine (C.out _ _ _).mono ?_
  rintro e w1 ⟨rfl, rfl⟩
  go_wp2_with fail
  refine (C.out _ _ _).mono ?_
  rintro e w1 ⟨rfl, rfl⟩
  go_wp2
  go_ret
  exact ⟨rfl, by go_grown⟩
theorem markRep0 (p0 p1 p2 : Option Addr) (k : Int) (w : World) :
    Calls Tryd.prog 35 #[.agg #[.slice p0 0 0, .slice p1 0 0, .slice p2 0 0, .int .i64 0], .int .i64 k] w fun e w' => e = .returned (.int .i64 k) ∧ Below w.heap.size w w' := by
  have C := Lib.hid (fun p w => markInts0 p 0 k w)
  go_enter Tryd.func35, Tryd.ntmps35
  go_wp2_with fail
  refine (C.out _ _).mono ?_
  rintro e w1 ⟨rfl, rfl⟩
  go_wp2_with fail
  refine (C.out _ _).mono ?_
  rintro e w1 ⟨rfl, rfl⟩
  go_wp2_with fail
  refine (C.out _ _).mono ?_
  rintro e w1 ⟨rfl, rfl⟩
  go_wp2
  go_ret
  exact ⟨rfl, by go_grown⟩
theorem heldRep0 (p0 p1 p2 : Option Addr) (k : Int) (hk : decide (k < 0) = false) (w : World) :
    Calls Tryd.prog 37 #[.agg #[.slice p0 0 0, .slice p1 0 0, .slice p2 0 0, .int .i64 0], .int .i64 k] w fun e w' => e = .returned (.int .i64 k) ∧ Below w.heap.size w w' := by
  have C := Lib.hid (fun p w => heldInts0 p 0 k w)
  go_enter Tryd.func37, Tryd.ntmps37
  go_wp2_with fail
  refine (C.out _ _).mono ?_
  rintro e w1 ⟨rfl, rfl⟩
  go_wp2_with fail
  refine (C.out _ _).mono ?_
  rintro e w1 ⟨rfl, rfl⟩
  go_wp2_with fail
  refine (C.out _ _).mono ?_
  rintro e w1 ⟨rfl, rfl⟩
  go_wp2
  go_ret
  exact ⟨rfl, by go_grown⟩
set_option maxHeartbeats 1000000 in
theorem eqLdC (p q ra rb rc sa sb sc : Option Addr) (c d : Nat) (L : List Pg) (E H T S : Int) (w : World) (hn : L.length ≤ 9223372036854775807) (hr : Rd w p L) (hq : Rd w q L) :
    Calls Tryd.prog 14 #[.agg #[.slice p L.length c, .int .i64 E, .int .i64 H, .int .i64 T, .int .i64 S, .slice ra 0 0, .slice rb 0 0, .slice rc 0 0, .int .i64 0], .agg #[.slice q L.length d, .int .i64 E, .int .i64 H, .int .i64 T, .int .i64 S, .slice sa 0 0, .slice sb 0 0, .slice sc 0 0, .int .i64 0]] w fun e w' => e = .returned (.bool true) ∧ Below w.heap.size w w' := by
  obtain ⟨W, hW⟩ : ∃ W, W = (w.alloc (.cells #[.slice p L.length c, .int .i64 E, .int .i64 H, .int .i64 T, .int .i64 S, .slice ra 0 0, .slice rb 0 0, .slice rc 0 0, .int .i64 0] 41)).alloc (.cells #[.slice q L.length d, .int .i64 E, .int .i64 H, .int .i64 T, .int .i64 S, .slice sa 0 0, .slice sb 0 0, .slice sc 0 0, .int .i64 0] 41) := ⟨_, rfl⟩
  have LW : Hid (Below w.heap.size w W) := Lib.hid (by rw [hW]; go_grown)
  have A1 : Hid (CellsAt W w.heap.size [.slice p L.length c, .int .i64 E, .int .i64 H, .int .i64 T, .int .i64 S, .slice ra 0 0, .slice rb 0 0, .slice rc 0 0, .int .i64 0]) := Lib.hid (by
    rw [hW]; exact (CellsAt.of_block (heap_alloc_new w (.cells #[.slice p L.length c, .int .i64 E, .int .i64 H, .int .i64 T, .int .i64 S, .slice ra 0 0, .slice rb 0 0, .slice rc 0 0, .int .i64 0] 41))).next (below1 _ _))
  have A2 : Hid (CellsAt W (w.heap.size + 1) [.slice q L.length d, .int .i64 E, .int .i64 H, .int .i64 T, .int .i64 S, .slice sa 0 0, .slice sb 0 0, .slice sc 0 0, .int .i64 0]) := Lib.hid (by
    rw [hW]
    have := CellsAt.of_block (heap_alloc_new (w.alloc (.cells #[.slice p L.length c, .int .i64 E, .int .i64 H, .int .i64 T, .int .i64 S, .slice ra 0 0, .slice rb 0 0, .slice rc 0 0, .int .i64 0] 41)) (.cells #[.slice q L.length d, .int .i64 E, .int .i64 H, .int .i64 T, .int .i64 S, .slice sa 0 0, .slice sb 0 0, .slice sc 0 0, .int .i64 0] 41))
    simpa using this)
  have C := Lib.hid (eqMemoryC p q c d L W hn (hr.below LW.out) (hq.below LW.out))
  have D := Lib.hid (fun w => eqRep0 ra rb rc sa sb sc w)
  have HW := Lib.hid hW
  clear hr hq hW
  go_enter Tryd.func14, Tryd.ntmps14
  go_wp2_with fail
  rw [← HW.out]
  refine (C.out).mono ?_
  rintro e w1 ⟨rfl, b1⟩
  have L1 := Lib.hid (bthen LW.out b1)
  have a := (A1.out.next b1).2.1
  have b := (A2.out.next b1).2.1
  have a1 := a 1 _ rfl
  have a2 := a 2 _ rfl
  have a3 := a 3 _ rfl
  have a4 := a 4 _ rfl
  have a5 := a 5 _ rfl
  have a6 := a 6 _ rfl
  have a7 := a 7 _ rfl
  have a8 := a 8 _ rfl
  have b1' := b 1 _ rfl
  have b2 := b 2 _ rfl
  have b3 := b 3 _ rfl
  have b4 := b 4 _ rfl
  have b5 := b 5 _ rfl
  have b6 := b 6 _ rfl
  have b7 := b 7 _ rfl
  have b8 := b 8 _ rfl
  clear a b b1 HW C A1 A2
  go_wp2_with fail
  refine (D.out _).mono ?_
  rintro e w2 ⟨rfl, b9⟩
  have L2 := Lib.hid (bthen L1.out b9)
  clear b9 a1 a2 a3 a4 a5 a6 a7 a8 b1' b2 b3 b4 b5 b6 b7 b8
  go_wp2
  go_ret
  exact ⟨rfl, L2.out⟩
set_option maxHeartbeats 1000000 in
theorem markLdC (p ra rb rc : Option Addr) (c B : Nat) (L : List Pg) (E H T S : Int) (w : World) (hn : L.length ≤ 1048576) (ho : Owns w B p c L) :
    Calls Tryd.prog 15 #[.agg #[.slice p L.length c, .int .i64 E, .int .i64 H, .int .i64 T, .int .i64 S, .slice ra 0 0, .slice rb 0 0, .slice rc 0 0, .int .i64 0], .int .i64 1] w fun e w' => e = .returned (.int .i64 ((1 + 3 * L.length : Nat) : Int)) ∧ Owns w' B p c (mkd L 1) ∧ w.grownBy w' (Value.slice p L.length c).ownBlock := by
  obtain ⟨W, hW⟩ : ∃ W, W = w.alloc (.cells #[.slice p L.length c, .int .i64 E, .int .i64 H, .int .i64 T, .int .i64 S, .slice ra 0 0, .slice rb 0 0, .slice rc 0 0, .int .i64 0] 41) := ⟨_, rfl⟩
  have LW : Hid (Below w.heap.size w W) := Lib.hid (by rw [hW]; go_grown)
  have A1 : Hid (CellsAt W w.heap.size [.slice p L.length c, .int .i64 E, .int .i64 H, .int .i64 T, .int .i64 S, .slice ra 0 0, .slice rb 0 0, .slice rc 0 0, .int .i64 0]) := Lib.hid (by
    rw [hW]; exact CellsAt.of_block (heap_alloc_new w (.cells #[.slice p L.length c, .int .i64 E, .int .i64 H, .int .i64 T, .int .i64 S, .slice ra 0 0, .slice rb 0 0, .slice rc 0 0, .int .i64 0] 41)))
  have C := Lib.hid (markAny p c B L W hn (own_below ho LW.out))
  obtain ⟨K, hK⟩ : ∃ K : Nat, K = 1 + 3 * L.length := ⟨_, rfl⟩
  rw [← hK] at C ⊢
  have D := Lib.hid (fun w => markRep0 ra rb rc (K : Int) w)
  have HW := Lib.hid hW
  have FB : Hid (∀ j, (Value.slice p L.length c).ownBlock = some j → j < w.heap.size) := Lib.hid (fun j hj => (ho.lt j hj).2)
  clear ho hW hK
  go_enter Tryd.func15, Tryd.ntmps15
  go_wp2_with fail
  rw [← HW.out]
  refine (C.out).mono ?_
  rintro e w1 ⟨rfl, o1, g1⟩
  have a := (A1.out.far g1 (fun e => by have := FB.out _ e.symm; omega)).2.1
  have a5 := a 5 _ rfl
  have a6 := a 6 _ rfl
  have a7 := a 7 _ rfl
  have a8 := a 8 _ rfl
  have O1 := Lib.hid o1
  have G1 := Lib.hid ((below_grownBy LW.out (Value.slice p L.length c).ownBlock).trans g1)
  clear a HW C A1 o1 g1
  go_wp2_with fail
  refine (D.out _).mono ?_
  rintro e w2 ⟨rfl, b2⟩
  have O2 := Lib.hid (own_below O1.out b2)
  have G2 := Lib.hid (G1.out.trans (below_grownBy b2 _))
  clear b2 a5 a6 a7 a8
  go_wp2
  go_ret
  exact ⟨rfl, O2.out, G2.out⟩
set_option maxHeartbeats 1000000 in
theorem heldLdC (p ra rb rc : Option Addr) (c : Nat) (L : List Pg) (E H T S : Int) (w : World) (hn : L.length ≤ 1048576) (hr : Rd w p (mkd L 1)) :
    Calls Tryd.prog 16 #[.agg #[.slice p L.length c, .int .i64 E, .int .i64 H, .int .i64 T, .int .i64 S, .slice ra 0 0, .slice rb 0 0, .slice rc 0 0, .int .i64 0], .int .i64 1] w fun e w' => e = .returned (.int .i64 ((1 + 3 * L.length : Nat) : Int)) ∧ Below w.heap.size w w' := by
  obtain ⟨W, hW⟩ : ∃ W, W = w.alloc (.cells #[.slice p L.length c, .int .i64 E, .int .i64 H, .int .i64 T, .int .i64 S, .slice ra 0 0, .slice rb 0 0, .slice rc 0 0, .int .i64 0] 41) := ⟨_, rfl⟩
  have LW : Hid (Below w.heap.size w W) := Lib.hid (by rw [hW]; go_grown)
  have A1 : Hid (CellsAt W w.heap.size [.slice p L.length c, .int .i64 E, .int .i64 H, .int .i64 T, .int .i64 S, .slice ra 0 0, .slice rb 0 0, .slice rc 0 0, .int .i64 0]) := Lib.hid (by
    rw [hW]; exact CellsAt.of_block (heap_alloc_new w (.cells #[.slice p L.length c, .int .i64 E, .int .i64 H, .int .i64 T, .int .i64 S, .slice ra 0 0, .slice rb 0 0, .slice rc 0 0, .int .i64 0] 41)))
  have C := Lib.hid (heldMemoryC p c L W hn (hr.below LW.out))
  obtain ⟨K, hK⟩ : ∃ K : Nat, K = 1 + 3 * L.length := ⟨_, rfl⟩
  rw [← hK] at C ⊢
  have hd : decide ((K : Int) < 0) = false := decide_eq_false (by omega)
  have D := Lib.hid (fun w => heldRep0 ra rb rc (K : Int) hd w)
  have HW := Lib.hid hW
  clear hr hW hK
  go_enter Tryd.func16, Tryd.ntmps16
  go_wp2_with fail
  rw [← HW.out]
  refine (C.out).mono ?_
  rintro e w1 ⟨rfl, b1⟩
  have a := (A1.out.next b1).2.1
  have a5 := a 5 _ rfl
  have a6 := a 6 _ rfl
  have a7 := a 7 _ rfl
  have a8 := a 8 _ rfl
  have L1 := Lib.hid (bthen LW.out b1)
  clear a HW C A1 b1
  go_wp2_with fail
  refine (D.out _).mono ?_
  rintro e w2 ⟨rfl, b2⟩
  have L2 := Lib.hid (bthen L1.out b2)
  clear b2 a5 a6 a7 a8
  go_wp2
  go_ret
  exact ⟨rfl, L2.out⟩
end Go.Proofs.YtcchcinnjahghaaDoor
namespace Go.Proofs.YtcchcinnjahghaaDoor
open Go.RowKit Go.Sort
set_option linter.unusedVariables false
set_option linter.unusedSimpArgs false
/-- digits of k ahead of out -/
def digsT (k : Nat) (out : ByteArray) : ByteArray := if k = 0 then out else digsT (k / 10) ((⟨#[UInt8.ofNat (48 + k % 10)]⟩ : ByteArray) ++ out)
termination_by k
decreasing_by omega
/-- the text of a mark -/
def mtT (k : Int) : ByteArray := if k ≤ 0 then ⟨#[109, 48]⟩ else (⟨#[109]⟩ : ByteArray) ++ digsT k.toNat ⟨#[]⟩
theorem grow_allocT (w : World) (q : Nat) (os : Array Obj) (o : Obj) : (grow (w.drewN q) os).alloc o = grow (w.drewN q) (os.push o) := by
  rw [alloc_eq_grow, grow_grow]; rfl
theorem p10T {j : Nat} (h : j ≤ 10) : 10 ^ j ≤ 10000000000 := by
  have := Nat.pow_le_pow_right (n := 10) (by decide) h
  simpa using this
set_option maxHeartbeats 1000000 in
set_option maxRecDepth 100000 in
theorem markTextT (k : Nat) (w : World) (hk : 0 < k) (hk2 : k < 10000000000) :
    Calls Tryd.prog 46 #[.int .i64 (k : Int)] w fun e w' => e = .returned (.string (mtT (k : Int))) ∧ ∃ q os, w' = grow (w.drewN q) os := by
  have hk3 : decide (k = 0) = false := decide_eq_false (by omega)
  have HK2 := Lib.hid hk2
  clear hk2
  go_enter Tryd.func46, Tryd.ntmps46
  go_wp2
  go_loopw [0, 3] (fun s t wr => ∃ (n j : Nat) (out : ByteArray) (os : Array Obj), s = .int .i64 (n : Int) ∧ t = .string out ∧ Hid (n < 10 ^ j) ∧ out.size ≤ 10 ∧ Hid (out.size + j ≤ 10) ∧ Hid (digsT n out = digsT k ⟨#[]⟩) ∧ Hid (wr = grow (w.drewN 0) os)) (fun s _ _ => (intOf s).toNat)
  case atStart => exact ⟨k, 10, ⟨#[]⟩, #[], rfl, rfl, Lib.hid (by have := HK2.out; omega), by decide, Lib.hid (by decide), Lib.hid rfl, Lib.hid (by rw [grow_empty]; rfl)⟩
  case round =>
    obtain ⟨n, j, out, os, rfl, rfl, HN, ho, HJ, HD, HW⟩ := hrel
    by_cases h0 : 0 < n
    · have h0' : (0 : Int) < (n : Int) := by omega
      obtain ⟨b, hb⟩ : ∃ b : UInt8, b = UInt8.ofNat (48 + n % 10) := ⟨_, rfl⟩
      have hbn : b.toNat = 48 + n % 10 := by rw [hb, UInt8.toNat_ofNat']; omega
      have ev : (48 : Int) + (n : Int) % 10 = (b.toNat : Int) := by omega
      have hb0 : (b.toNat : Int) ≤ 255 := by omega
      have hconv := str_own (w := wr.alloc (.cells #[.int .u8 (b.toNat : Int)] 5)) (l := [b]) (B := wr.heap.size) (World.ownsRow_lit wr #[.int .u8 (b.toNat : Int)] 1 (Nat.le_refl _) (by decide) rfl)
      obtain ⟨m, hm⟩ : ∃ m : Nat, m = n / 10 := ⟨_, rfl⟩
      have hq : wrap64 ((n : Int) / 10) = (m : Int) := by
        have h1 := HN.out
        have h2 := p10T (show j ≤ 10 by have := HJ.out; omega)
        unfold wrap64; omega
      obtain ⟨j', hj'⟩ : ∃ j', j = j' + 1 := ⟨j - 1, by have := HN.out; cases j with | zero => simp at this; omega | succ j => omega⟩
      have HD' : Hid (digsT m ((⟨#[b]⟩ : ByteArray) ++ out) = digsT k ⟨#[]⟩) := Lib.hid (by rw [← HD.out]; conv => rhs; rw [digsT]; rw [if_neg (by omega), ← hb, ← hm])
      have HN' : Hid (m < 10 ^ j') := Lib.hid (by have := HN.out; rw [hj', Nat.pow_succ] at this; omega)
      have hsz : ((⟨#[b]⟩ : ByteArray) ++ out).size = out.size + 1 := by rw [ByteArray.size_append]; exact Nat.add_comm 1 _
      have HSZ := Lib.hid hsz; have HM := Lib.hid hm; have HJ' := Lib.hid hj'
      clear hb hbn hm hj' hsz
      go_wp2
      go_roundw
      case rel => exact ⟨m, j', _, os.push _, by rw [hq], rfl, HN', by have := HSZ.out; have := HJ.out; have := HJ'.out; omega, Lib.hid (by have := HSZ.out; have := HJ.out; have := HJ'.out; omega), HD', Lib.hid (by rw [HW.out, grow_allocT])⟩
      case measure => rw [hq]; have e3 (z : Int) : intOf (.int .i64 z) = z := rfl; rw [e3, e3]; have := HM.out; omega
    · obtain rfl : n = 0 := by omega
      go_wp2
      go_ret
      refine ⟨ret_strB ?_, 0, os, HW.out⟩
      have h := HD.out
      rw [digsT, if_pos rfl] at h
      unfold mtT
      rw [if_neg (by omega), Int.toNat_natCast, h]
/-- the segments behind laws.markSegmentS, from mark k on -/
def mkdS (l : List Sg) (k : Nat) : List Sg := (List.range l.length).map fun i => ⟨(k + 4 * i : Nat), (k + 4 * i + 1 : Nat), (k + 4 * i + 2 : Nat), mtT ((k + 4 * i + 3 : Nat) : Int)⟩
theorem mkdS_len (l : List Sg) (k : Nat) : (mkdS l k).length = l.length := by simp [mkdS]
theorem mkdS_at {l : List Sg} {k i : Nat} (h : i < l.length) : (mkdS l k)[i]? = some ⟨(k + 4 * i : Nat), (k + 4 * i + 1 : Nat), (k + 4 * i + 2 : Nat), mtT ((k + 4 * i + 3 : Nat) : Int)⟩ := by simp [mkdS, h]
/-- the first i segments are marked, the others as they were -/
def mixS (l : List Sg) (k i : Nat) : List Sg := (mkdS l k).take i ++ l.drop i
theorem mixS_zero (l : List Sg) (k : Nat) : mixS l k 0 = l := by simp [mixS]
theorem mixS_all (l : List Sg) (k : Nat) : mixS l k l.length = mkdS l k := by rw [mixS, ← mkdS_len l k, List.take_length, List.drop_eq_nil_of_le (by rw [mkdS_len]; exact Nat.le_refl _), List.append_nil]
theorem mixS_len {l : List Sg} {k i : Nat} (h : i ≤ l.length) : (mixS l k i).length = l.length := by simp [mixS, mkdS_len]; omega
theorem mixS_set {l : List Sg} {k i : Nat} (h : i < l.length) : (mixS l k i).set i ⟨(k + 4 * i : Nat), (k + 4 * i + 1 : Nat), (k + 4 * i + 2 : Nat), mtT ((k + 4 * i + 3 : Nat) : Int)⟩ = mixS l k (i + 1) := by
  apply List.ext_getElem?
  intro j
  rw [List.getElem?_set]
  have hm := mkdS_len l k
  by_cases e : i = j
  · subst e
    rw [if_pos rfl, if_pos (by rw [mixS_len (by omega)]; exact h), mixS, List.getElem?_append_left (by simp [hm]; omega), List.getElem?_take, if_pos (by omega), mkdS_at h]
  · rw [if_neg e]
    by_cases hj : j < i
    · rw [mixS, mixS, List.getElem?_append_left (by simp [hm]; omega), List.getElem?_append_left (by simp [hm]; omega), List.getElem?_take, List.getElem?_take, if_pos hj, if_pos (by omega)]
    · rw [mixS, mixS, List.getElem?_append_right (by simp [hm]; omega), List.getElem?_append_right (by simp [hm]; omega), List.getElem?_drop, List.getElem?_drop]
      congr 1
      simp [hm]
      omega
theorem grown_setT {w w' : World} {g : Nat} (h : w.grownBy w' (some g)) (o : Nat) (v : Value) : w.grownBy (w'.setCell ⟨g, o, none⟩ v) (some g) :=
  ⟨h.os, h.tape, h.output, by simp only [World.size_setCell]; exact h.size, fun k hk hne => (Below.heap_setCell _ _ _ _ (fun e => hne (by simp [e]))).trans (h.block k hk hne)⟩
theorem grown_belowT {w w' w2 : World} {g : Nat} (h : w.grownBy w' (some g)) (hb : Below w'.heap.size w' w2) : w.grownBy w2 (some g) :=
  ⟨hb.os.trans h.os, hb.tape.trans h.tape, hb.output.trans h.output, by have := hb.size; have := h.size; omega, fun k hk hne => (hb.block k (by have := h.size; omega)).trans (h.block k hk hne)⟩
set_option maxHeartbeats 1000000 in
theorem markSgSC (g cap B : Nat) (l : List Sg) (k : Nat) (w : World) (hn : l.length ≤ 1048576) (hk : 1 ≤ k) (hk2 : k ≤ 100) (ho : w.ownsRow B 61 4 (.slice (some ⟨g, 0, none⟩) l.length cap) l.length (SV l)) :
    Calls Tryd.prog 21 #[.slice (some ⟨g, 0, none⟩) l.length cap, .int .i64 (k : Int)] w fun e w' => e = .returned (.int .i64 ((k + 4 * l.length : Nat) : Int)) ∧ w'.ownsRow B 61 4 (.slice (some ⟨g, 0, none⟩) l.length cap) l.length (SV (mkdS l k)) ∧ w.grownBy w' (some g) := by
  have HO := Lib.hid ho
  clear ho
  go_enter Tryd.func21, Tryd.ntmps21
  go_wp2
  go_loopw [1, 5] (fun s t wr => ∃ i : Nat, i ≤ l.length ∧ s = .int .i64 ((k + 4 * i : Nat) : Int) ∧ t = .int .i64 (i : Int) ∧ Hid (wr.ownsRow B 61 4 (.slice (some ⟨g, 0, none⟩) l.length cap) l.length (SV (mixS l k i))) ∧ Hid (w.grownBy wr (some g))) (fun _ t _ => l.length - (intOf t).toNat)
  case atStart => exact ⟨0, Nat.zero_le _, rfl, rfl, Lib.hid (by rw [mixS_zero]; exact HO.out), Lib.hid (World.grownBy.refl _ _)⟩
  case round =>
    obtain ⟨i, hi, rfl, rfl, HR, HG⟩ := hrel
    by_cases hlt : i < l.length
    · obtain ⟨u0, d0⟩ := own_cell HR.out (i * 4) (by omega); obtain ⟨u1, d1⟩ := own_cell HR.out (i * 4 + 1) (by omega); obtain ⟨u2, d2⟩ := own_cell HR.out (i * 4 + 2) (by omega)
      have f0 := HR.out.frozenAt (i * 4); have f1 := HR.out.frozenAt (i * 4 + 1); have f2 := HR.out.frozenAt (i * 4 + 2)
      have hlt2 : (i : Int) < (l.length : Int) := by omega
      obtain ⟨K, hK⟩ : ∃ K : Nat, K = k + 4 * i := ⟨_, rfl⟩
      rw [← hK]
      have hK2 : K ≤ 4194404 := by omega
      have hK0 : 0 < K := by omega
      have HK := Lib.hid hK
      clear hK
      have e2 : (K : Int) + 1 + 1 + 1 = ((K + 3 : Nat) : Int) := by omega
      have C := fun w => markTextT (K + 3) w (by omega) (by omega)
      rw [← e2] at C
      have HC := Lib.hid C
      obtain ⟨V, hV⟩ : ∃ V, V = ((wr.setCell ⟨g, i * 4, none⟩ (.int .i64 (K : Int))).setCell ⟨g, i * 4 + 1, none⟩ (.int .i64 ((K : Int) + 1))).setCell ⟨g, i * 4 + 2, none⟩ (.int .i64 ((K : Int) + 1 + 1)) := ⟨_, rfl⟩
      have OV : Hid (V.ownsRow B 61 4 (.slice (some ⟨g, 0, none⟩) l.length cap) l.length ((((SV (mixS l k i)).set (i * 4) (.int .i64 (K : Int))).set (i * 4 + 1) (.int .i64 ((K : Int) + 1))).set (i * 4 + 2) (.int .i64 ((K : Int) + 1 + 1)))) := Lib.hid (by rw [hV]; exact (((HR.out.stored (i * 4) _).1.stored (i * 4 + 1) _).1.stored (i * 4 + 2) _).1)
      have GV : Hid (w.grownBy V (some g)) := Lib.hid (by rw [hV]; exact grown_setT (grown_setT (grown_setT HG.out _ _) _ _) _ _)
      have HV := Lib.hid hV; have E2 := Lib.hid e2
      clear e2 C hV
      go_wp2_with fail
      rw [← HV.out]
      refine (HC.out V).mono ?_
      rintro e w1 ⟨rfl, nq, oq, rfl⟩
      obtain ⟨Z, hZ⟩ : ∃ Z, Z = grow (V.drewN nq) oq := ⟨_, rfl⟩
      have bZ : Below V.heap.size V Z := by rw [hZ]; exact below_growS nq oq
      rw [← hZ]
      have OZ := Lib.hid (own_below OV.out bZ); have GZ := Lib.hid (grown_belowT GV.out bZ)
      obtain ⟨u3, d3⟩ := own_cell OZ.out (i * 4 + 3) (by omega)
      have f3 := OZ.out.frozenAt (i * 4 + 3)
      clear bZ hZ d0 d1 d2 f0 f1 f2
      go_wp2
      go_roundw
      case rel =>
        refine ⟨i + 1, by omega, ?_, by go_num, Lib.hid ?_, Lib.hid (grown_setT GZ.out _ _)⟩
        · have := HK.out
          have e : (K : Int) + 1 + 1 + 1 + 1 = ((k + 4 * (i + 1) : Nat) : Int) := by omega
          rw [e]
        · have e5 : (K : Int) + 1 + 1 = ((K + 2 : Nat) : Int) := by omega
          have e6 : (K : Int) + 1 = ((K + 1 : Nat) : Int) := by omega
          rw [← mixS_set hlt, ← SV_set, ← HK.out, ← E2.out, ← e5, ← e6]
          exact (OZ.out.stored (i * 4 + 3) _).1
      case measure => simp [intOf]; omega
    · obtain rfl : i = l.length := by omega
      go_wp2
      go_ret
      exact ⟨rfl, by rw [← mixS_all]; exact HR.out, HG.out⟩
set_option maxHeartbeats 1000000 in
set_option maxRecDepth 100000 in
theorem heldSgSC (p : Option Addr) (cap : Nat) (l : List Sg) (k : Nat) (w : World) (hn : l.length ≤ 1048576) (hk : 1 ≤ k) (hk2 : k ≤ 100) (hr : RdS w p (mkdS l k)) :
    Calls Tryd.prog 22 #[.slice p l.length cap, .int .i64 (k : Int)] w fun e w' => e = .returned (.int .i64 ((k + 4 * l.length : Nat) : Int)) ∧ Below w.heap.size w w' := by
  have hm := mixedS
  have HR := Lib.hid hr
  clear hr
  go_enter Tryd.func22, Tryd.ntmps22
  go_wp2
  go_loopw [1, 5] (fun s t wr => ∃ i : Nat, i ≤ l.length ∧ s = .int .i64 ((k + 4 * i : Nat) : Int) ∧ t = .int .i64 (i : Int) ∧ Hid (Below w.heap.size w wr)) (fun _ t _ => l.length - (intOf t).toNat)
  case atStart => exact ⟨0, Nat.zero_le _, rfl, rfl, Lib.hid (Below.refl _ _)⟩
  case round =>
    obtain ⟨i, hi, rfl, rfl, HL⟩ := hrel
    by_cases hlt : i < l.length
    · obtain ⟨b, off, rfl, q0, a0, a1, a2, a3⟩ := (HR.out.below HL.out) i _ (mkdS_at hlt)
      have hlt2 : (i : Int) < (l.length : Int) := by omega
      obtain ⟨K, hK⟩ : ∃ K : Nat, K = k + 4 * i := ⟨_, rfl⟩
      rw [← hK] at a0 a1 a2 a3 ⊢
      have hK2 : K ≤ 4194404 := by omega
      have hK0 : 0 < K := by omega
      have e1 : ((K + 1 : Nat) : Int) = (K : Int) + 1 := by omega
      have e2 : ((K + 2 : Nat) : Int) = (K : Int) + 1 + 1 := by omega
      have e3 : ((K + 3 : Nat) : Int) = (K : Int) + 1 + 1 + 1 := by omega
      obtain ⟨M, hM⟩ : ∃ M, M = mtT ((K + 3 : Nat) : Int) := ⟨_, rfl⟩
      simp only [] at a0 a1 a2 a3
      rw [e1] at a1
      rw [e2] at a2
      rw [← hM] at a3
      have g3 := cell_grown q0 a3
      have C := fun w => markTextT (K + 3) w (by omega) (by omega)
      rw [← hM, e3] at C
      have HC := Lib.hid C
      have HK := Lib.hid hK
      clear hK e1 e2 e3 hM C
      go_wp2_with fail
      go_quiet_grown (first | (go_at_call 46; refine Calls.grown_of (HC.out _)))
      have L1 := Lib.hid (bthenS HL.out (below_growS (w := wr) nq osq))
      clear a0 a1 a2 a3 g3 q0
      go_wp2
      go_roundw
      case rel =>
        refine ⟨i + 1, by omega, ?_, by go_num, L1⟩
        have := HK.out
        have e : (K : Int) + 1 + 1 + 1 + 1 = ((k + 4 * (i + 1) : Nat) : Int) := by omega
        rw [e]
      case measure => simp [intOf]; omega
    · obtain rfl : i = l.length := by omega
      go_wp2
      go_ret
      exact ⟨rfl, HL.out⟩
set_option maxHeartbeats 400000 in
theorem markImgC (n : Int) (g cap B : Nat) (l : List Sg) (w : World) (hn : l.length ≤ 1048576) (ho : w.ownsRow B 61 4 (.slice (some ⟨g, 0, none⟩) l.length cap) l.length (SV l)) :
    Calls Tryd.prog 8 #[.agg #[.int .i64 n, .slice (some ⟨g, 0, none⟩) l.length cap], .int .i64 1] w fun e w' => e = .returned (.int .i64 ((1 + 4 * l.length : Nat) : Int)) ∧ w'.ownsRow B 61 4 (.slice (some ⟨g, 0, none⟩) l.length cap) l.length (SV (mkdS l 1)) ∧ w.grownBy w' (some g) := by
  obtain ⟨W, hW⟩ : ∃ W, W = w.alloc (.cells #[.int .i64 n, .slice (some ⟨g, 0, none⟩) l.length cap] 24) := ⟨_, rfl⟩
  have C := Lib.hid (markSgSC g cap B l 1 W hn (by omega) (by omega) (by rw [hW]; exact ho.alloc _))
  have GW : Hid (w.grownBy W (some g)) := Lib.hid (by rw [hW]; exact grown_belowT (World.grownBy.refl _ _) (belowA _ _))
  have HW := Lib.hid hW
  clear ho hW
  go_enter Tryd.func8, Tryd.ntmps8
  go_wp2_with fail
  rw [← HW.out]
  refine (C.out).mono ?_
  rintro e w1 ⟨rfl, ho, hg⟩
  have HO := Lib.hid ho; have HG := Lib.hid hg
  clear ho hg
  go_wp2
  go_ret
  refine ⟨rfl, HO.out, ?_⟩
  exact ⟨HG.out.os.trans GW.out.os, HG.out.tape.trans GW.out.tape, HG.out.output.trans GW.out.output, by have := HG.out.size; have := GW.out.size; omega, fun k hk hne => (HG.out.block k (by have := GW.out.size; omega) hne).trans (GW.out.block k hk hne)⟩
theorem ret_kT {K n : Nat} (h : K = n) : Ending.returned (.int .i64 (K : Int)) = .returned (.int .i64 (n : Int)) := by rw [h]
set_option maxHeartbeats 400000 in
theorem heldImgC (n : Int) (p : Option Addr) (cap : Nat) (l : List Sg) (w : World) (hn : l.length ≤ 1048576) (hr : RdS w p (mkdS l 1)) :
    Calls Tryd.prog 9 #[.agg #[.int .i64 n, .slice p l.length cap], .int .i64 1] w fun e w' => e = .returned (.int .i64 ((1 + 4 * l.length : Nat) : Int)) ∧ Below w.heap.size w w' := by
  have hb0 := belowA w (.cells #[.int .i64 n, .slice p l.length cap] 24)
  have C := Lib.hid (heldSgSC p cap l 1 _ hn (by omega) (by omega) (hr.below hb0))
  have HB := Lib.hid hb0
  clear hr hb0
  go_enter Tryd.func9, Tryd.ntmps9
  go_wp2_with fail
  refine (C.out).mono ?_
  rintro e w1 ⟨rfl, b1⟩
  have L1 := Lib.hid (bthenS HB.out b1)
  clear b1
  obtain ⟨K, hK⟩ : ∃ K : Nat, K = 1 + 4 * l.length := ⟨_, rfl⟩
  rw [← hK]
  have d : decide ((K : Int) < 0) = false := decide_eq_false (by omega)
  have HK := Lib.hid hK
  clear hK
  go_wp2
  go_ret
  exact ⟨ret_kT HK.out, L1.out⟩
theorem markEmptyS (p : Option Addr) (cap : Nat) (w : World) : Calls Tryd.prog 21 #[.slice p 0 cap, .int .i64 1] w fun e w' => e = .returned (.int .i64 1) ∧ w' = w := by
  go_enter Tryd.func21, Tryd.ntmps21
  go_wp2
  refine wp_loop_rounds 1 ?_
  rw [rounds_succ]
  go_wp2
  go_ret
  exact ⟨rfl, rfl⟩
set_option maxHeartbeats 400000 in
theorem markEmptyI (n : Int) (p : Option Addr) (cap : Nat) (w : World) : Calls Tryd.prog 8 #[.agg #[.int .i64 n, .slice p 0 cap], .int .i64 1] w fun e w' => e = .returned (.int .i64 1) ∧ Below w.heap.size w w' := by
  have C := Lib.hid (fun w => markEmptyS p cap w)
  have hb0 := belowA w (.cells #[.int .i64 n, .slice p 0 cap] 24)
  have HB := Lib.hid hb0
  clear hb0
  go_enter Tryd.func8, Tryd.ntmps8
  go_wp2_with fail
  refine (C.out _).mono ?_
  rintro e w1 ⟨rfl, rfl⟩
  go_wp2
  go_ret
  exact ⟨rfl, HB.out⟩
theorem below_byT {w w' : World} (h : Below w.heap.size w w') (row : Option Nat) : w.grownBy w' row := ⟨h.os, h.tape, h.output, h.size, fun k hk _ => h.block k hk⟩
theorem own_far {W W' : World} {B e s n : Nat} {v : Value} {xs : List Value} {row : Option Nat} (h : W.ownsRow B e s v n xs) (hg : W.grownBy W' row) (hne : v.ownBlock = none ∨ v.ownBlock ≠ row) : W'.ownsRow B e s v n xs := by
  refine ⟨h.1, ?_⟩
  rcases h.2 with h' | ⟨g, c, cur, e1, e2, e3, e4⟩
  · exact .inl h'
  · refine .inr ⟨g, c, cur, e1, e2, (hg.block g (Array.getElem?_eq_some_iff.1 e3).1 ?_).trans e3, e4⟩
    intro e
    rcases hne with h1 | h1
    · rw [e1] at h1; cases h1
    · exact h1 (by rw [e1]; exact e)
theorem markAnyS (n : Int) (p : Option Addr) (cap B : Nat) (l : List Sg) (w : World) (hn : l.length ≤ 1048576) (ho : w.ownsRow B 61 4 (.slice p l.length cap) l.length (SV l)) :
    Calls Tryd.prog 8 #[.agg #[.int .i64 n, .slice p l.length cap], .int .i64 1] w fun e w' => e = .returned (.int .i64 ((1 + 4 * l.length : Nat) : Int)) ∧ w'.ownsRow B 61 4 (.slice p l.length cap) l.length (SV (mkdS l 1)) ∧ w.grownBy w' (Value.slice p l.length cap).ownBlock := by
  by_cases h0 : l = []
  · subst h0
    refine (markEmptyI n p cap w).mono ?_
    rintro e w' ⟨rfl, hb⟩
    exact ⟨rfl, own_below ho hb, below_byT hb _⟩
  · have hp : 0 < l.length := List.length_pos_iff.mpr h0
    obtain ⟨g, c', e⟩ := Joins.ownsRow_form ho hp
    cases e
    refine (markImgC n g cap B l w hn ho).mono ?_
    rintro e w' ⟨rfl, ho', hg⟩
    exact ⟨rfl, ho', hg⟩
end Go.Proofs.YtcchcinnjahghaaDoor
