/-
  What laws.markMemory and laws.heldMemory do: the first writes marks into a memory's own pages, the second tells whether they stand there, changing nothing else that was there; conditions: those in each head.
-/
import Derived.Test.YtbkgmpkednkbcaaGreatDoorLawMem
import Derived.Test.YtbkgmpkednkbcaaGreatDoorWalkTakeP
namespace Go.Proofs.YtbkgmpkednkbcaaGreatDoor
open Go.RowKit Go.Sort
/-- digits of k ahead of out -/
def digs (k : Nat) (out : ByteArray) : ByteArray := if k = 0 then out else digs (k / 10) ((⟨#[UInt8.ofNat (48 + k % 10)]⟩ : ByteArray) ++ out)
termination_by k
decreasing_by omega
/-- the text of a mark -/
def mt (k : Int) : ByteArray := if k ≤ 0 then ⟨#[109, 48]⟩ else (⟨#[109]⟩ : ByteArray) ++ digs k.toNat ⟨#[]⟩
theorem grow_alloc (w : World) (q : Nat) (os : Array Obj) (o : Obj) : (grow (w.drewN q) os).alloc o = grow (w.drewN q) (os.push o) := by
  rw [alloc_eq_grow, grow_grow]; rfl
theorem p10 {j : Nat} (h : j ≤ 10) : 10 ^ j ≤ 10000000000 := by
  have := Nat.pow_le_pow_right (n := 10) (by decide) h
  simpa using this
set_option maxHeartbeats 1000000 in
set_option maxRecDepth 100000 in
theorem markTextC (k : Nat) (w : World) (hk : 0 < k) (hk2 : k < 10000000000) :
    Calls Tryz.prog 79 #[.int .i64 (k : Int)] w fun e w' => e = .returned (.string (mt (k : Int))) ∧ ∃ q os, w' = grow (w.drewN q) os := by
  have hk3 : decide (k = 0) = false := decide_eq_false (by omega)
  have HK2 := Lib.hid hk2
  clear hk2
  go_enter Tryz.func79, Tryz.ntmps79
  go_wp2
  go_loopw [0, 3] (fun s t wr => ∃ (n j : Nat) (out : ByteArray) (os : Array Obj), s = .int .i64 (n : Int) ∧ t = .string out ∧ Hid (n < 10 ^ j) ∧ out.size ≤ 10 ∧ Hid (out.size + j ≤ 10) ∧ Hid (digs n out = digs k ⟨#[]⟩) ∧ Hid (wr = grow (w.drewN 0) os)) (fun s _ _ => (intOf s).toNat)
  case atStart => exact ⟨k, 10, ⟨#[]⟩, #[], rfl, rfl, Lib.hid (by have := HK2.out; omega), by decide, Lib.hid (by decide), Lib.hid rfl, Lib.hid (by rw [grow_empty]; rfl)⟩
  case round =>
    obtain ⟨n, j, out, os, rfl, rfl, HN, ho, HJ, HD, HW⟩ := hrel
    by_cases h0 : 0 < n
    · have h0' : (0 : Int) < (n : Int) := by omega
      obtain ⟨b, hb⟩ : ∃ b : UInt8, b = UInt8.ofNat (48 + n % 10) := ⟨_, rfl⟩
      have hbn : b.toNat = 48 + n % 10 := by rw [hb, UInt8.toNat_ofNat']; omega
      have ev : (48 : Int) + (n : Int) % 10 = (b.toNat : Int) := by omega
      have hb0 : (b.toNat : Int) ≤ 255 := by omega
      have hconv := str_own (w := wr.alloc (.cells #[.int .u8 (b.toNat : Int)] 5)) (l := [b]) (B := wr.heap.size) (World.ownsRow_lit wr #[.int .u8 (b.toNat : Int)] 1 (Nat.le_refl _) (by decide) rfl)
      obtain ⟨m, hm⟩ : ∃ m : Nat, m = n / 10 := ⟨_, rfl⟩
      have hq : wrap64 ((n : Int) / 10) = (m : Int) := by
        have h1 := HN.out
        have h2 := p10 (show j ≤ 10 by have := HJ.out; omega)
        unfold wrap64; omega
      obtain ⟨j', hj'⟩ : ∃ j', j = j' + 1 := ⟨j - 1, by have := HN.out; cases j with | zero => simp at this; omega | succ j => omega⟩
      have HD' : Hid (digs m ((⟨#[b]⟩ : ByteArray) ++ out) = digs k ⟨#[]⟩) := Lib.hid (by rw [← HD.out]; conv => rhs; rw [digs]; rw [if_neg (by omega), ← hb, ← hm])
      have HN' : Hid (m < 10 ^ j') := Lib.hid (by have := HN.out; rw [hj', Nat.pow_succ] at this; omega)
      have hsz : ((⟨#[b]⟩ : ByteArray) ++ out).size = out.size + 1 := by rw [ByteArray.size_append]; exact Nat.add_comm 1 _
      have HSZ := Lib.hid hsz; have HM := Lib.hid hm; have HJ' := Lib.hid hj'
      clear hb hbn hm hj' hsz
      go_wp2
      go_roundw
      case rel => exact ⟨m, j', _, os.push _, by rw [hq], rfl, HN', by have := HSZ.out; have := HJ.out; have := HJ'.out; omega, Lib.hid (by have := HSZ.out; have := HJ.out; have := HJ'.out; omega), HD', Lib.hid (by rw [HW.out, grow_alloc])⟩
      case measure => rw [hq]; have e3 (z : Int) : intOf (.int .i64 z) = z := rfl; rw [e3, e3]; have := HM.out; omega
    · obtain rfl : n = 0 := by omega
      go_wp2
      go_ret
      refine ⟨ret_strB ?_, 0, os, HW.out⟩
      have h := HD.out
      rw [digs, if_pos rfl] at h
      unfold mt
      rw [if_neg (by omega), Int.toNat_natCast, h]
/-- the pages behind laws.markPageS, from mark k on -/
def mkd (l : List Pg) (k : Nat) : List Pg := (List.range l.length).map fun i => ⟨(k + 3 * i : Nat), (k + 3 * i + 1 : Nat), mt ((k + 3 * i + 2 : Nat) : Int)⟩
theorem mkd_len (l : List Pg) (k : Nat) : (mkd l k).length = l.length := by simp [mkd]
theorem mkd_at {l : List Pg} {k i : Nat} (h : i < l.length) : (mkd l k)[i]? = some ⟨(k + 3 * i : Nat), (k + 3 * i + 1 : Nat), mt ((k + 3 * i + 2 : Nat) : Int)⟩ := by simp [mkd, h]
/-- the first i pages are marked, the others as they were -/
def mix (l : List Pg) (k i : Nat) : List Pg := (mkd l k).take i ++ l.drop i
theorem mix_zero (l : List Pg) (k : Nat) : mix l k 0 = l := by simp [mix]
theorem mix_all (l : List Pg) (k : Nat) : mix l k l.length = mkd l k := by rw [mix, ← mkd_len l k, List.take_length, List.drop_eq_nil_of_le (by rw [mkd_len]; exact Nat.le_refl _), List.append_nil]
theorem mix_len {l : List Pg} {k i : Nat} (h : i ≤ l.length) : (mix l k i).length = l.length := by simp [mix, mkd_len]; omega
theorem mix_set {l : List Pg} {k i : Nat} (h : i < l.length) : (mix l k i).set i ⟨(k + 3 * i : Nat), (k + 3 * i + 1 : Nat), mt ((k + 3 * i + 2 : Nat) : Int)⟩ = mix l k (i + 1) := by
  apply List.ext_getElem?
  intro j
  rw [List.getElem?_set]
  have hm := mkd_len l k
  by_cases e : i = j
  · subst e
    rw [if_pos rfl, if_pos (by rw [mix_len (by omega)]; exact h), mix, List.getElem?_append_left (by simp [hm]; omega), List.getElem?_take, if_pos (by omega), mkd_at h]
  · rw [if_neg e]
    by_cases hj : j < i
    · rw [mix, mix, List.getElem?_append_left (by simp [hm]; omega), List.getElem?_append_left (by simp [hm]; omega), List.getElem?_take, List.getElem?_take, if_pos hj, if_pos (by omega)]
    · rw [mix, mix, List.getElem?_append_right (by simp [hm]; omega), List.getElem?_append_right (by simp [hm]; omega), List.getElem?_drop, List.getElem?_drop]
      congr 1
      simp [hm]
      omega
theorem own_set1 {w : World} {B e g n cap k : Nat} {l : List Pg} (h : w.ownsRow B e 3 (.slice (some ⟨g, 0, none⟩) n cap) n (PV l)) (i : Nat) (v : Value) : (w.setCell ⟨g, k * 3 + i, none⟩ v).ownsRow B e 3 (.slice (some ⟨g, 0, none⟩) n cap) n ((PV l).set (k * 3 + i) v) := (h.stored _ v).1
theorem grown_set {w w' : World} {g : Nat} (h : w.grownBy w' (some g)) (o : Nat) (v : Value) : w.grownBy (w'.setCell ⟨g, o, none⟩ v) (some g) :=
  ⟨h.os, h.tape, h.output, by simp only [World.size_setCell]; exact h.size, fun k hk hne => (Below.heap_setCell _ _ _ _ (fun e => hne (by simp [e]))).trans (h.block k hk hne)⟩
theorem grown_below {w w' w2 : World} {g : Nat} (h : w.grownBy w' (some g)) (hb : Below w'.heap.size w' w2) : w.grownBy w2 (some g) :=
  ⟨hb.os.trans h.os, hb.tape.trans h.tape, hb.output.trans h.output, by have := hb.size; have := h.size; omega, fun k hk hne => (hb.block k (by have := h.size; omega)).trans (h.block k hk hne)⟩
set_option maxHeartbeats 1000000 in
theorem markPageSC (g cap B : Nat) (l : List Pg) (k : Nat) (w : World) (hn : l.length ≤ 1048576) (hk : 1 ≤ k) (hk2 : k ≤ 100) (ho : w.ownsRow B 86 3 (.slice (some ⟨g, 0, none⟩) l.length cap) l.length (PV l)) :
    Calls Tryz.prog 44 #[.slice (some ⟨g, 0, none⟩) l.length cap, .int .i64 (k : Int)] w fun e w' => e = .returned (.int .i64 ((k + 3 * l.length : Nat) : Int)) ∧ w'.ownsRow B 86 3 (.slice (some ⟨g, 0, none⟩) l.length cap) l.length (PV (mkd l k)) ∧ w.grownBy w' (some g) := by
  have HO := Lib.hid ho
  clear ho
  go_enter Tryz.func44, Tryz.ntmps44
  go_wp2
  go_loopw [1, 5] (fun s t wr => ∃ i : Nat, i ≤ l.length ∧ s = .int .i64 ((k + 3 * i : Nat) : Int) ∧ t = .int .i64 (i : Int) ∧ Hid (wr.ownsRow B 86 3 (.slice (some ⟨g, 0, none⟩) l.length cap) l.length (PV (mix l k i))) ∧ Hid (w.grownBy wr (some g))) (fun _ t _ => l.length - (intOf t).toNat)
  case atStart => exact ⟨0, Nat.zero_le _, rfl, rfl, Lib.hid (by rw [mix_zero]; exact HO.out), Lib.hid (World.grownBy.refl _ _)⟩
  case round =>
    obtain ⟨i, hi, rfl, rfl, HR, HG⟩ := hrel
    by_cases hlt : i < l.length
    · obtain ⟨u0, d0⟩ := own_cell HR.out (i * 3) (by omega); obtain ⟨u1, d1⟩ := own_cell HR.out (i * 3 + 1) (by omega); obtain ⟨u2, d2⟩ := own_cell HR.out (i * 3 + 2) (by omega)
      have f0 := HR.out.frozenAt (i * 3); have f1 := HR.out.frozenAt (i * 3 + 1); have f2 := HR.out.frozenAt (i * 3 + 2)
      have hlt2 : (i : Int) < (l.length : Int) := by omega
      obtain ⟨K, hK⟩ : ∃ K : Nat, K = k + 3 * i := ⟨_, rfl⟩
      rw [← hK]
      have hK2 : K ≤ 3145828 := by omega
      have hK0 : 0 < K := by omega
      have HK := Lib.hid hK
      clear hK
      have e2 : (K : Int) + 1 + 1 = ((K + 2 : Nat) : Int) := by omega
      have C := fun w => markTextC (K + 2) w (by omega) (by omega)
      rw [← e2] at C
      have HC := Lib.hid C
      obtain ⟨V, hV⟩ : ∃ V, V = (wr.setCell ⟨g, i * 3, none⟩ (.int .i64 (K : Int))).setCell ⟨g, i * 3 + 1, none⟩ (.int .i64 ((K : Int) + 1)) := ⟨_, rfl⟩
      have OV : Hid (V.ownsRow B 86 3 (.slice (some ⟨g, 0, none⟩) l.length cap) l.length (((PV (mix l k i)).set (i * 3) (.int .i64 (K : Int))).set (i * 3 + 1) (.int .i64 ((K : Int) + 1)))) := Lib.hid (by rw [hV]; exact ((HR.out.stored (i * 3) _).1.stored (i * 3 + 1) _).1)
      have GV : Hid (w.grownBy V (some g)) := Lib.hid (by rw [hV]; exact grown_set (grown_set HG.out _ _) _ _)
      have HV := Lib.hid hV; have E2 := Lib.hid e2
      clear e2 C hV
      go_wp2_with fail
      rw [← HV.out]
      refine (HC.out V).mono ?_
      rintro e w1 ⟨rfl, nq, oq, rfl⟩
      obtain ⟨Z, hZ⟩ : ∃ Z, Z = grow (V.drewN nq) oq := ⟨_, rfl⟩
      have bZ : Below V.heap.size V Z := by rw [hZ]; exact below_grow nq oq
      rw [← hZ]
      have OZ := Lib.hid (own_below OV.out bZ); have GZ := Lib.hid (grown_below GV.out bZ)
      obtain ⟨u3, d3⟩ := own_cell OZ.out (i * 3 + 2) (by omega)
      have f3 := OZ.out.frozenAt (i * 3 + 2)
      clear bZ hZ d0 d1 d2 f0 f1 f2
      go_wp2
      go_roundw
      case rel =>
        refine ⟨i + 1, by omega, ?_, by go_num, Lib.hid ?_, Lib.hid (grown_set GZ.out _ _)⟩
        · have := HK.out
          have e : (K : Int) + 1 + 1 + 1 = ((k + 3 * (i + 1) : Nat) : Int) := by omega
          rw [e]
        · rw [← mix_set hlt, ← PV_set, ← HK.out, ← E2.out]
          exact (OZ.out.stored (i * 3 + 2) _).1
      case measure => simp [intOf]; omega
    · obtain rfl : i = l.length := by omega
      go_wp2
      go_ret
      exact ⟨rfl, by rw [← mix_all]; exact HR.out, HG.out⟩
set_option maxHeartbeats 1000000 in
set_option maxRecDepth 100000 in
theorem heldPageSC (p : Option Addr) (cap : Nat) (l : List Pg) (k : Nat) (w : World) (hn : l.length ≤ 1048576) (hk : 1 ≤ k) (hk2 : k ≤ 100) (hr : Rd w p (mkd l k)) :
    Calls Tryz.prog 45 #[.slice p l.length cap, .int .i64 (k : Int)] w fun e w' => e = .returned (.int .i64 ((k + 3 * l.length : Nat) : Int)) ∧ Below w.heap.size w w' := by
  have hm := mixed
  have HR := Lib.hid hr
  clear hr
  go_enter Tryz.func45, Tryz.ntmps45
  go_wp2
  go_loopw [1, 5] (fun s t wr => ∃ i : Nat, i ≤ l.length ∧ s = .int .i64 ((k + 3 * i : Nat) : Int) ∧ t = .int .i64 (i : Int) ∧ Hid (Below w.heap.size w wr)) (fun _ t _ => l.length - (intOf t).toNat)
  case atStart => exact ⟨0, Nat.zero_le _, rfl, rfl, Lib.hid (Below.refl _ _)⟩
  case round =>
    obtain ⟨i, hi, rfl, rfl, HL⟩ := hrel
    by_cases hlt : i < l.length
    · obtain ⟨b, off, rfl, q0, a0, a1, a2⟩ := (HR.out.below HL.out) i _ (mkd_at hlt)
      have hlt2 : (i : Int) < (l.length : Int) := by omega
      obtain ⟨K, hK⟩ : ∃ K : Nat, K = k + 3 * i := ⟨_, rfl⟩
      rw [← hK] at a0 a1 a2 ⊢
      have hK2 : K ≤ 3145828 := by omega
      have hK0 : 0 < K := by omega
      have e1 : ((K + 1 : Nat) : Int) = (K : Int) + 1 := by omega
      have e2 : ((K + 2 : Nat) : Int) = (K : Int) + 1 + 1 := by omega
      obtain ⟨M, hM⟩ : ∃ M, M = mt ((K + 2 : Nat) : Int) := ⟨_, rfl⟩
      simp only [] at a0 a1 a2
      rw [e1] at a1
      rw [← hM] at a2
      have g2 := cell_grown q0 a2
      have C := fun w => markTextC (K + 2) w (by omega) (by omega)
      rw [← hM, e2] at C
      have HC := Lib.hid C
      have HK := Lib.hid hK
      clear hK e1 e2 hM C
      go_wp2_with fail
      go_quiet_grown (first | (go_at_call 79; refine Calls.grown_of (HC.out _)))
      have L1 := Lib.hid (bthen HL.out (below_grow (w := wr) nq osq))
      clear a0 a1 a2 g2 q0
      go_wp2
      go_roundw
      case rel =>
        refine ⟨i + 1, by omega, ?_, by go_num, L1⟩
        have := HK.out
        have e : (K : Int) + 1 + 1 + 1 = ((k + 3 * (i + 1) : Nat) : Int) := by omega
        rw [e]
      case measure => simp [intOf]; omega
    · obtain rfl : i = l.length := by omega
      go_wp2
      go_ret
      exact ⟨rfl, HL.out⟩
set_option maxHeartbeats 400000 in
theorem markMemoryC (g cap B : Nat) (l : List Pg) (w : World) (hn : l.length ≤ 1048576) (ho : w.ownsRow B 86 3 (.slice (some ⟨g, 0, none⟩) l.length cap) l.length (PV l)) :
    Calls Tryz.prog 24 #[.agg #[.slice (some ⟨g, 0, none⟩) l.length cap], .int .i64 1] w fun e w' => e = .returned (.int .i64 ((1 + 3 * l.length : Nat) : Int)) ∧ w'.ownsRow B 86 3 (.slice (some ⟨g, 0, none⟩) l.length cap) l.length (PV (mkd l 1)) ∧ w.grownBy w' (some g) := by
  obtain ⟨W, hW⟩ : ∃ W, W = w.alloc (.cells #[.slice (some ⟨g, 0, none⟩) l.length cap] 34) := ⟨_, rfl⟩
  have C := Lib.hid (markPageSC g cap B l 1 W hn (by omega) (by omega) (by rw [hW]; exact ho.alloc _))
  have GW : Hid (w.grownBy W (some g)) := Lib.hid (by rw [hW]; exact grown_below (World.grownBy.refl _ _) (below1 _ _))
  have HW := Lib.hid hW
  clear ho hW
  go_enter Tryz.func24, Tryz.ntmps24
  go_wp2_with fail
  rw [← HW.out]
  refine (C.out).mono ?_
  rintro e w1 ⟨rfl, ho, hg⟩
  have HO := Lib.hid ho; have HG := Lib.hid hg
  clear ho hg
  go_wp2
  go_ret
  refine ⟨rfl, HO.out, ?_⟩
  exact ⟨HG.out.os.trans GW.out.os, HG.out.tape.trans GW.out.tape, HG.out.output.trans GW.out.output, by have := HG.out.size; have := GW.out.size; omega, fun k hk hne => (HG.out.block k (by have := GW.out.size; omega) hne).trans (GW.out.block k hk hne)⟩
theorem ret_k {K n : Nat} (h : K = n) : Ending.returned (.int .i64 (K : Int)) = .returned (.int .i64 (n : Int)) := by rw [h]
set_option maxHeartbeats 400000 in
theorem heldMemoryC (p : Option Addr) (cap : Nat) (l : List Pg) (w : World) (hn : l.length ≤ 1048576) (hr : Rd w p (mkd l 1)) :
    Calls Tryz.prog 25 #[.agg #[.slice p l.length cap], .int .i64 1] w fun e w' => e = .returned (.int .i64 ((1 + 3 * l.length : Nat) : Int)) ∧ Below w.heap.size w w' := by
  have hb0 := below1 w (.cells #[.slice p l.length cap] 34)
  have C := Lib.hid (heldPageSC p cap l 1 _ hn (by omega) (by omega) (hr.below hb0))
  have HB := Lib.hid hb0
  clear hr hb0
  go_enter Tryz.func25, Tryz.ntmps25
  go_wp2_with fail
  refine (C.out).mono ?_
  rintro e w1 ⟨rfl, b1⟩
  have L1 := Lib.hid (bthen HB.out b1)
  clear b1
  obtain ⟨K, hK⟩ : ∃ K : Nat, K = 1 + 3 * l.length := ⟨_, rfl⟩
  rw [← hK]
  have d : decide ((K : Int) < 0) = false := decide_eq_false (by omega)
  have HK := Lib.hid hK
  clear hK
  go_wp2
  go_ret
  exact ⟨ret_k HK.out, L1.out⟩
end Go.Proofs.YtbkgmpkednkbcaaGreatDoor
