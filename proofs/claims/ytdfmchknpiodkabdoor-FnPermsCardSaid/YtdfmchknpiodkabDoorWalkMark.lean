/-
  What laws.markMemory and laws.heldMemory do: the first writes marks into a memory's own pages, the second tells whether they stand there, changing nothing else that was there; conditions: those in each head.
-/
import Derived.Test.YtdfmchknpiodkabDoorLawMem
import Derived.Test.YtdfmchknpiodkabDoorWalkTakeP
namespace Go.Proofs.YtdfmchknpiodkabDoor
open Go.RowKit Go.Sort
/-- digits of k ahead of out -/
def digs (k : Nat) (out : ByteArray) : ByteArray := if k = 0 then out else digs (k / 10) ((⟨#[UInt8.ofNat (48 + k % 10)]⟩ : ByteArray) ++ out)
termination_by k
decreasing_by omega
/-- the text of a mark -/
def mt (k : Int) : ByteArray := if k ≤ 0 then ⟨#[109, 48]⟩ else (⟨#[109]⟩ : ByteArray) ++ digs k.toNat ⟨#[]⟩
theorem grow_alloc (w : World) (q : Nat) (os : Array Obj) (o : Obj) : (grow (w.drewN q) os).alloc o = grow (w.drewN q) (os.push o) := by
  rw [alloc_eq_grow, grow_grow]; rfl
theorem p10 {j : Nat} (h : j ≤ 10) : 10 ^ j ≤ 10000000000 := by
  have := Nat.pow_le_pow_right (n := 10) (by decide) h
  simpa using this
/-- the pages behind laws.markPageS, from mark k on -/
def mkd (l : List Pg) (k : Nat) : List Pg := (List.range l.length).map fun i => ⟨(k + 3 * i : Nat), (k + 3 * i + 1 : Nat), mt ((k + 3 * i + 2 : Nat) : Int)⟩
theorem mkd_len (l : List Pg) (k : Nat) : (mkd l k).length = l.length := by simp [mkd]
theorem mkd_at {l : List Pg} {k i : Nat} (h : i < l.length) : (mkd l k)[i]? = some ⟨(k + 3 * i : Nat), (k + 3 * i + 1 : Nat), mt ((k + 3 * i + 2 : Nat) : Int)⟩ := by simp [mkd, h]
/-- the first i pages are marked, the others as they were -/
def mix (l : List Pg) (k i : Nat) : List Pg := (mkd l k).take i ++ l.drop i
theorem mix_zero (l : List Pg) (k : Nat) : mix l k 0 = l := by simp [mix]
theorem mix_all (l : List Pg) (k : Nat) : mix l k l.length = mkd l k := by rw [mix, ← mkd_len l k, List.take_length, List.drop_eq_nil_of_le (by rw [mkd_len]; exact Nat.le_refl _), List.append_nil]
theorem mix_len {l : List Pg} {k i : Nat} (h : i ≤ l.length) : (mix l k i).length = l.length := by simp [mix, mkd_len]; omega
theorem mix_set {l : List Pg} {k i : Nat} (h : i < l.length) : (mix l k i).set i ⟨(k + 3 * i : Nat), (k + 3 * i + 1 : Nat), mt ((k + 3 * i + 2 : Nat) : Int)⟩ = mix l k (i + 1) := by
  apply List.ext_getElem?
  intro j
  rw [List.getElem?_set]
  have hm := mkd_len l k
  by_cases e : i = j
  · subst e
    rw [if_pos rfl, if_pos (by rw [mix_len (by omega)]; exact h), mix, List.getElem?_append_left (by simp [hm]; omega), List.getElem?_take, if_pos (by omega), mkd_at h]
  · rw [if_neg e]
    by_cases hj : j < i
    · rw [mix, mix, List.getElem?_append_left (by simp [hm]; omega), List.getElem?_append_left (by simp [hm]; omega), List.getElem?_take, List.getElem?_take, if_pos hj, if_pos (by omega)]
    · rw [mix, mix, List.getElem?_append_right (by simp [hm]; omega), List.getElem?_append_right (by simp [hm]; omega), List.getElem?_drop, List.getElem?_drop]
      congr 1
      simp [hm]
      omega
theorem own_set1 {w : World} {B e g n cap k : Nat} {l : List Pg} (h : w.ownsRow B e 3 (.slice (some ⟨g, 0, none⟩) n cap) n (PV l)) (i : Nat) (v : Value) : (w.setCell ⟨g, k * 3 + i, none⟩ v).ownsRow B e 3 (.slice (some ⟨g, 0, none⟩) n cap) n ((PV l).set (k * 3 + i) v) := (h.stored _ v).1
theorem grown_set {w w' : World} {g : Nat} (h : w.grownBy w' (some g)) (o : Nat) (v : Value) : w.grownBy (w'.setCell ⟨g, o, none⟩ v) (some g) :=
  ⟨h.os, h.tape, h.output, by simp only [World.size_setCell]; exact h.size, fun k hk hne => (Below.heap_setCell _ _ _ _ (fun e => hne (by simp [e]))).trans (h.block k hk hne)⟩
theorem grown_below {w w' w2 : World} {g : Nat} (h : w.grownBy w' (some g)) (hb : Below w'.heap.size w' w2) : w.grownBy w2 (some g) :=
  ⟨hb.os.trans h.os, hb.tape.trans h.tape, hb.output.trans h.output, by have := hb.size; have := h.size; omega, fun k hk hne => (hb.block k (by have := h.size; omega)).trans (h.block k hk hne)⟩
theorem ret_k {K n : Nat} (h : K = n) : Ending.returned (.int .i64 (K : Int)) = .returned (.int .i64 (n : Int)) := by rw [h]
end Go.Proofs.YtdfmchknpiodkabDoor
