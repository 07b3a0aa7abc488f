/-
  What the program's reach does: it tells which page has an address, and whether that page allows what is asked, changing nothing that was there; conditions: those in each head.
-/
import Derived.Test.YtbkgmpkednkbcaaGreatDoorWalkFind
namespace Go.Proofs.YtbkgmpkednkbcaaGreatDoor
open Go.RowKit Go.Sort
/-- whether a Perm has all of perm -/
def allowB (p perm : Int) : Bool := (bits .and .i64 p perm == perm)
set_option maxHeartbeats 400000 in
theorem allowsC (x perm : Int) (g o : Nat) (w : World) (c1 : w.cell? ⟨g, o + 1, none⟩ = some (.int .i64 x)) :
    Calls Tryz.prog 126 #[.pointer (some ⟨g, o, none⟩), .int .i64 perm] w fun e w' => e = .returned (.bool (allowB x perm)) ∧ w' = w := by
  go_enter Tryz.func126, Tryz.ntmps126
  go_wp2
  go_ret
  exact ⟨rfl, rfl⟩
theorem low8 : ∀ i : Fin 64, (255#64).getLsbD i.val = decide (i.val < 8) := by decide
theorem mask_bv (x : BitVec 64) : x &&& ~~~255#64 = (x >>> 8) <<< 8 := by
  apply BitVec.eq_of_getLsbD_eq
  intro i hi
  have h := low8 ⟨i, hi⟩
  simp only at h
  rw [BitVec.getLsbD_and, BitVec.getLsbD_not, h, BitVec.getLsbD_shiftLeft, BitVec.getLsbD_ushiftRight]
  by_cases h8 : i < 8
  · simp [h8]
  · simp [h8, hi, show 8 + (i - 8) = i from by omega]
theorem mask8 (a : Int) (h1 : -9223372036854775808 ≤ a) (h2 : a ≤ 9223372036854775807) : bits .andNot .i64 a 255 = a - a % 256 := by
  show IntKind.i64.wrap ((BitVec.ofInt 64 a &&& ~~~BitVec.ofInt 64 255).toNat : Int) = _
  rw [show BitVec.ofInt 64 255 = 255#64 from rfl, mask_bv, BitVec.toNat_shiftLeft, BitVec.toNat_ushiftRight, BitVec.toNat_ofInt]
  have e : ((2 ^ 64 : Nat) : Int) = 18446744073709551616 := by decide
  rw [e, Nat.shiftLeft_eq, Nat.shiftRight_eq_div_pow, IntKind.wrap_i64]
  have e2 : (2 ^ 8 : Nat) = 256 := by decide
  have e3 : (2 ^ 64 : Nat) = 18446744073709551616 := by decide
  rw [e2, e3]
  obtain ⟨X, hX⟩ : ∃ X : Nat, (a % 18446744073709551616).toNat = X := ⟨_, rfl⟩
  rw [hX]
  omega
theorem has_key {l : List Pg} (hm : MemOk l) {a : Int} {k : Nat} {x : Pg} (hk : l[k]? = some x) : (x.b = a - a % 256) ↔ Has l a k x := by
  have h := (hm.2.1 k x hk).2.2.1
  constructor
  · intro e; exact ⟨hk, by omega, by omega⟩
  · intro ⟨_, h1, h2⟩; omega
/-- what reach answers -/
def ReachOut (l : List Pg) (g : Nat) (a perm : Int) (e : Ending) : Prop :=
  (∃ k x, Has l a k x ∧ allowB x.p perm = true ∧ e = .returned (.tuple #[.pointer (some ⟨g, k * 3, none⟩), .int .i64 0])) ∨ (∃ k x, Has l a k x ∧ allowB x.p perm = false ∧ e = .returned (.tuple #[.pointer none, .int .i64 14])) ∨ (NoPage l a ∧ e = .returned (.tuple #[.pointer none, .int .i64 13]))
set_option maxHeartbeats 1000000 in
theorem reachC (B0 c g : Nat) (q : Option Addr) (l : List Pg) (a perm : Int) (w : World) (hm : MemOk l) (hB : w.cell? ⟨B0, 0, none⟩ = some (.slice q l.length c)) (hB0 : B0 < w.heap.size) (ht : Tab w q g l) (h1 : -9223372036854775808 ≤ a) (h2 : a ≤ 9223372036854775807) :
    Calls Tryz.prog 106 #[.pointer (some ⟨B0, 0, none⟩), .int .i64 a, .int .i64 perm] w fun e w' => ReachOut l g a perm e ∧ Below w.heap.size w w' := by
  have C := Lib.hid (findC B0 c g q l (a - a % 256) w hm hB hB0 ht)
  have hk := mask8 a h1 h2
  have HT := Lib.hid ht; have HM := Lib.hid hm
  clear ht hm h1 h2 hB
  go_enter Tryz.func106, Tryz.ntmps106
  go_wp2_with fail
  refine (C.out).mono ?_
  rintro e w1 ⟨ho, b1⟩
  rcases ho with ⟨k, x, hx, hkey, rfl⟩ | ⟨hno, rfl⟩
  · obtain ⟨h, e1, q0, q1, a0, a1, a2, a3⟩ := (HT.out.below b1) k x hx
    have hh := (has_key HM.out hx).1 hkey
    have HH := Lib.hid hh
    have C1 := Lib.hid (allowsC x.p perm g (k * 3) w1 a2)
    clear hx hkey hh e1 q0 q1 a0 a1 a2 a3 HT C
    cases hal : allowB x.p perm with
    | true =>
      rw [hal] at C1
      go_wp2_with (first | (go_at_call 126; refine (C1.out).mono ?_; rintro e wz ⟨rfl, rfl⟩))
      go_ret2
      exact ⟨.inl ⟨k, x, HH.out, hal, rfl⟩, b1⟩
    | false =>
      rw [hal] at C1
      go_wp2_with (first | (go_at_call 126; refine (C1.out).mono ?_; rintro e wz ⟨rfl, rfl⟩))
      go_ret2
      exact ⟨.inr (.inl ⟨k, x, HH.out, hal, rfl⟩), b1⟩
  · have HN := Lib.hid hno
    clear hno HT C
    go_wp2
    go_ret2
    exact ⟨.inr (.inr ⟨fun k x hh => HN.out k x hh.1 ((has_key HM.out hh.1).2 hh), rfl⟩), b1⟩
theorem allow0 (p : Int) : allowB p 0 = true := by
  unfold allowB bits
  simp
  decide
theorem TabOwn.tab {W : World} {B : Nat} {q : Option Addr} {c g : Nat} {l : List Pg} (h : TabOwn W B q c g l) : Tab W q g l := by
  intro j x hj
  have hjl : j < l.length := (List.getElem?_eq_some_iff.1 hj).1
  obtain ⟨h3, h4⟩ := h
  rcases h4 with rfl | ⟨cap, h4⟩
  · simp at hj
  · obtain ⟨h, c', e⟩ := Joins.ownsRow_form h3 (by omega)
    cases e
    obtain ⟨c0, c1, c2⟩ := own_pg h4 hj
    refine ⟨h, rfl, (h3.lt h rfl).2, (h4.lt g rfl).2, ?_, c0, c1, c2⟩
    rw [h3.cellAt _ (by omega)]
    simp [PT, hjl]
end Go.Proofs.YtbkgmpkednkbcaaGreatDoor
