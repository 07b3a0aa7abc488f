/-
  What spec.l02Find and the program's own search for a page do: both tell which page has an address, changing nothing that was there; conditions: those in each head.
-/
import Derived.Test.YtbkgmpkednkbcaaGreatDoorLawMem
namespace Go.Proofs.YtbkgmpkednkbcaaGreatDoor
open Go.RowKit Go.Sort
def NoPage (l : List Pg) (a : Int) : Prop := ∀ (k : Nat) x, ¬ Has l a k x
/-- what l02Find answers -/
def Found (l : List Pg) (a r : Int) : Prop := (∃ k x, Has l a k x ∧ r = (k : Int)) ∨ (NoPage l a ∧ r = -1)
set_option maxHeartbeats 1000000 in
theorem findS (p : Option Addr) (cap : Nat) (l : List Pg) (a : Int) (w : World) (hm : MemOk l) (hr : Rd w p l) (ha : -9223372036854775808 ≤ a) (ha2 : a ≤ 9223372036854775807) :
    Calls Tryz.prog 62 #[.agg #[.slice p l.length cap], .int .i64 a] w fun e w' => ∃ r, e = .returned (.int .i64 r) ∧ Hid (Found l a r) ∧ Below w.heap.size w w' := by
  have HR := Lib.hid hr; have HM := Lib.hid hm
  have h32 := hm.1
  clear hr hm
  go_enter Tryz.func62, Tryz.ntmps62
  go_wp2
  go_loop [5] (fun i => ∃ k : Nat, k ≤ l.length ∧ i = .int .i64 k ∧ Hid (∀ (j : Nat) x, j < k → ¬ Has l a j x)) (fun i => l.length - (intOf i).toNat)
  case atStart => exact ⟨0, Nat.zero_le _, rfl, Lib.hid (fun j x h => by omega)⟩
  case round =>
    obtain ⟨k, hk, rfl, HI⟩ := hrel
    by_cases hlt : k < l.length
    · obtain ⟨x, hx⟩ : ∃ x, l[k]? = some x := ⟨_, List.getElem?_eq_getElem hlt⟩
      obtain ⟨b, off, rfl, h0, a0, a1, a2⟩ := HR.out k x hx
      have hok := HM.out.2.1 k x hx
      have hx1 := hok.1; have hx2 := hok.2.1
      have HX := Lib.hid hx
      clear hx a1 a2 hok
      have next (hn : ¬ Has l a k x) : Hid (∀ (j : Nat) x, j < k + 1 → ¬ Has l a j x) := Lib.hid (fun j y hj hy => by
        by_cases e : j = k
        · subst e
          have := HX.out.symm.trans hy.1
          cases this
          exact hn hy
        · exact HI.out j y (by omega) hy)
      have HN := Lib.hid next
      clear next
      by_cases h1 : x.b ≤ a
      · by_cases h2 : a - x.b < 256
        · go_wp2
          go_ret
          exact ⟨_, rfl, Lib.hid (.inl ⟨k, x, ⟨HX.out, h1, by omega⟩, rfl⟩), by go_grown⟩
        · have h3 : decide (a - x.b < 256) = false := decide_eq_false h2
          have H2 := Lib.hid h2
          clear h2
          go_wp2
          go_round
          case rel => exact ⟨k + 1, by omega, by go_num, HN.out (fun h => H2.out (by have := h.2.2; omega))⟩
          case measure => simp [intOf]; omega
      · have h3 : decide (x.b ≤ a) = false := decide_eq_false h1
        have H2 := Lib.hid h1
        clear h1
        go_wp2
        go_round
        case rel => exact ⟨k + 1, by omega, by go_num, HN.out (fun h => H2.out h.2.1)⟩
        case measure => simp [intOf]; omega
    · obtain rfl : k = l.length := by omega
      go_wp2
      go_ret
      exact ⟨_, rfl, Lib.hid (.inr ⟨fun j x hj => HI.out j x (List.getElem?_eq_some_iff.1 hj.1).1 hj, rfl⟩), by go_grown⟩
def bAt (l : List Pg) (i : Nat) : Int := ((l[i]?).map Pg.b).getD 0
theorem bAt_of {l : List Pg} {k : Nat} {x : Pg} (h : l[k]? = some x) : bAt l k = x.b := by simp [bAt, h]
theorem count_mono (p : Nat → Bool) (n : Nat) (hm : ∀ a b, a ≤ b → b < n → p a = true → p b = true) : (List.range n).countP (fun i => !p i) ≤ n ∧ ∀ i, i < n → (p i = false ↔ i < (List.range n).countP (fun i => !p i)) := by
  induction n with
  | zero => exact ⟨by simp, fun i h => by omega⟩
  | succ n ih =>
    obtain ⟨h1, h2⟩ := ih (fun a b hab hb => hm a b hab (by omega))
    rw [List.range_succ, List.countP_append]
    cases hp : p n with
    | false =>
      have hall : ∀ i, i < n → p i = false := fun i hi => by
        cases h : p i with
        | false => rfl
        | true => have := hm i n (by omega) (by omega) h; rw [hp] at this; cases this
      have hc : (List.range n).countP (fun i => !p i) = n := by
        have : (List.range n).countP (fun i => !p i) = (List.range n).length := by
          rw [List.countP_eq_length]
          intro i hi
          rw [hall i (by simpa using hi)]; rfl
        simpa using this
      rw [hc]
      refine ⟨by simp [hp], fun i hi => ?_⟩
      simp [hp]
      constructor
      · intro _; omega
      · intro _
        by_cases e : i = n
        · subst e; exact hp
        · exact hall i (by omega)
    | true =>
      refine ⟨by simp [hp]; omega, fun i hi => ?_⟩
      simp [hp]
      by_cases e : i = n
      · subst e
        rw [hp]
        constructor
        · intro h; cases h
        · intro h; omega
      · exact h2 i (by omega)
set_option maxHeartbeats 1000000 in
set_option maxRecDepth 100000 in
theorem placeFn (B0 c g kb ob i : Nat) (q : Option Addr) (l : List Pg) (key : Int) (x : Pg) (w : World) (ho : w.cell? ⟨ob, 0, none⟩ = some (.pointer (some ⟨B0, 0, none⟩))) (hk : w.cell? ⟨kb, 0, none⟩ = some (.int .i64 key)) (hB : w.cell? ⟨B0, 0, none⟩ = some (.slice q l.length c)) (ht : Tab w q g l) (hx : l[i]? = some x) :
    Calls Tryz.prog 142 #[.int .i64 i, .pointer (some ⟨ob, 0, none⟩), .pointer (some ⟨kb, 0, none⟩)] w fun e w' => e = .returned (.bool (decide (key ≤ x.b))) ∧ ∃ m, w' = w.drewN m := by
  have hm := mixed
  have hmk := mKey
  have hil : i < l.length := (List.getElem?_eq_some_iff.1 hx).1
  obtain ⟨h, rfl, q0, q1, a0, a1, a2, a3⟩ := ht i x hx
  obtain ⟨o1, ho1⟩ : ∃ o, i * 3 = o := ⟨_, rfl⟩
  rw [ho1] at a0 a1
  have C1 := Lib.hid (fun (n : Nat) => keyC x.b g o1 (w.drewN n) (by rw [World.cell?_drewN]; exact a1))
  clear ht hx q0 q1 a1 a2 a3 ho1
  go_enter Tryz.func142, Tryz.ntmps142
  go_wp2_with fail
  go_quiet (first | (go_at_call 169; refine Calls.quiet_of_same (C1.out _)))
  go_wp2
  go_ret
  exact ⟨rfl, nq, rfl⟩
/-- how many bases are less than the key -/
def cnt (l : List Pg) (key : Int) : Nat := (List.range l.length).countP (fun i => !decide (key ≤ bAt l i))
theorem cnt_spec {l : List Pg} (hm : MemOk l) (key : Int) : cnt l key ≤ l.length ∧ (∀ (k : Nat) x, l[k]? = some x → (x.b < key ↔ k < cnt l key)) := by
  have hmono : ∀ a b, a ≤ b → b < l.length → decide (key ≤ bAt l a) = true → decide (key ≤ bAt l b) = true := by
    intro a b hab hb h
    have ea : l[a]? = some (l[a]'(by omega)) := List.getElem?_eq_getElem (by omega)
    have eb : l[b]? = some (l[b]'hb) := List.getElem?_eq_getElem hb
    rw [bAt_of ea] at h
    rw [bAt_of eb]
    simp at h ⊢
    by_cases e : a = b
    · subst e; exact h
    · have := hm.lt (show a < b by omega) ea eb
      omega
  obtain ⟨h1, h2⟩ := count_mono (fun i => decide (key ≤ bAt l i)) l.length hmono
  refine ⟨h1, fun k x hx => ?_⟩
  have := h2 k (List.getElem?_eq_some_iff.1 hx).1
  rw [bAt_of hx] at this
  unfold cnt
  rw [← this]
  simp
set_option maxHeartbeats 1000000 in
theorem placeC (B0 c g : Nat) (q : Option Addr) (l : List Pg) (key : Int) (w : World) (hm : MemOk l) (hB : w.cell? ⟨B0, 0, none⟩ = some (.slice q l.length c)) (hB0 : B0 < w.heap.size) (ht : Tab w q g l) :
    Calls Tryz.prog 132 #[.pointer (some ⟨B0, 0, none⟩), .int .i64 key] w fun e w' => e = .returned (.int .i64 (cnt l key : Int)) ∧ Below w.heap.size w w' := by
  obtain ⟨W, hW⟩ : ∃ W, W = (w.alloc (.cells #[.pointer (some ⟨B0, 0, none⟩)] 136)).alloc (.cells #[.int .i64 key] 3) := ⟨_, rfl⟩
  have hb0 : Below w.heap.size w W := by rw [hW]; go_grown
  have co : W.cell? ⟨w.heap.size, 0, none⟩ = some (.pointer (some ⟨B0, 0, none⟩)) := by rw [hW]; simp
  have ck : W.cell? ⟨w.heap.size + 1, 0, none⟩ = some (.int .i64 key) := by rw [hW]; simp
  have l1 : w.heap.size < W.heap.size := by rw [hW]; simp; omega
  have l2 : w.heap.size + 1 < W.heap.size := by rw [hW]; simp
  have hs := Any.sort_Search Tryz.laySearch 142 #[.pointer (some ⟨w.heap.size, 0, none⟩), .pointer (some ⟨w.heap.size + 1, 0, none⟩)] l.length (fun i => decide (key ≤ bAt l i)) W (enters_of Tryz.func142 (by kernel_rfl) rfl) (by have := hm.1; omega) (by
      intro m os i hi
      have hx : l[i]? = some (l[i]'hi) := List.getElem?_eq_getElem hi
      have hbG := below_grow (w := W) m os
      have hBW := hb0.cell (p := ⟨B0, 0, none⟩) hB0
      have := placeFn B0 c g (w.heap.size + 1) w.heap.size i q l key _ (grow (W.drewN m) os) ((hbG.cell (p := ⟨w.heap.size, 0, none⟩) l1).trans co) ((hbG.cell (p := ⟨w.heap.size + 1, 0, none⟩) l2).trans ck) ((hbG.cell (p := ⟨B0, 0, none⟩) (by have := hb0.size; simp; omega)).trans (hBW.trans hB)) ((ht.below hb0).below hbG) hx
      refine this.mono ?_
      rintro e w' ⟨rfl, n, rfl⟩
      refine ⟨ret_b (by rw [bAt_of hx]), n, #[], ?_⟩
      rw [grow_empty]) (by
      intro a b hab hb h
      have ea : l[a]? = some (l[a]'(by omega)) := List.getElem?_eq_getElem (by omega)
      have eb : l[b]? = some (l[b]'hb) := List.getElem?_eq_getElem hb
      rw [bAt_of ea] at h
      rw [bAt_of eb]
      simp at h ⊢
      by_cases e : a = b
      · subst e; exact h
      · have := hm.lt (show a < b by omega) ea eb
        omega)
  change Calls Tryz.prog 141 _ _ _ at hs
  have hlen := hm.1
  have C := Lib.hid hs
  have HW := Lib.hid hW; have HB := Lib.hid hb0
  clear hs hW hb0 ht hm co ck l1 l2
  go_enter Tryz.func132, Tryz.ntmps132
  go_wp2_with fail
  rw [← HW.out]
  refine (C.out).mono ?_
  rintro e w1 ⟨rfl, n, os, rfl⟩
  have hb1 := bthen HB.out (below_grow (w := W) n os)
  go_wp2
  go_ret
  exact ⟨rfl, hb1⟩
/-- what find answers -/
def FindOut (l : List Pg) (g : Nat) (key : Int) (e : Ending) : Prop := (∃ k x, l[k]? = some x ∧ x.b = key ∧ e = .returned (.tuple #[.pointer (some ⟨g, k * 3, none⟩), .bool true])) ∨ ((∀ (k : Nat) x, l[k]? = some x → x.b ≠ key) ∧ e = .returned (.tuple #[.pointer none, .bool false]))
set_option maxHeartbeats 1000000 in
theorem findC (B0 c g : Nat) (q : Option Addr) (l : List Pg) (key : Int) (w : World) (hm : MemOk l) (hB : w.cell? ⟨B0, 0, none⟩ = some (.slice q l.length c)) (hB0 : B0 < w.heap.size) (ht : Tab w q g l) :
    Calls Tryz.prog 125 #[.pointer (some ⟨B0, 0, none⟩), .int .i64 key] w fun e w' => FindOut l g key e ∧ Below w.heap.size w w' := by
  have hmk := mKey
  have C := Lib.hid (placeC B0 c g q l key w hm hB hB0 ht)
  obtain ⟨k, hk⟩ : ∃ k, k = cnt l key := ⟨_, rfl⟩
  rw [← hk] at C
  obtain ⟨c1, c2⟩ := cnt_spec hm key
  rw [← hk] at c1 c2
  have HC2 := Lib.hid c2; have HT := Lib.hid ht; have HM := Lib.hid hm
  have hlen := hm.1
  clear c2 hk ht hm
  by_cases hlt : k < l.length
  · obtain ⟨x, hx⟩ : ∃ x, l[k]? = some x := ⟨_, List.getElem?_eq_getElem hlt⟩
    have hne : ((k : Int) == (l.length : Int)) = false := beq_eq_false_iff_ne.mpr (by omega)
    by_cases hkey : x.b = key
    · have hd : (x.b != key) = false := by rw [bne_eq_false_iff_eq]; exact hkey
      have HX := Lib.hid hx; have HK := Lib.hid hkey
      clear hx hkey
      go_enter Tryz.func125, Tryz.ntmps125
      go_wp2_with fail
      refine (C.out).mono ?_
      rintro e w1 ⟨rfl, b1⟩
      have y1 := (b1.cell (p := ⟨B0, 0, none⟩) hB0).trans hB
      obtain ⟨h, rfl, q0, q1, a0, a1, a2, a3⟩ := (HT.out.below b1) k x HX.out
      have C1 := Lib.hid (keyC x.b g (k * 3) w1 a1)
      clear q0 q1 a1 a2 a3 hB C
      go_wp2_with (first | (go_at_call 169; refine (C1.out).mono ?_; rintro e wz ⟨rfl, rfl⟩))
      go_ret2
      exact ⟨.inl ⟨k, x, HX.out, HK.out, rfl⟩, b1⟩
    · have hd : (x.b != key) = true := by rw [bne_iff_ne]; exact hkey
      have HX := Lib.hid hx; have HK := Lib.hid hkey
      clear hx hkey
      go_enter Tryz.func125, Tryz.ntmps125
      go_wp2_with fail
      refine (C.out).mono ?_
      rintro e w1 ⟨rfl, b1⟩
      have y1 := (b1.cell (p := ⟨B0, 0, none⟩) hB0).trans hB
      obtain ⟨h, rfl, q0, q1, a0, a1, a2, a3⟩ := (HT.out.below b1) k x HX.out
      have C1 := Lib.hid (keyC x.b g (k * 3) w1 a1)
      clear q0 q1 a1 a2 a3 hB C
      go_wp2_with (first | (go_at_call 169; refine (C1.out).mono ?_; rintro e wz ⟨rfl, rfl⟩))
      go_ret2
      refine ⟨.inr ⟨fun j y hj e => ?_, rfl⟩, b1⟩
      have i1 := HC2.out j y hj
      have i2 := HC2.out k x HX.out
      have hjk : ¬ j < k := fun hh => by have := i1.2 hh; omega
      have hkk : ¬ x.b < key := fun hh => by have := i2.1 hh; omega
      by_cases ejk : k = j
      · subst ejk
        rw [HX.out] at hj; cases hj
        exact HK.out e
      · have := HM.out.lt (show k < j by omega) HX.out hj
        omega
  · obtain rfl : k = l.length := by omega
    go_enter Tryz.func125, Tryz.ntmps125
    go_wp2_with fail
    refine (C.out).mono ?_
    rintro e w1 ⟨rfl, b1⟩
    have y1 := (b1.cell (p := ⟨B0, 0, none⟩) hB0).trans hB
    clear hB C
    go_wp2
    go_ret2
    refine ⟨.inr ⟨fun j y hj e => ?_, rfl⟩, b1⟩
    have := (HC2.out j y hj).2 (List.getElem?_eq_some_iff.1 hj).1
    omega
end Go.Proofs.YtbkgmpkednkbcaaGreatDoor
