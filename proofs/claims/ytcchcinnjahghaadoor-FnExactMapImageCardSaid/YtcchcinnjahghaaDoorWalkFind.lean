/-
  What spec.l02Find and the program's own search for a page do: both tell which page has an address, changing nothing that was there; conditions: those in each head.
-/
import Derived.Test.YtcchcinnjahghaaDoorLawMem
namespace Go.Proofs.YtcchcinnjahghaaDoor
open Go.RowKit Go.Sort
def NoPage (l : List Pg) (a : Int) : Prop := ∀ (k : Nat) x, ¬ Has l a k x
/-- what l02Find answers -/
def Found (l : List Pg) (a r : Int) : Prop := (∃ k x, Has l a k x ∧ r = (k : Int)) ∨ (NoPage l a ∧ r = -1)
set_option maxHeartbeats 1000000 in
theorem findS (p : Option Addr) (cap : Nat) (l : List Pg) (a : Int) (w : World) (hm : MemOk l) (hr : Rd w p l) (ha : -9223372036854775808 ≤ a) (ha2 : a ≤ 9223372036854775807) :
    Calls Tryd.prog 81 #[.agg #[.slice p l.length cap], .int .i64 a] w fun e w' => ∃ r, e = .returned (.int .i64 r) ∧ Hid (Found l a r) ∧ Below w.heap.size w w' := by
  have HR := Lib.hid hr; have HM := Lib.hid hm
  have h32 := hm.1
  clear hr hm
  go_enter Tryd.func81, Tryd.ntmps81
  go_wp2
  go_loop [5] (fun i => ∃ k : Nat, k ≤ l.length ∧ i = .int .i64 k ∧ Hid (∀ (j : Nat) x, j < k → ¬ Has l a j x)) (fun i => l.length - (intOf i).toNat)
  case atStart => exact ⟨0, Nat.zero_le _, rfl, Lib.hid (fun j x h => by omega)⟩
  case round =>
    obtain ⟨k, hk, rfl, HI⟩ := hrel
    by_cases hlt : k < l.length
    · obtain ⟨x, hx⟩ : ∃ x, l[k]? = some x := ⟨_, List.getElem?_eq_getElem hlt⟩
      obtain ⟨b, off, rfl, h0, a0, a1, a2⟩ := HR.out k x hx
      have hok := HM.out.2.1 k x hx
      have hx1 := hok.1; have hx2 := hok.2.1
      have HX := Lib.hid hx
      clear hx a1 a2 hok
      have next (hn : ¬ Has l a k x) : Hid (∀ (j : Nat) x, j < k + 1 → ¬ Has l a j x) := Lib.hid (fun j y hj hy => by
        by_cases e : j = k
        · subst e
          have := HX.out.symm.trans hy.1
          cases this
          exact hn hy
        · exact HI.out j y (by omega) hy)
      have HN := Lib.hid next
      clear next
      by_cases h1 : x.b ≤ a
      · by_cases h2 : a - x.b < 256
        · go_wp2
          go_ret
          exact ⟨_, rfl, Lib.hid (.inl ⟨k, x, ⟨HX.out, h1, by omega⟩, rfl⟩), by go_grown⟩
        · have h3 : decide (a - x.b < 256) = false := decide_eq_false h2
          have H2 := Lib.hid h2
          clear h2
          go_wp2
          go_round
          case rel => exact ⟨k + 1, by omega, by go_num, HN.out (fun h => H2.out (by have := h.2.2; omega))⟩
          case measure => simp [intOf]; omega
      · have h3 : decide (x.b ≤ a) = false := decide_eq_false h1
        have H2 := Lib.hid h1
        clear h1
        go_wp2
        go_round
        case rel => exact ⟨k + 1, by omega, by go_num, HN.out (fun h => H2.out h.2.1)⟩
        case measure => simp [intOf]; omega
    · obtain rfl : k = l.length := by omega
      go_wp2
      go_ret
      exact ⟨_, rfl, Lib.hid (.inr ⟨fun j x hj => HI.out j x (List.getElem?_eq_some_iff.1 hj.1).1 hj, rfl⟩), by go_grown⟩
def bAt (l : List Pg) (i : Nat) : Int := ((l[i]?).map Pg.b).getD 0
theorem bAt_of {l : List Pg} {k : Nat} {x : Pg} (h : l[k]? = some x) : bAt l k = x.b := by simp [bAt, h]
theorem count_mono (p : Nat → Bool) (n : Nat) (hm : ∀ a b, a ≤ b → b < n → p a = true → p b = true) : (List.range n).countP (fun i => !p i) ≤ n ∧ ∀ i, i < n → (p i = false ↔ i < (List.range n).countP (fun i => !p i)) := by
  induction n with
  | zero => exact ⟨by simp, fun i h => by omega⟩
  | succ n ih =>
    obtain ⟨h1, h2⟩ := ih (fun a b hab hb => hm a b hab (by omega))
    rw [List.range_succ, List.countP_append]
    cases hp : p n with
    | false =>
      have hall : ∀ i, i < n → p i = false := fun i hi => by
        cases h : p i with
        | false => rfl
        | true => have := hm i n (by omega) (by omega) h; rw [hp] at this; cases this
      have hc : (List.range n).countP (fun i => !p i) = n := by
        have : (List.range n).countP (fun i => !p i) = (List.range n).length := by
          rw [List.countP_eq_length]
          intro i hi
          rw [hall i (by simpa using hi)]; rfl
        simpa using this
      rw [hc]
      refine ⟨by simp [hp], fun i hi => ?_⟩
      simp [hp]
      constructor
      · intro _; omega
      · intro _
        by_cases e : i = n
        · subst e; exact hp
        · exact hall i (by omega)
    | true =>
      refine ⟨by simp [hp]; omega, fun i hi => ?_⟩
      simp [hp]
      by_cases e : i = n
      · subst e
        rw [hp]
        constructor
        · intro h; cases h
        · intro h; omega
      · exact h2 i (by omega)
/-- how many bases are less than the key -/
def cnt (l : List Pg) (key : Int) : Nat := (List.range l.length).countP (fun i => !decide (key ≤ bAt l i))
theorem cnt_spec {l : List Pg} (hm : MemOk l) (key : Int) : cnt l key ≤ l.length ∧ (∀ (k : Nat) x, l[k]? = some x → (x.b < key ↔ k < cnt l key)) := by
  have hmono : ∀ a b, a ≤ b → b < l.length → decide (key ≤ bAt l a) = true → decide (key ≤ bAt l b) = true := by
    intro a b hab hb h
    have ea : l[a]? = some (l[a]'(by omega)) := List.getElem?_eq_getElem (by omega)
    have eb : l[b]? = some (l[b]'hb) := List.getElem?_eq_getElem hb
    rw [bAt_of ea] at h
    rw [bAt_of eb]
    simp at h ⊢
    by_cases e : a = b
    · subst e; exact h
    · have := hm.lt (show a < b by omega) ea eb
      omega
  obtain ⟨h1, h2⟩ := count_mono (fun i => decide (key ≤ bAt l i)) l.length hmono
  refine ⟨h1, fun k x hx => ?_⟩
  have := h2 k (List.getElem?_eq_some_iff.1 hx).1
  rw [bAt_of hx] at this
  unfold cnt
  rw [← this]
  simp
/-- what find answers -/
def FindOut (l : List Pg) (g : Nat) (key : Int) (e : Ending) : Prop := (∃ k x, l[k]? = some x ∧ x.b = key ∧ e = .returned (.tuple #[.pointer (some ⟨g, k * 3, none⟩), .bool true])) ∨ ((∀ (k : Nat) x, l[k]? = some x → x.b ≠ key) ∧ e = .returned (.tuple #[.pointer none, .bool false]))
end Go.Proofs.YtcchcinnjahghaaDoor
