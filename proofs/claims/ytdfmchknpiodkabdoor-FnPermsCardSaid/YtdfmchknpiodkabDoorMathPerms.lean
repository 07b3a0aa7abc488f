/-
  Two pages side by side, the first with any Perm: what the memory's functions answer of them; no condition but those in each head.
-/
import Derived.Test.YtdfmchknpiodkabDoorMathIns
import Derived.Test.YtdfmchknpiodkabDoorWalkStore
import Derived.Test.YtdfmchknpiodkabDoorWalkLoad
import Derived.Test.YtdfmchknpiodkabDoorWalkFetchI
import Derived.Test.YtdfmchknpiodkabDoorWalkPerm
import Derived.Test.YtdfmchknpiodkabDoorWalkSame
import Derived.Test.YtdfmchknpiodkabDoorMathLaid
namespace Go.Proofs.YtdfmchknpiodkabDoor
open Go.RowKit Go.Sort
def one1 (B p : Int) : List Pg := [⟨B, p, zeros256⟩]
def two2 (B p : Int) : List Pg := [⟨B, p, zeros256⟩, ⟨B + 256, 7, zeros256⟩]
/-- the first page's base -/
def Bs (B : Int) : Prop := 0 ≤ B ∧ B ≤ 50944 ∧ B % 256 = 0
def Pm (p : Int) : Prop := 0 ≤ p ∧ p ≤ 7
theorem one1_at {B p : Int} {k : Nat} {x : Pg} (h : (one1 B p)[k]? = some x) : k = 0 ∧ x = ⟨B, p, zeros256⟩ := by
  match k, h with
  | 0, h => simp [one1] at h; exact ⟨rfl, h.symm⟩
  | k + 1, h => simp [one1] at h
theorem two2_at {B p : Int} {k : Nat} {x : Pg} (h : (two2 B p)[k]? = some x) : (k = 0 ∧ x = ⟨B, p, zeros256⟩) ∨ (k = 1 ∧ x = ⟨B + 256, 7, zeros256⟩) := by
  match k, h with
  | 0, h => simp [two2] at h; exact .inl ⟨rfl, h.symm⟩
  | 1, h => simp [two2] at h; exact .inr ⟨rfl, h.symm⟩
  | k + 2, h => simp [two2] at h
theorem one1_ok {B p : Int} (hB : Bs B) (hp : Pm p) : MemOk (one1 B p) := by
  obtain ⟨h1, h2, h3⟩ := hB
  obtain ⟨h4, h5⟩ := hp
  refine ⟨by simp [one1], fun k x h => ?_, fun k x y h h' => ?_⟩
  · obtain ⟨_, rfl⟩ := one1_at h
    exact ⟨h1, by show B ≤ 65535; omega, h3, h4, h5, zeros_size⟩
  · obtain ⟨e, _⟩ := one1_at h'
    omega
theorem two2_ok {B p : Int} (hB : Bs B) (hp : Pm p) : MemOk (two2 B p) := by
  obtain ⟨h1, h2, h3⟩ := hB
  obtain ⟨h4, h5⟩ := hp
  refine ⟨by simp [two2], fun k x h => ?_, fun k x y h h' => ?_⟩
  · rcases two2_at h with ⟨_, rfl⟩ | ⟨_, rfl⟩
    · exact ⟨h1, by show B ≤ 65535; omega, h3, h4, h5, zeros_size⟩
    · exact ⟨by show 0 ≤ B + 256; omega, by show B + 256 ≤ 65535; omega, by show (B + 256) % 256 = 0; omega, by show (0 : Int) ≤ 7; omega, by show (7 : Int) ≤ 7; omega, zeros_size⟩
  · rcases two2_at h with ⟨e, rfl⟩ | ⟨e, rfl⟩ <;> rcases two2_at h' with ⟨e', rfl⟩ | ⟨e', rfl⟩ <;> first | omega | (show B < B + 256; omega)
theorem nil_ok : MemOk [] := ⟨by simp, fun k x h => by simp at h, fun k x y h => by simp at h⟩
theorem add1 {B : Int} (hB : Bs B) {l : List Pg} {c : Int} (h : AddOut [] B 0 l c) : l = one1 B 0 ∧ c = 0 := by
  obtain ⟨h1, h2, h3⟩ := hB
  exact h.one (.inr (.inr (.inr (.inr ⟨nil_ok, ⟨⟨h1, by omega, h3⟩, by unfold PermOk; omega⟩, fun k x h => by simp at h, by simp, ⟨0, ⟨by simp, fun k x h => by simp at h⟩, rfl⟩, rfl⟩))))
theorem set1 {B p : Int} (hB : Bs B) (hp : Pm p) {l : List Pg} {c : Int} (h : SetOut (one1 B 0) B p l c) : l = one1 B p ∧ c = 0 := by
  obtain ⟨h1, h2, h3⟩ := hB
  exact h.one (.inr (.inr (.inr ⟨one1_ok ⟨h1, h2, h3⟩ (by unfold Pm; omega), ⟨⟨h1, by omega, h3⟩, hp⟩, ⟨0, _, rfl, rfl, rfl⟩, rfl⟩)))
theorem add2 {B p : Int} (hB : Bs B) (hp : Pm p) {l : List Pg} {c : Int} (h : AddOut (one1 B p) (B + 256) 7 l c) : l = two2 B p ∧ c = 0 := by
  obtain ⟨h1, h2, h3⟩ := hB
  refine h.one (.inr (.inr (.inr (.inr ⟨one1_ok ⟨h1, h2, h3⟩ hp, ⟨⟨by omega, by omega, by omega⟩, by unfold PermOk; omega⟩, fun k x h => ?_, by simp [one1], ⟨1, ⟨by simp [one1], fun k x h => ?_⟩, rfl⟩, rfl⟩))))
  · obtain ⟨_, rfl⟩ := one1_at h
    show B ≠ B + 256
    omega
  · obtain ⟨rfl, rfl⟩ := one1_at h
    show B < B + 256 ↔ 0 < 1
    omega
theorem add3 {B p : Int} (hB : Bs B) (hp : Pm p) {l : List Pg} {c : Int} (h : AddOut (two2 B p) B p l c) : l = two2 B p ∧ c = 13 := by
  obtain ⟨h1, h2, h3⟩ := hB
  exact h.one (.inr (.inr (.inl ⟨two2_ok ⟨h1, h2, h3⟩ hp, ⟨⟨h1, by omega, h3⟩, hp⟩, ⟨0, _, rfl, rfl⟩, rfl, rfl⟩)))
/-- an address of the two pages -/
theorem has2 {B p a : Int} (h1 : B ≤ a) (h2 : a < B + 512) : (a < B + 256 ∧ Has (two2 B p) a 0 ⟨B, p, zeros256⟩) ∨ (B + 256 ≤ a ∧ Has (two2 B p) a 1 ⟨B + 256, 7, zeros256⟩) := by
  by_cases h : a < B + 256
  · exact .inl ⟨h, rfl, h1, h⟩
  · exact .inr ⟨by omega, rfl, by show B + 256 ≤ a; omega, by show a < B + 256 + 256; omega⟩
theorem has2_lo {B p a : Int} {k : Nat} {x : Pg} (h : Has (two2 B p) a k x) (h2 : a < B + 256) : k = 0 ∧ x = ⟨B, p, zeros256⟩ := by
  rcases two2_at h.1 with ⟨rfl, rfl⟩ | ⟨rfl, rfl⟩
  · exact ⟨rfl, rfl⟩
  · have h3 : B + 256 ≤ a := h.2.1
    omega
theorem has2_hi {B p a : Int} {k : Nat} {x : Pg} (h : Has (two2 B p) a k x) (h2 : B + 256 ≤ a) : k = 1 ∧ x = ⟨B + 256, 7, zeros256⟩ := by
  rcases two2_at h.1 with ⟨rfl, rfl⟩ | ⟨rfl, rfl⟩
  · have h3 : a < B + 256 := h.2.2
    omega
  · exact ⟨rfl, rfl⟩
theorem code2 {B p a perm c : Int} (h1 : B ≤ a) (h2 : a < B + 512) (h7 : allowB 7 perm = true) (h : CodeAt (two2 B p) perm a c) : a < B + 256 ∧ allowB p perm = false ∧ c = 14 := by
  rcases h with ⟨k, x, hh, hal, rfl⟩ | ⟨hno, rfl⟩
  · rcases two2_at hh.1 with ⟨rfl, rfl⟩ | ⟨rfl, rfl⟩
    · exact ⟨hh.2.2, hal, rfl⟩
    · exact absurd hal (by rw [h7]; decide)
  · rcases has2 (p := p) h1 h2 with ⟨_, h⟩ | ⟨_, h⟩ <;> exact absurd h (hno _ _)
theorem byte2 {B p a perm : Int} {v : UInt8} (h2 : a < B + 256) (h : ByteAt (two2 B p) perm a v) : allowB p perm = true := by
  obtain ⟨k, x, hh, hal, _⟩ := h
  obtain ⟨_, rfl⟩ := has2_lo hh h2
  exact hal
theorem tk2 {B p a perm c : Int} {n : Nat} {t : List UInt8} (h1 : B ≤ a) (h2 : a ≤ B + 255) (h0 : 0 < n) (hn : n ≤ 256) (h7 : allowB 7 perm = true) (h : TkOut (two2 B p) a n perm t c) : (allowB p perm = true ∧ c = 0 ∧ t.length = n) ∨ (allowB p perm = false ∧ c = 14 ∧ t = []) := by
  obtain ⟨hb, h⟩ := h
  have first : ∀ v r, t = v :: r → allowB p perm = true := fun v r e => byte2 (a := a + (0 : Nat)) (by simp; omega) (hb 0 v (by rw [e]; rfl))
  rcases h with ⟨rfl, hl⟩ | ⟨hl, hc⟩
  · cases t with
    | nil => simp at hl; omega
    | cons v r => exact .inl ⟨first v r rfl, rfl, hl⟩
  · obtain ⟨_, e, rfl⟩ := code2 (by omega) (by omega) h7 hc
    cases t with
    | nil => exact .inr ⟨e, rfl, rfl⟩
    | cons v r => rw [first v r rfl] at e; exact absurd e (by decide)
theorem ft2 {B p a perm c : Int} {n : Nat} (h1 : B ≤ a) (h2 : a ≤ B + 255) (h0 : 0 < n) (hn : n ≤ 256) (h7 : allowB 7 perm = true) (h : FtOut (two2 B p) a n perm c) : (allowB p perm = true ∧ c = 0) ∨ (allowB p perm = false ∧ c = 14) := by
  rcases h with ⟨rfl, hb⟩ | ⟨i, hi, _, hc⟩
  · obtain ⟨v, hv⟩ := hb 0 h0
    exact .inl ⟨byte2 (by simp; omega) hv, rfl⟩
  · obtain ⟨_, e, rfl⟩ := code2 (by omega) (by omega) h7 hc
    exact .inr ⟨e, rfl⟩
theorem load2 {B p a r c : Int} (hB : Bs B) (hp : Pm p) (h1 : B ≤ a) (h2 : a ≤ B + 255) (h : LoadOut (two2 B p) a 8 r c) : (allowB p 1 = true ∧ c = 0) ∨ (allowB p 1 = false ∧ c = 14) := by
  have hm := two2_ok hB hp
  rcases h with ⟨g, _⟩ | ⟨_, g, _⟩ | ⟨_, _, t, c', ht, h⟩
  · exact absurd hm g
  · exact absurd (by unfold okSize; omega) g
  · rcases tk2 h1 h2 (by decide) (by decide) (by decide) ht with ⟨e, rfl, _⟩ | ⟨e, rfl, _⟩ <;> rcases h with ⟨e1, _, rfl⟩ | ⟨e1, _, rfl⟩ <;> first | exact .inl ⟨e, rfl⟩ | exact .inr ⟨e, rfl⟩ | exact absurd rfl e1 | (exact absurd e1 (by decide))
theorem fetch2 {B p a c : Int} {r : ByteArray} (hB : Bs B) (hp : Pm p) (h1 : B ≤ a) (h2 : a ≤ B + 255) (h : FetchOut (two2 B p) a r c) : (allowB p 4 = true ∧ c = 0 ∧ r.size = 15) ∨ (allowB p 4 = false ∧ c = 14) := by
  have hm := two2_ok hB hp
  rcases h with ⟨g, _⟩ | ⟨_, t, c', ht, h⟩
  · exact absurd hm g
  · rcases tk2 h1 h2 (by decide) (by decide) (by decide) ht with ⟨e, rfl, hl⟩ | ⟨e, rfl, rfl⟩
    · rcases h with ⟨e1, _, _⟩ | ⟨_, rfl, rfl⟩
      · rw [e1] at hl; simp at hl
      · exact .inl ⟨e, rfl, by show t.toArray.size = 15; simpa using hl⟩
    · rcases h with ⟨_, _, rfl⟩ | ⟨e1, _⟩
      · exact .inr ⟨e, rfl⟩
      · exact absurd rfl e1
theorem perm2 {B p a r c : Int} (hB : Bs B) (hp : Pm p) (h1 : B ≤ a) (h2 : a ≤ B + 255) (h : PermOut (two2 B p) a r c) : r = p ∧ c = 0 := by
  have hm := two2_ok hB hp
  rcases h with ⟨g, _⟩ | ⟨_, hno, _⟩ | ⟨_, ⟨k, x, hh, rfl⟩, rfl⟩
  · exact absurd hm g
  · rcases has2 (p := p) h1 (by omega) with ⟨_, h⟩ | ⟨_, h⟩ <;> exact absurd h (hno _ _)
  · obtain ⟨_, rfl⟩ := has2_lo hh (by omega)
    exact ⟨rfl, rfl⟩
theorem end2 {B p r c : Int} (hB : Bs B) (hp : Pm p) (h : LoadOut (two2 B p) (B + 511) 2 r c) : c = 13 := by
  have hm := two2_ok hB hp
  have past : ∀ k x, ¬ Has (two2 B p) (B + 512) k x := fun k x hh => by
    rcases two2_at hh.1 with ⟨rfl, rfl⟩ | ⟨rfl, rfl⟩
    · have := hh.2.2; simp only at this; omega
    · have := hh.2.2; simp only at this; omega
  rcases h with ⟨g, _⟩ | ⟨_, g, _⟩ | ⟨_, _, t, c', ⟨hb, ht⟩, h⟩
  · exact absurd hm g
  · exact absurd (by unfold okSize; omega) g
  · have key : c' = 13 := by
      rcases ht with ⟨rfl, hl⟩ | ⟨hl, hc⟩
      · have hl2 : t.length = 2 := hl
        have h1 : t[1]? = some t[1] := List.getElem?_eq_getElem (by omega)
        obtain ⟨k, x, hh, _⟩ := hb 1 _ h1
        exact absurd (by simpa [show B + 511 + 1 = B + 512 by omega] using hh) (past k x)
      · have hl2 : t.length < 2 := hl
        by_cases h0 : t.length = 0
        · rw [h0] at hc
          obtain ⟨e, _⟩ := code2 (by simp <;> omega) (by simp <;> omega) (by decide) hc
          simp at e <;> omega
        · have h1 : t.length = 1 := by omega
          rw [h1] at hc
          rcases hc with ⟨k, x, hh, _⟩ | ⟨_, rfl⟩
          · exact absurd (by simpa [show B + 511 + 1 = B + 512 by omega] using hh) (past k x)
          · rfl
    subst key
    rcases h with ⟨e1, _⟩ | ⟨_, _, rfl⟩
    · exact absurd e1 (by decide)
    · rfl
theorem zeros_at (j : Nat) (h : j < 256) : zeros256.data.toList[j]? = some 0 := by
  show (List.replicate 256 (0 : UInt8)).toArray.toList[j]? = some 0
  rw [List.getElem?_replicate, if_pos h]
theorem store2 {B p a c : Int} {x : List Pg} (hB : Bs B) (hp : Pm p) (h1 : B ≤ a) (h2 : a ≤ B + 255) (h : StoreOut (two2 B p) a 8 5 x c) : (allowB p 2 = true ∧ c = 0 ∧ x.length = 2 ∧ x ≠ two2 B p ∧ MemOk x) ∨ (allowB p 2 = false ∧ c = 14 ∧ x = two2 B p) := by
  have hm := two2_ok hB hp
  rcases h with ⟨g, _⟩ | ⟨_, g, _⟩ | ⟨_, _, c', hf, h⟩
  · exact absurd hm g
  · exact absurd (by unfold okSize; omega) g
  · rcases ft2 h1 h2 (by decide) (by decide) (by decide) hf with ⟨e, rfl⟩ | ⟨e, rfl⟩
    · rcases h with ⟨g, _⟩ | ⟨_, hl, rfl⟩
      · exact absurd rfl g
      · have hs := hl.shape hm
        refine .inl ⟨e, rfl, hs.1.symm, fun ex => ?_, hs.ok hm⟩
        obtain ⟨k, y, hh, hv⟩ := hl.laid hm 0 5 (by decide)
        rw [ex] at hh
        obtain ⟨_, rfl⟩ := has2_lo hh (by simp; omega)
        rw [zeros_at _ (by simp only; omega)] at hv
        exact absurd hv (by decide)
    · rcases h with ⟨_, rfl, rfl⟩ | ⟨g, _⟩
      · exact .inr ⟨e, rfl, rfl⟩
      · exact absurd g (by decide)
theorem one1_small (B p : Int) : Small (one1 B p) := ⟨by simp [one1], fun k x h => by
  obtain ⟨_, rfl⟩ := one1_at h
  have := zeros_size
  simp only [this]; omega⟩
theorem two2_small (B p : Int) : Small (two2 B p) := ⟨by simp [two2], fun k x h => by
  have := zeros_size
  rcases two2_at h with ⟨_, rfl⟩ | ⟨_, rfl⟩ <;> (simp only [this]; omega)⟩
end Go.Proofs.YtdfmchknpiodkabDoor
