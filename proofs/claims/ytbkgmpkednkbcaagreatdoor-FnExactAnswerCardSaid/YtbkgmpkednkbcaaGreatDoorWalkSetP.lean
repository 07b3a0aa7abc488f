/-
  What impl.SetPerm and spec.SetPerm do: the memory with another Perm of one page, in new memory, and a code, changing nothing that was there; conditions: those in each head.
-/
import Derived.Test.YtbkgmpkednkbcaaGreatDoorWalkOwn
import Derived.Test.YtbkgmpkednkbcaaGreatDoorWalkFind
namespace Go.Proofs.YtbkgmpkednkbcaaGreatDoor
open Go.RowKit Go.Sort
/-- what both SetPerm answer -/
def SetOut (l : List Pg) (base perm : Int) (l' : List Pg) (c : Int) : Prop :=
  (¬ MemOk l ∧ l' = [] ∧ c = 1) ∨ (MemOk l ∧ ¬ (BaseOk base ∧ PermOk perm) ∧ l' = [] ∧ c = 4) ∨ (MemOk l ∧ (BaseOk base ∧ PermOk perm) ∧ (∀ (k : Nat) x, l[k]? = some x → x.b ≠ base) ∧ l' = l ∧ c = 13) ∨ (MemOk l ∧ (BaseOk base ∧ PermOk perm) ∧ (∃ k x, l[k]? = some x ∧ x.b = base ∧ l' = l.set k ⟨x.b, perm, x.d⟩) ∧ c = 0)
theorem base_one {l : List Pg} (hm : MemOk l) {k j : Nat} {x y : Pg} (hk : l[k]? = some x) (hj : l[j]? = some y) (e : x.b = y.b) : k = j ∧ x = y := by
  have hkj : k = j := by
    rcases Nat.lt_trichotomy k j with h | h | h
    · have := hm.lt h hk hj; omega
    · exact h
    · have := hm.lt h hj hk; omega
  subst hkj
  rw [hk] at hj; cases hj; exact ⟨rfl, rfl⟩
theorem SetOut.one {l : List Pg} {base perm : Int} {l1 l2 : List Pg} {c1 c2 : Int} (h : SetOut l base perm l1 c1) (h' : SetOut l base perm l2 c2) : l1 = l2 ∧ c1 = c2 := by
  rcases h with ⟨h1, rfl, rfl⟩ | ⟨h1, h2, rfl, rfl⟩ | ⟨h1, h2, h3, rfl, rfl⟩ | ⟨h1, h2, ⟨k, x, hk, hb, rfl⟩, rfl⟩ <;> rcases h' with ⟨g1, rfl, rfl⟩ | ⟨g1, g2, rfl, rfl⟩ | ⟨g1, g2, g3, rfl, rfl⟩ | ⟨g1, g2, ⟨j, y, hj, hb', rfl⟩, rfl⟩ <;> first | exact ⟨rfl, rfl⟩ | exact absurd h1 g1 | exact absurd g1 h1 | exact absurd h2 g2 | exact absurd g2 h2 | exact absurd hb' (h3 _ _ hj) | exact absurd hb (g3 _ _ hk) | (obtain ⟨rfl, rfl⟩ := base_one h1 hk hj (by omega); exact ⟨rfl, rfl⟩)
theorem SetOut.small {l : List Pg} {base perm : Int} {l' : List Pg} {c : Int} (h : SetOut l base perm l' c) (hs : Small l) : Small l' := by
  rcases h with ⟨_, rfl, _⟩ | ⟨_, _, rfl, _⟩ | ⟨_, _, _, rfl, _⟩ | ⟨_, _, ⟨k, x, hk, _, rfl⟩, _⟩
  · exact ⟨by simp, fun k x hk => by simp at hk⟩
  · exact ⟨by simp, fun k x hk => by simp at hk⟩
  · exact hs
  · refine ⟨by simpa using hs.1, fun j y hj => ?_⟩
    rw [List.getElem?_set] at hj
    split at hj
    · split at hj
      · cases hj; exact hs.2 k x hk
      · cases hj
    · exact hs.2 j y hj
theorem PV_set1 {l : List Pg} {k : Nat} {x : Pg} (h : l[k]? = some x) (p : Int) : (PV l).set (k * 3 + 1) (.int .i64 p) = PV (l.set k ⟨x.b, p, x.d⟩) := by
  rw [← PV_set]
  have h0 := PV_at h 0 (by omega)
  have h2 := PV_at h 2 (by omega)
  have hl := PV_len l
  have hk := (List.getElem?_eq_some_iff.1 h).1
  apply List.ext_getElem?
  intro j
  simp only [List.getElem?_set, List.length_set]
  by_cases e0 : k * 3 = j
  · subst e0
    rw [if_neg (by omega), if_neg (by omega), if_neg (by omega), if_pos rfl, if_pos (by omega)]
    simpa [pv] using h0
  · by_cases e1 : k * 3 + 1 = j
    · subst e1; simp
    · by_cases e2 : k * 3 + 2 = j
      · subst e2
        rw [if_neg (by omega), if_pos rfl, if_pos (by omega)]
        simpa [pv] using h2
      · rw [if_neg e1, if_neg e2, if_neg e1, if_neg e0]
/-- box and result's block at the head of a call -/
theorem head2 (w : World) (v : Value) : Cz ((w.alloc (.cells #[v] 34)).alloc (.cells #[.slice none 0 0] 34)) (w.heap.size + 1) := by
  unfold Cz
  have := heap_alloc_new (w.alloc (.cells #[v] 34)) (.cells #[.slice none 0 0] 34)
  simpa using this
theorem head2_below (w : World) (v : Value) : Below w.heap.size w ((w.alloc (.cells #[v] 34)).alloc (.cells #[.slice none 0 0] 34)) := by go_grown
theorem head2_bx {w : World} {p : Option Addr} {l : List Pg} {cap : Nat} (hr : Rd w p l) : Bx ((w.alloc (.cells #[.slice p l.length cap] 34)).alloc (.cells #[.slice none 0 0] 34)) w.heap.size p cap l := (Bx.new _ hr).next (below1 _ _)
theorem TabOwn.below {W W' : World} {B : Nat} {q : Option Addr} {c g : Nat} {l : List Pg} (h : TabOwn W B q c g l) (hb : Below W.heap.size W W') : TabOwn W' B q c g l := by
  obtain ⟨h1, h2⟩ := h
  refine ⟨own_below h1 hb, ?_⟩
  rcases h2 with h2 | ⟨cap, h2⟩
  · exact .inl h2
  · exact .inr ⟨cap, own_below h2 hb⟩
theorem TabOwn.pages {W : World} {B : Nat} {q : Option Addr} {c g k : Nat} {l : List Pg} {x : Pg} (h : TabOwn W B q c g l) (hx : l[k]? = some x) : ∃ cap, W.ownsRow B 86 3 (.slice (some ⟨g, 0, none⟩) l.length cap) l.length (PV l) := by
  rcases h.2 with rfl | h2
  · simp at hx
  · exact h2
/-- a store into a page of the table -/
theorem TabOwn.store {W : World} {B : Nat} {q : Option Addr} {c g k : Nat} {l l' : List Pg} {x : Pg} (h : TabOwn W B q c g l) (hx : l[k]? = some x) (o : Nat) (v : Value) (hl : l'.length = l.length) (hs : (PV l).set o v = PV l') : TabOwn (W.setCell ⟨g, o, none⟩ v) B q c g l' := by
  obtain ⟨cap, hp⟩ := h.pages hx
  have hne : (Value.slice q l.length c).ownBlock ≠ some g := by
    intro e
    obtain ⟨c1, f1, e1⟩ := Lib.ownsRow_kind h.1 g e
    obtain ⟨c2, f2, e2⟩ := Lib.ownsRow_kind hp g rfl
    rw [e1] at e2
    simp at e2
  refine ⟨?_, .inr ⟨cap, ?_⟩⟩
  · rw [hl]; exact ownsRow_setCell_other h.1 hne _
  · have := (hp.stored o v).1
    rw [hs] at this
    rw [hl]; exact this
end Go.Proofs.YtbkgmpkednkbcaaGreatDoor
