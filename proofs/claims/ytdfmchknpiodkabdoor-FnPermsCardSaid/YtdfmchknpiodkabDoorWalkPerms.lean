/-
  The memory's functions of package impl on one page and on two pages side by side, as laws.FnPerms calls them: what each returns; conditions: those in each head.
-/
import Derived.Test.YtdfmchknpiodkabDoorMathPerms
import Derived.Test.YtdfmchknpiodkabDoorWalkAddI2
namespace Go.Proofs.YtdfmchknpiodkabDoor
open Go.RowKit Go.Sort
theorem owns_form {W : World} {B : Nat} {p : Option Addr} {cap : Nat} {l : List Pg} (h : Owns W B p cap l) (hl : 0 < l.length) : ∃ g, p = some ⟨g, 0, none⟩ := by
  obtain ⟨g, c, e⟩ := Joins.ownsRow_form h hl
  cases e
  exact ⟨g, rfl⟩
/-- a call that answers a memory of its own and a code -/
def MemAns (n : Nat) (l : List Pg) (c : Int) (w : World) (e : Ending) (w' : World) : Prop :=
  ∃ g cap, e = .returned (.tuple #[.agg #[.slice (some ⟨g, 0, none⟩) n cap], .int .i64 c]) ∧ Hid (Rd w' (some ⟨g, 0, none⟩) l) ∧ w.heap.size ≤ g ∧ Below w.heap.size w w'
theorem pAdd1 (B : Int) (w : World) (hB : Bs B) : Calls Tryd.prog 16 #[.agg #[.slice none 0 0], .int .i64 B, .int .i64 0] w (MemAns 1 (one1 B 0) 0 w) := by
  refine Calls.mono (addI none 0 [] B 0 w (.inl rfl) ⟨by simp, fun k x h => by simp at h⟩ (fun k x h => by simp at h)) ?_
  rintro e w' ⟨l', p', cap', c, rfl, ho, hw, hb⟩
  obtain ⟨rfl, rfl⟩ := add1 hB ho.out
  obtain ⟨g, rfl⟩ := owns_form hw.out (by simp [one1])
  exact ⟨g, cap', rfl, Lib.hid (owns_rd hw.out), (hw.out.lt g rfl).1, hb⟩
theorem pSet1 (B p : Int) (g cap : Nat) (w : World) (hB : Bs B) (hp : Pm p) (hr : Rd w (some ⟨g, 0, none⟩) (one1 B 0)) : Calls Tryd.prog 17 #[.agg #[.slice (some ⟨g, 0, none⟩) 1 cap], .int .i64 B, .int .i64 p] w (MemAns 1 (one1 B p) 0 w) := by
  refine Calls.mono (setI (some ⟨g, 0, none⟩) cap (one1 B 0) B p w (Ad.own g) (one1_small _ _) hr) ?_
  rintro e w' ⟨l', p', cap', c, rfl, ho, hw, hb⟩
  obtain ⟨rfl, rfl⟩ := set1 hB hp ho.out
  obtain ⟨g, rfl⟩ := owns_form hw.out (by simp [one1])
  exact ⟨g, cap', rfl, Lib.hid (owns_rd hw.out), (hw.out.lt g rfl).1, hb⟩
theorem pAdd2 (B p : Int) (g cap : Nat) (w : World) (hB : Bs B) (hp : Pm p) (hr : Rd w (some ⟨g, 0, none⟩) (one1 B p)) : Calls Tryd.prog 16 #[.agg #[.slice (some ⟨g, 0, none⟩) 1 cap], .int .i64 (B + 256), .int .i64 7] w (MemAns 2 (two2 B p) 0 w) := by
  refine Calls.mono (addI (some ⟨g, 0, none⟩) cap (one1 B p) (B + 256) 7 w (Ad.own g) (one1_small _ _) hr) ?_
  rintro e w' ⟨l', p', cap', c, rfl, ho, hw, hb⟩
  obtain ⟨rfl, rfl⟩ := add2 hB hp ho.out
  obtain ⟨g, rfl⟩ := owns_form hw.out (by simp [two2])
  exact ⟨g, cap', rfl, Lib.hid (owns_rd hw.out), (hw.out.lt g rfl).1, hb⟩
theorem pAdd3 (B p : Int) (g cap : Nat) (w : World) (hB : Bs B) (hp : Pm p) (hr : Rd w (some ⟨g, 0, none⟩) (two2 B p)) : Calls Tryd.prog 16 #[.agg #[.slice (some ⟨g, 0, none⟩) 2 cap], .int .i64 B, .int .i64 p] w (MemAns 2 (two2 B p) 13 w) := by
  refine Calls.mono (addI (some ⟨g, 0, none⟩) cap (two2 B p) B p w (Ad.own g) (two2_small _ _) hr) ?_
  rintro e w' ⟨l', p', cap', c, rfl, ho, hw, hb⟩
  obtain ⟨rfl, rfl⟩ := add3 hB hp ho.out
  obtain ⟨g, rfl⟩ := owns_form hw.out (by simp [two2])
  exact ⟨g, cap', rfl, Lib.hid (owns_rd hw.out), (hw.out.lt g rfl).1, hb⟩
theorem pOk (B p : Int) (g cap : Nat) (w : World) (hB : Bs B) (hp : Pm p) (hr : Rd w (some ⟨g, 0, none⟩) (two2 B p)) : Calls Tryd.prog 18 #[.agg #[.slice (some ⟨g, 0, none⟩) 2 cap]] w fun e w' => e = .returned (.bool true) ∧ Below w.heap.size w w' := by
  refine Calls.mono (memOkC (some ⟨g, 0, none⟩) cap (two2 B p) w (Ad.own g) (two2_small _ _) hr) ?_
  rintro e w' ⟨rfl, hb⟩
  exact ⟨by rw [okB_yes (two2_ok hB hp)], hb⟩
theorem pLoad (B p a : Int) (g cap : Nat) (w : World) (aE aR : Addr) (hsn : Sent w aE aR) (hB : Bs B) (hp : Pm p) (h1 : B ≤ a) (h2 : a ≤ B + 255) (hr : Rd w (some ⟨g, 0, none⟩) (two2 B p)) : Calls Tryd.prog 12 #[.agg #[.slice (some ⟨g, 0, none⟩) 2 cap], .int .i64 a, .int .i64 8] w fun e w' => ∃ r c, e = .returned (.tuple #[.int .i64 r, .int .i64 c]) ∧ ((allowB p 1 = true ∧ c = 0) ∨ (allowB p 1 = false ∧ c = 14)) ∧ Below w.heap.size w w' := by
  have ⟨b1, b2, _⟩ := hB
  refine Calls.mono (loadI (some ⟨g, 0, none⟩) cap (two2 B p) a 8 w aE aR hsn (Ad.own g) (two2_small _ _) hr (by omega) (by omega)) ?_
  rintro e w' ⟨r, c, rfl, ho, hb⟩
  exact ⟨r, c, rfl, load2 hB hp h1 h2 ho.out, hb⟩
theorem pEnd (B p : Int) (g cap : Nat) (w : World) (aE aR : Addr) (hsn : Sent w aE aR) (hB : Bs B) (hp : Pm p) (hr : Rd w (some ⟨g, 0, none⟩) (two2 B p)) : Calls Tryd.prog 12 #[.agg #[.slice (some ⟨g, 0, none⟩) 2 cap], .int .i64 (B + 511), .int .i64 2] w fun e w' => ∃ r, e = .returned (.tuple #[.int .i64 r, .int .i64 13]) ∧ Below w.heap.size w w' := by
  have ⟨b1, b2, _⟩ := hB
  refine Calls.mono (loadI (some ⟨g, 0, none⟩) cap (two2 B p) (B + 511) 2 w aE aR hsn (Ad.own g) (two2_small _ _) hr (by omega) (by omega)) ?_
  rintro e w' ⟨r, c, rfl, ho, hb⟩
  obtain rfl := end2 hB hp ho.out
  exact ⟨r, rfl, hb⟩
theorem pStore (B p a : Int) (g cap : Nat) (w : World) (aE aR : Addr) (hsn : Sent w aE aR) (hB : Bs B) (hp : Pm p) (h1 : B ≤ a) (h2 : a ≤ B + 255) (hr : Rd w (some ⟨g, 0, none⟩) (two2 B p)) : Calls Tryd.prog 9 #[.agg #[.slice (some ⟨g, 0, none⟩) 2 cap], .int .i64 a, .int .i64 8, .int .i64 5] w fun e w' => ∃ x g' cap' c, e = .returned (.tuple #[.agg #[.slice (some ⟨g', 0, none⟩) 2 cap'], .int .i64 c]) ∧ Hid (Rd w' (some ⟨g', 0, none⟩) x) ∧ Hid (Small x ∧ x.length = 2) ∧ ((allowB p 2 = true ∧ c = 0 ∧ Hid (same2 x (two2 B p) = false)) ∨ (allowB p 2 = false ∧ c = 14 ∧ Hid (same2 x (two2 B p) = true))) ∧ Below w.heap.size w w' := by
  have ⟨b1, b2, _⟩ := hB
  refine Calls.mono (storeI (some ⟨g, 0, none⟩) cap (two2 B p) a 8 5 5 w aE aR hsn (by decide) (Ad.own g) (two2_small _ _) hr (by omega) (by omega)) ?_
  rintro e w' ⟨x, p', cap', c, rfl, ho, hw, hb⟩
  have hsm := StoreOut.small ho.out (two2_small B p)
  rcases store2 hB hp h1 h2 ho.out with ⟨e, rfl, hl, hne, hok⟩ | ⟨e, rfl, rfl⟩
  · obtain ⟨g', rfl⟩ := owns_form hw.out (by omega)
    exact ⟨x, g', cap', 0, by rw [hl], Lib.hid (owns_rd hw.out), Lib.hid ⟨hsm, hl⟩, .inl ⟨e, rfl, Lib.hid (by rw [same2_yes hok, sameB_no hne])⟩, hb⟩
  · obtain ⟨g', rfl⟩ := owns_form hw.out (by simp [two2])
    exact ⟨_, g', cap', 14, rfl, Lib.hid (owns_rd hw.out), Lib.hid ⟨hsm, rfl⟩, .inr ⟨e, rfl, Lib.hid (by rw [same2_yes (two2_ok hB hp), sameB_yes rfl])⟩, hb⟩
theorem pFetch (B p a : Int) (g cap : Nat) (w : World) (hB : Bs B) (hp : Pm p) (h1 : B ≤ a) (h2 : a ≤ B + 255) (hr : Rd w (some ⟨g, 0, none⟩) (two2 B p)) : Calls Tryd.prog 19 #[.agg #[.slice (some ⟨g, 0, none⟩) 2 cap], .int .i64 a] w fun e w' => ∃ r c, e = .returned (.tuple #[.string r, .int .i64 c]) ∧ ((allowB p 4 = true ∧ c = 0 ∧ r.size = 15) ∨ (allowB p 4 = false ∧ c = 14)) ∧ Below w.heap.size w w' := by
  have ⟨b1, b2, _⟩ := hB
  refine Calls.mono (fetchI (some ⟨g, 0, none⟩) cap (two2 B p) a w (Ad.own g) (two2_small _ _) hr (by omega) (by omega)) ?_
  rintro e w' ⟨r, c, rfl, ho, hb⟩
  exact ⟨r, c, rfl, fetch2 hB hp h1 h2 ho.out, hb⟩
theorem pPerm (B p a : Int) (g cap : Nat) (w : World) (hB : Bs B) (hp : Pm p) (h1 : B ≤ a) (h2 : a ≤ B + 255) (hr : Rd w (some ⟨g, 0, none⟩) (two2 B p)) : Calls Tryd.prog 20 #[.agg #[.slice (some ⟨g, 0, none⟩) 2 cap], .int .i64 a] w fun e w' => e = .returned (.tuple #[.int .i64 p, .int .i64 0]) ∧ Below w.heap.size w w' := by
  have ⟨b1, b2, _⟩ := hB
  refine Calls.mono (permI (some ⟨g, 0, none⟩) cap (two2 B p) a w (Ad.own g) (two2_small _ _) hr (by omega) (by omega)) ?_
  rintro e w' ⟨r, c, rfl, ho, hb⟩
  obtain ⟨rfl, rfl⟩ := perm2 hB hp h1 h2 ho.out
  exact ⟨rfl, hb⟩
theorem pSame (B p : Int) (x : List Pg) (g g' cap cap' : Nat) (w : World) (hx : Small x ∧ x.length = 2) (hr' : Rd w (some ⟨g', 0, none⟩) x) (hr : Rd w (some ⟨g, 0, none⟩) (two2 B p)) : Calls Tryd.prog 11 #[.agg #[.slice (some ⟨g', 0, none⟩) 2 cap'], .agg #[.slice (some ⟨g, 0, none⟩) 2 cap]] w fun e w' => e = .returned (.bool (same2 x (two2 B p))) ∧ Below w.heap.size w w' :=
by
  have h := sameI g' 0 cap' g 0 cap x (two2 B p) w hx.1 (by simp [two2]) hr' hr
  rw [hx.2] at h
  exact h
/-- block mb is a variable's box that holds the memory l -/
def St (w W : World) (mb n g cap : Nat) (l : List Pg) : Prop :=
  Below w.heap.size w W ∧ w.heap.size ≤ mb ∧ W.heap[mb]? = some (.cells #[.slice (some ⟨g, 0, none⟩) n cap] 25 (0, 0)) ∧ Rd W (some ⟨g, 0, none⟩) l
theorem St.rd {w W : World} {mb n g cap : Nat} {l : List Pg} (h : St w W mb n g cap l) : Rd W (some ⟨g, 0, none⟩) l := h.2.2.2
theorem St.cell {w W : World} {mb n g cap : Nat} {l : List Pg} (h : St w W mb n g cap l) : W.cell? ⟨mb, 0, none⟩ = some (.slice (some ⟨g, 0, none⟩) n cap) := cell_of_row _ _ 0 _ _ (0, 0) h.2.2.1
theorem St.free {w W : World} {mb n g cap : Nat} {l : List Pg} (h : St w W mb n g cap l) : W.frozen? ⟨mb, 0, none⟩ = false := by simp [World.frozen?, h.2.2.1]
theorem St.lt {w W : World} {mb n g cap : Nat} {l : List Pg} (h : St w W mb n g cap l) : mb < W.heap.size := (Array.getElem?_eq_some_iff.1 h.2.2.1).1
theorem St.next {w W W' : World} {mb n g cap : Nat} {l : List Pg} (h : St w W mb n g cap l) (b : Below W.heap.size W W') : St w W' mb n g cap l :=
  ⟨bthen h.1 b, h.2.1, (b.block _ h.lt).trans h.2.2.1, h.2.2.2.below b⟩
theorem St.box {w w1 : World} {n g cap : Nat} {l : List Pg} (h : Below w.heap.size w w1) (hr : Rd w1 (some ⟨g, 0, none⟩) l) : St w (w1.alloc (.cells #[.slice (some ⟨g, 0, none⟩) n cap] 25)) w1.heap.size n g cap l :=
  ⟨bbox h _, h.size, heap_alloc_new w1 _, hr.below (below1 _ _)⟩
theorem St.store {w W W' : World} {mb n g cap n' g' cap' : Nat} {l l' : List Pg} (h : St w W mb n g cap l) (b : Below W.heap.size W W') (hr : Rd W' (some ⟨g', 0, none⟩) l') (hg : W.heap.size ≤ g') : St w (W'.setCell ⟨mb, 0, none⟩ (.slice (some ⟨g', 0, none⟩) n' cap')) mb n' g' cap' l' := by
  have hn := h.next b
  have hl := h.lt
  refine ⟨hn.1.setCell (by simpa using h.2.1) _, h.2.1, by simp [World.setCell, Array.getElem?_modify, hn.2.2.1], fun k x hx => ?_⟩
  obtain ⟨b0, off, e, h1, h2, h3, h4⟩ := hr k x hx
  cases e
  refine ⟨_, _, rfl, by simp only [World.size_setCell]; exact h1, ?_, ?_, ?_⟩
  · rw [cellOther (fun e => by have := (Addr.mk.inj e).1; omega)]; exact h2
  · rw [cellOther (fun e => by have := (Addr.mk.inj e).1; omega)]; exact h3
  · rw [cellOther (fun e => by have := (Addr.mk.inj e).1; omega)]; exact h4
end Go.Proofs.YtdfmchknpiodkabDoor
