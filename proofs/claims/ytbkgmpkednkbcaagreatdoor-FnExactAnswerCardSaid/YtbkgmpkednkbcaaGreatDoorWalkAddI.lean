/-
  The table of pointers behind an insert, and a text of 256 noughts; conditions: those in each head.
-/
import Derived.Test.YtbkgmpkednkbcaaGreatDoorWalkIns2
import Derived.Test.YtbkgmpkednkbcaaGreatDoorWalkReach
import Derived.Test.YtbkgmpkednkbcaaGreatDoorShelf
namespace Go.Proofs.YtbkgmpkednkbcaaGreatDoor
open Go.RowKit Go.Sort
theorem insL_at {l : List Pg} {i : Nat} {p : Pg} (h : i ≤ l.length) (j : Nat) : (insL l i p)[j]? = if j < i then l[j]? else if j = i then some p else l[j - 1]? := by
  unfold insL
  have hl : (l.take i).length = i := by rw [List.length_take]; omega
  by_cases h1 : j < i
  · rw [if_pos h1, List.getElem?_append_left (by omega), List.getElem?_take, if_pos h1]
  · rw [if_neg h1, List.getElem?_append_right (by omega), hl]
    by_cases h2 : j = i
    · subst h2; rw [if_pos rfl, Nat.sub_self]; rfl
    · rw [if_neg h2, show j - i = (j - 1 - i) + 1 by omega, List.getElem?_cons_succ, List.getElem?_drop]
      congr 1; omega
theorem PT_at (g n k : Nat) (h : k < n) : (PT g n)[k]? = some (.pointer (some ⟨g, k * 3, none⟩)) := by simp [PT, h]
theorem cell_blk {W w : World} {g : Nat} (h : W.heap[g]? = w.heap[g]?) (o : Nat) : W.cell? ⟨g, o, none⟩ = w.cell? ⟨g, o, none⟩ := by simp [World.cell?, h]
theorem ptrs_ins {w W3 : World} {B B0 c g gb g' cap' i : Nat} {q : Option Addr} {l : List Pg} {x : Pg} (hT : TabOwn w B q c g l) (hi : i ≤ l.length)
    (hb : w.heap[B0]? = some (.cells #[.slice q l.length c] 101 (0, 0))) (hg : w.heap[gb]? = some (.cells #[.int .i64 x.b, .int .i64 x.p, .string x.d] 86 (0, 0)))
    (ho : W3.ownsRow B 121 1 (.slice (some ⟨g', 0, none⟩) (l.length + 1) cap') (l.length + 1) (insPV (PT g l.length) i (.pointer (some ⟨gb, 0, none⟩)))) (hgr : w.grownBy W3 (Value.slice q l.length c).ownBlock) (v : Value) :
    Ptrs (W3.setCell ⟨B0, 0, none⟩ v) (some ⟨g', 0, none⟩) (insL l i x) := by
  have hkind : ∀ b cs T, w.heap[b]? = some (.cells cs T (0, 0)) → T ≠ 121 → (Value.slice q l.length c).ownBlock ≠ some b := fun b cs T hb hne e => by
    obtain ⟨c2, f2, e2⟩ := Lib.ownsRow_kind hT.1 b e
    rw [hb] at e2
    simp only [Option.some.injEq, Obj.cells.injEq] at e2
    exact hne e2.2.1
  have hBl : B0 < w.heap.size := (Array.getElem?_eq_some_iff.1 hb).1
  have hgl : gb < w.heap.size := (Array.getElem?_eq_some_iff.1 hg).1
  have hb3 : W3.heap[B0]? = _ := (hgr.block B0 hBl (fun e => hkind B0 _ _ hb (by decide) e.symm)).trans hb
  have hg3 : W3.heap[gb]? = _ := (hgr.block gb hgl (fun e => hkind gb _ _ hg (by decide) e.symm)).trans hg
  have n1 : B0 ≠ g' := fun e => by
    obtain ⟨c2, f2, e2⟩ := Lib.ownsRow_kind ho g' rfl
    rw [← e, hb3] at e2
    simp at e2
  have n2 : B0 ≠ gb := fun e => by
    rw [← e, hb3] at hg3
    simp at hg3
  have hg'l : g' < W3.heap.size := (ho.lt g' rfl).2
  have hptr : ∀ k u, (insPV (PT g l.length) i (.pointer (some ⟨gb, 0, none⟩)))[k]? = some u → k < l.length + 1 → (W3.setCell ⟨B0, 0, none⟩ v).cell? ⟨g', k, none⟩ = some u := fun k u h hk => by
    rw [cellOther (fun e => n1 (Addr.mk.inj e).1), ho.cellAt k (by omega)]; exact h
  have hpl : (PT g l.length).length = l.length := by simp [PT]
  have hold : ∀ k y, l[k]? = some y → g < (W3.setCell ⟨B0, 0, none⟩ v).heap.size ∧ (W3.setCell ⟨B0, 0, none⟩ v).cell? ⟨g, k * 3, none⟩ = some (.int .i64 y.b) ∧ (W3.setCell ⟨B0, 0, none⟩ v).cell? ⟨g, k * 3 + 1, none⟩ = some (.int .i64 y.p) ∧ (W3.setCell ⟨B0, 0, none⟩ v).cell? ⟨g, k * 3 + 2, none⟩ = some (.string y.d) := fun k y hk => by
    obtain ⟨pc, hpg⟩ := hT.pages hk
    obtain ⟨c0, c1, c2⟩ := own_pg hpg hk
    obtain ⟨kc, kf, ke⟩ := Lib.ownsRow_kind hpg g rfl
    have hgs : g < w.heap.size := (hpg.lt g rfl).2
    have hne : (Value.slice q l.length c).ownBlock ≠ some g := fun e => by
      obtain ⟨c2, f2, e2⟩ := Lib.ownsRow_kind hT.1 g e
      rw [ke] at e2
      simp at e2
    have n3 : B0 ≠ g := fun e => by
      rw [← e, hb] at ke
      simp at ke
    have hbk := hgr.block g hgs (fun e => hne e.symm)
    refine ⟨by simp only [World.size_setCell]; exact Nat.lt_of_lt_of_le hgs hgr.size, ?_, ?_, ?_⟩
    · rw [cellOther (fun e => n3 (Addr.mk.inj e).1), cell_blk hbk]; exact c0
    · rw [cellOther (fun e => n3 (Addr.mk.inj e).1), cell_blk hbk]; exact c1
    · rw [cellOther (fun e => n3 (Addr.mk.inj e).1), cell_blk hbk]; exact c2
  intro k y hk
  have hkl : k < l.length + 1 := by rw [← insL_len (x := x) hi]; exact (List.getElem?_eq_some_iff.1 hk).1
  rw [insL_at hi] at hk
  have hs : g' < (W3.setCell ⟨B0, 0, none⟩ v).heap.size := by simp only [World.size_setCell]; exact hg'l
  by_cases h1 : k < i
  · rw [if_pos h1] at hk
    obtain ⟨d0, d1, d2, d3⟩ := hold k y hk
    refine ⟨g', g, k * 3, rfl, hs, d0, hptr k _ ?_ hkl, d1, d2, d3⟩
    rw [insPV_at (by omega), if_pos h1, PT_at _ _ _ (by omega)]
  · rw [if_neg h1] at hk
    by_cases h2 : k = i
    · rw [if_pos h2] at hk
      cases hk
      refine ⟨g', gb, 0, rfl, hs, by simp only [World.size_setCell]; exact Nat.lt_of_lt_of_le hgl hgr.size, hptr k _ ?_ hkl, ?_, ?_, ?_⟩
      · rw [insPV_at (by omega), if_neg h1, if_pos h2]
      · rw [cellOther (fun e => n2 (Addr.mk.inj e).1)]; exact cell_of_row _ _ 0 _ _ (0, 0) hg3
      · rw [cellOther (fun e => n2 (Addr.mk.inj e).1)]; exact cell_of_row _ _ 1 _ _ (0, 0) hg3
      · rw [cellOther (fun e => n2 (Addr.mk.inj e).1)]; exact cell_of_row _ _ 2 _ _ (0, 0) hg3
    · rw [if_neg h2] at hk
      obtain ⟨d0, d1, d2, d3⟩ := hold (k - 1) y hk
      refine ⟨g', g, (k - 1) * 3, rfl, hs, d0, hptr k _ ?_ hkl, d1, d2, d3⟩
      rw [insPV_at (by omega), if_neg h1, if_neg h2, PT_at _ _ _ (by omega)]
theorem rep256 : (⟨(Lib.repeatL [(0 : UInt8)] 256).toArray⟩ : ByteArray) = zeros256 := by kernel_rfl
theorem repeatC (w : World) : Calls Tryz.prog 131 #[.string ⟨#[0]⟩, .int .i64 256] w fun e w' => e = .returned (.string zeros256) ∧ Below w.heap.size w w' := by
  have h := Tryz.strings_Repeat ⟨#[0]⟩ 256 w (by omega) (by decide)
  refine Calls.mono h ?_
  rintro e w' ⟨rfl, h⟩
  exact ⟨by rw [← rep256], h⟩
end Go.Proofs.YtbkgmpkednkbcaaGreatDoor
