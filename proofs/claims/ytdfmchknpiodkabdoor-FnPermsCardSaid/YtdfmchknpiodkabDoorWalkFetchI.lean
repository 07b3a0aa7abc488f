/-
  What impl.FetchAt does: the bytes from an address on that may be run, at most 15, or a code, changing nothing that was there; conditions: those in each head.
-/
import Derived.Test.YtdfmchknpiodkabDoorWalkTakeP
namespace Go.Proofs.YtdfmchknpiodkabDoor
open Go.RowKit Go.Sort
/-- what both FetchAt answer -/
def FetchOut (l : List Pg) (a : Int) (r : ByteArray) (c : Int) : Prop :=
  (¬ MemOk l ∧ r = ⟨#[]⟩ ∧ c = 1) ∨ (MemOk l ∧ ∃ t c', TkOut l a 15 4 t c' ∧ ((t = [] ∧ r = ⟨#[]⟩ ∧ c = c') ∨ (t ≠ [] ∧ r = ⟨t.toArray⟩ ∧ c = 0)))
theorem FetchOut.one {l : List Pg} {a : Int} {r r' : ByteArray} {c c' : Int} (h : FetchOut l a r c) (h' : FetchOut l a r' c') : r = r' ∧ c = c' := by
  rcases h with ⟨h1, rfl, rfl⟩ | ⟨h1, t, k, ht, h3⟩ <;> rcases h' with ⟨g1, rfl, rfl⟩ | ⟨g1, t', k', ht', g3⟩ <;> first | exact ⟨rfl, rfl⟩ | exact absurd h1 g1 | exact absurd g1 h1 | skip
  obtain ⟨rfl, rfl⟩ := TkOut.one h1 ht ht'
  rcases h3 with ⟨e1, rfl, rfl⟩ | ⟨e1, rfl, rfl⟩ <;> rcases g3 with ⟨f1, rfl, rfl⟩ | ⟨f1, rfl, rfl⟩ <;> first | exact ⟨rfl, rfl⟩ | exact absurd e1 f1 | exact absurd f1 e1
theorem ba_self' (T : ByteArray) : T = ⟨T.data.toList.toArray⟩ := by cases T; rfl
theorem ba_nil {T : ByteArray} (h : T.data.toList = []) : T = ⟨#[]⟩ := by rw [ba_self' T, h]
set_option maxHeartbeats 1000000 in
theorem fetchI (p : Option Addr) (cap : Nat) (l : List Pg) (a : Int) (w : World) (hp : Ad p) (hs : Small l) (hr : Rd w p l) (h1 : -9223372036854775808 ≤ a) (h2 : a ≤ 9223372036854775807) :
    Calls Tryd.prog 19 #[.agg #[.slice p l.length cap], .int .i64 a] w fun e w' => ∃ r c, e = .returned (.tuple #[.string r, .int .i64 c]) ∧ Hid (FetchOut l a r c) ∧ Below w.heap.size w w' := by
  have hb0 := below1 w (.cells #[.slice p l.length cap] 25)
  have C := Lib.hid (openAll p cap l _ hp hs (hr.below hb0))
  clear hr hs hp
  go_enter Tryd.func19, Tryd.ntmps19
  go_wp2_with fail
  refine (C.out).mono ?_
  rintro e w1 ⟨ho, hb1⟩
  have L1 := Lib.hid (bthen hb0 hb1)
  clear hb0 hb1 C
  rcases ho with ⟨hn, q, m, c, rfl⟩ | ⟨hy, q, c, g, rfl, htab⟩
  · have HM := Lib.hid hn
    clear hn
    go_wp2
    go_ret2
    exact ⟨_, _, rfl, Lib.hid (.inl ⟨HM.out, rfl, rfl⟩), bbox L1.out _⟩
  · obtain ⟨V, hV⟩ : ∃ V, V = w1.alloc (.cells #[.slice q l.length c] 54) := ⟨_, rfl⟩
    have L2 : Hid (Below w.heap.size w V) := Lib.hid (by rw [hV]; exact bbox L1.out _)
    have hB : V.cell? ⟨w1.heap.size, 0, none⟩ = some (.slice q l.length c) := by rw [hV]; exact cell_of_one (heap_alloc_new w1 _)
    have hB0 : w1.heap.size < V.heap.size := by rw [hV]; simp
    have hT : Tab V q g l := by rw [hV]; exact htab.tab.below (below1 _ _)
    have HT := Lib.hid hT; have HV := Lib.hid hV; have HM := Lib.hid hy; have HB := Lib.hid hB
    clear hT hV hy htab L1 hB
    go_wp2_with fail
    rw [← HV.out]
    refine (takeC w1.heap.size c g q l a 4 15 V HM.out HB.out hB0 HT.out h1 h2 (by omega)).mono ?_
    rintro e w2 ⟨T, k, rfl, HTk, b2⟩
    have L3 := Lib.hid (bthen L2.out b2)
    clear b2
    by_cases hT0 : T.data.toList = []
    · obtain rfl := ba_nil hT0
      go_wp2
      go_ret2
      exact ⟨_, _, rfl, Lib.hid (.inr ⟨HM.out, _, _, HTk.out, .inl ⟨rfl, rfl, rfl⟩⟩), L3.out⟩
    · have d1 : (T.toList == []) = false := by
        rw [beq_eq_false_iff_ne]
        intro e
        apply hT0
        rw [ByteArray.toList_eq] at e
        exact e
      have HT0 := Lib.hid hT0
      clear hT0
      go_wp2
      go_ret2
      exact ⟨_, _, rfl, Lib.hid (.inr ⟨HM.out, _, _, HTk.out, .inr ⟨HT0.out, ba_self' T, rfl⟩⟩), L3.out⟩
end Go.Proofs.YtdfmchknpiodkabDoor
