/-
  What impl.PermAt and spec.PermAt do: the Perm of the page that has an address, or a code, changing nothing that was there; conditions: those in each head.
-/
import Derived.Test.YtdfmchknpiodkabDoorWalkReach
namespace Go.Proofs.YtdfmchknpiodkabDoor
open Go.RowKit Go.Sort
/-- what both PermAt answer -/
def PermOut (l : List Pg) (a r c : Int) : Prop := (¬ MemOk l ∧ r = 0 ∧ c = 1) ∨ (MemOk l ∧ NoPage l a ∧ r = 0 ∧ c = 13) ∨ (MemOk l ∧ (∃ k x, Has l a k x ∧ r = x.p) ∧ c = 0)
theorem PermOut.one {l : List Pg} {a r c r' c' : Int} (h : PermOut l a r c) (h' : PermOut l a r' c') : r = r' ∧ c = c' := by
  rcases h with ⟨h1, rfl, rfl⟩ | ⟨h1, h2, rfl, rfl⟩ | ⟨h1, ⟨k, x, h2, rfl⟩, rfl⟩ <;> rcases h' with ⟨g1, rfl, rfl⟩ | ⟨g1, g2, rfl, rfl⟩ | ⟨g1, ⟨j, y, g2, rfl⟩, rfl⟩ <;> first | exact ⟨rfl, rfl⟩ | exact absurd h1 g1 | exact absurd g1 h1 | exact absurd g2 (h2 _ _) | exact absurd h2 (g2 _ _) | (obtain ⟨_, rfl⟩ := Has.one h1 h2 g2; exact ⟨rfl, rfl⟩)
set_option maxHeartbeats 1000000 in
theorem permI (p : Option Addr) (cap : Nat) (l : List Pg) (a : Int) (w : World) (hp : Ad p) (hs : Small l) (hr : Rd w p l) (h1 : -9223372036854775808 ≤ a) (h2 : a ≤ 9223372036854775807) :
    Calls Tryd.prog 20 #[.agg #[.slice p l.length cap], .int .i64 a] w fun e w' => ∃ r c, e = .returned (.tuple #[.int .i64 r, .int .i64 c]) ∧ Hid (PermOut l a r c) ∧ Below w.heap.size w w' := by
  have hb0 := below1 w (.cells #[.slice p l.length cap] 25)
  have C := Lib.hid (openAll p cap l _ hp hs (hr.below hb0))
  clear hr hs hp
  go_enter Tryd.func20, Tryd.ntmps20
  go_wp2_with fail
  refine (C.out).mono ?_
  rintro e w1 ⟨ho, hb1⟩
  have L1 := Lib.hid (bthen hb0 hb1)
  clear hb0 hb1 C
  rcases ho with ⟨hn, q, n, c, rfl⟩ | ⟨hy, q, c, g, rfl, htab⟩
  · have HM := Lib.hid hn
    clear hn
    go_wp2
    go_ret2
    exact ⟨_, _, rfl, Lib.hid (.inl ⟨HM.out, rfl, rfl⟩), bbox L1.out _⟩
  · obtain ⟨V, hV⟩ : ∃ V, V = w1.alloc (.cells #[.slice q l.length c] 54) := ⟨_, rfl⟩
    have L2 : Hid (Below w.heap.size w V) := Lib.hid (by rw [hV]; exact bbox L1.out _)
    have hB : V.cell? ⟨w1.heap.size, 0, none⟩ = some (.slice q l.length c) := by rw [hV]; exact cell_of_one (heap_alloc_new w1 _)
    have hB0 : w1.heap.size < V.heap.size := by rw [hV]; simp
    have hT : Tab V q g l := by rw [hV]; exact htab.tab.below (below1 _ _)
    have C2 := Lib.hid (reachC w1.heap.size c g q l a 0 V hy hB hB0 hT h1 h2)
    have HT := Lib.hid hT; have HV := Lib.hid hV; have HM := Lib.hid hy
    clear hT hV hy htab L1
    go_wp2_with fail
    rw [← HV.out]
    refine (C2.out).mono ?_
    rintro e w2 ⟨ho, b2⟩
    have L3 := Lib.hid (bthen L2.out b2)
    rcases ho with ⟨k, x, hh, hal, rfl⟩ | ⟨k, x, hh, hal, rfl⟩ | ⟨hno, rfl⟩
    · obtain ⟨h, e1, q0, q1, a0, a1, a2, a3⟩ := (HT.out.below b2) k x hh.1
      have HH := Lib.hid hh
      clear hh e1 q0 q1 a0 a1 a3 hal b2
      go_wp2
      go_ret2
      exact ⟨_, _, rfl, Lib.hid (.inr (.inr ⟨HM.out, ⟨k, x, HH.out, rfl⟩, rfl⟩)), L3.out⟩
    · rw [allow0] at hal; cases hal
    · have HN := Lib.hid hno
      clear hno b2
      go_wp2
      go_ret2
      exact ⟨_, _, rfl, Lib.hid (.inr (.inl ⟨HM.out, HN.out, rfl, rfl⟩)), L3.out⟩
end Go.Proofs.YtdfmchknpiodkabDoor
