/-
  What impl.LoadAt and spec.LoadAt do: the number of some bytes at an address, or a code, changing nothing that was there; condition: the sentinels hold what the program's text lays there.
-/
import Derived.Test.YtlijjbdhoooamaaDoorWalkGetS
import Derived.Test.YtlijjbdhoooamaaDoorWalkTake
import Derived.Test.YtlijjbdhoooamaaDoorOpenMem
namespace Go.Proofs.YtlijjbdhoooamaaDoor
open Go.RowKit
/-- what both LoadAt answer -/
def LoadOut (l : List Pg) (a n r c : Int) : Prop :=
  (¬ MemOk l ∧ r = 0 ∧ c = 1) ∨ (MemOk l ∧ ¬ okSize n ∧ r = 0 ∧ c = 4) ∨ (MemOk l ∧ okSize n ∧ ∃ t c', TkOut l a n.toNat 1 t c' ∧ ((c' = 0 ∧ r = wrap64 (takeN ⟨t.toArray⟩ 0 n.toNat : Int) ∧ c = 0) ∨ (c' ≠ 0 ∧ r = 0 ∧ c = c')))
theorem LoadOut.one {l : List Pg} {a n r r' c c' : Int} (h : LoadOut l a n r c) (h' : LoadOut l a n r' c') : r = r' ∧ c = c' := by
  rcases h with ⟨h1, rfl, rfl⟩ | ⟨h1, h2, rfl, rfl⟩ | ⟨h1, h2, t, k, ht, h3⟩ <;> rcases h' with ⟨g1, rfl, rfl⟩ | ⟨g1, g2, rfl, rfl⟩ | ⟨g1, g2, t', k', ht', g3⟩ <;> first | exact ⟨rfl, rfl⟩ | exact absurd h1 g1 | exact absurd g1 h1 | exact absurd h2 g2 | exact absurd g2 h2 | skip
  obtain ⟨rfl, rfl⟩ := TkOut.one h1 ht ht'
  rcases h3 with ⟨e1, rfl, rfl⟩ | ⟨e1, rfl, rfl⟩ <;> rcases g3 with ⟨f1, rfl, rfl⟩ | ⟨f1, rfl, rfl⟩ <;> first | exact ⟨rfl, rfl⟩ | exact absurd e1 f1 | exact absurd f1 e1
theorem size8 {n : Int} (h : okSize n) : 1 ≤ n ∧ n ≤ 8 := by rcases h with h | h | h | h <;> omega
theorem ba_mk (t : List UInt8) : (⟨t.toArray⟩ : ByteArray).size = t.length := rfl
theorem sup_bytes {l : List Pg} (hm : MemOk l) {a perm : Int} {T : List UInt8} {n : Nat} (hl : T.length = n) (h : ∀ (i : Nat) v, T[i]? = some v → ByteAt l 0 (a + i) v) (hb : ∀ i : Nat, i < n → ∃ v, ByteAt l perm (a + i) v) : ∀ (i : Nat) v, T[i]? = some v → ByteAt l perm (a + i) v := by
  intro i v hv
  have hi := (List.getElem?_eq_some_iff.1 hv).1
  obtain ⟨u, hu⟩ := hb i (by omega)
  rw [byte_one hm (h i v hv) (byte0 hu)]
  exact hu
theorem ba_self2 (T : ByteArray) : T = ⟨T.data.toList.toArray⟩ := by cases T; rfl
set_option maxHeartbeats 1000000 in
theorem loadI (p : Option Addr) (cap : Nat) (l : List Pg) (a n : Int) (w : World) (aE aR : Addr) (hsn : Sent w aE aR) (hp : Ad p) (hs : Small l) (hr : Rd w p l) (h1 : -9223372036854775808 ≤ a) (h2 : a ≤ 9223372036854775807) :
    Calls Tryd.prog 11 #[.agg #[.slice p l.length cap], .int .i64 a, .int .i64 n] w fun e w' => ∃ r c, e = .returned (.tuple #[.int .i64 r, .int .i64 c]) ∧ Hid (LoadOut l a n r c) ∧ Below w.heap.size w w' := by
  have hb0 := below1 w (.cells #[.slice p l.length cap] 25)
  have C := Lib.hid (openAll p cap l _ hp hs (hr.below hb0))
  have HSN := Lib.hid hsn
  clear hr hs hp hsn
  go_enter Tryd.func11, Tryd.ntmps11
  go_wp2_with fail
  refine (C.out).mono ?_
  rintro e w1 ⟨ho, hb1⟩
  have L1 := Lib.hid (bthen hb0 hb1)
  clear hb0 hb1 C
  rcases ho with ⟨hn, q, m, c, rfl⟩ | ⟨hy, q, c, g, rfl, htab⟩
  · have HM := Lib.hid hn
    clear hn
    go_wp2
    go_ret2
    exact ⟨_, _, rfl, Lib.hid (.inl ⟨HM.out, rfl, rfl⟩), bbox L1.out _⟩
  · obtain ⟨V, hV⟩ : ∃ V, V = w1.alloc (.cells #[.slice q l.length c] 50) := ⟨_, rfl⟩
    have L2 : Hid (Below w.heap.size w V) := Lib.hid (by rw [hV]; exact bbox L1.out _)
    have hB : V.cell? ⟨w1.heap.size, 0, none⟩ = some (.slice q l.length c) := by rw [hV]; exact cell_of_one (heap_alloc_new w1 _)
    have hB0 : w1.heap.size < V.heap.size := by rw [hV]; simp
    have hT : Tab V q g l := by rw [hV]; exact htab.tab.below (below1 _ _)
    have HT := Lib.hid hT; have HV := Lib.hid hV; have HM := Lib.hid hy; have HB := Lib.hid hB
    clear hT hV hy htab L1 hB
    by_cases hok : okSize n
    · have h8 := size8 hok
      obtain ⟨m, rfl⟩ : ∃ m : Nat, n = (m : Int) := ⟨n.toNat, by omega⟩
      have hm8 : m ≤ 8 := by omega
      have CK := Lib.hid (checkYes (m : Int) V hok)
      have HOK := Lib.hid hok
      clear hok h8
      go_wp2_with fail
      rw [← HV.out]
      refine (CK.out).mono ?_
      rintro e wz ⟨rfl, rfl⟩
      go_wp2_with fail
      refine (takeC w1.heap.size c g q l a 1 m V HM.out HB.out hB0 HT.out h1 h2 (by omega)).mono ?_
      rintro e w2 ⟨T, k, rfl, HTk, b2⟩
      have L3 := Lib.hid (bthen L2.out b2)
      clear b2
      by_cases hk : k = 0
      · subst hk
        have hsz : T.size = m := by
          rcases HTk.out.2 with ⟨_, h⟩ | ⟨_, h⟩
          · rw [ba_len] at h; exact h
          · have := code_pos h; omega
        have C3 := Lib.hid (implTake T 0 (m : Int) w2 aE aR (HSN.out.below L3.out) (by unfold maxLen; omega) (by decide))
        have HSZ := Lib.hid hsz
        clear hsz
        go_wp2_with fail
        refine (C3.out).mono ?_
        rintro e w3 ⟨r, kk, hto, rfl, b3⟩
        have L4 := Lib.hid (bthen L3.out b3)
        have HTO := Lib.hid hto
        clear b3 hto
        go_wp2
        go_ret2
        refine ⟨_, _, rfl, Lib.hid (.inr (.inr ⟨HM.out, HOK.out, _, _, HTk.out, .inl ⟨rfl, ?_, ?_⟩⟩)), L4.out⟩
        · have e := HSZ.out
          rcases HTO.out with ⟨h, _⟩ | ⟨_, h, _⟩ | ⟨_, _, h, _⟩ | ⟨_, _, _, _, h, _⟩
          · omega
          · exact absurd HOK.out h
          · omega
          · rw [h, ← ba_self2]; rfl
        · have e := HSZ.out
          rcases HTO.out with ⟨h, _⟩ | ⟨_, h, _⟩ | ⟨_, _, h, _⟩ | ⟨_, _, _, _, _, h⟩
          · omega
          · exact absurd HOK.out h
          · omega
          · exact h
      · have d2 : (k != 0) = true := by rw [bne_iff_ne]; exact hk
        have HK := Lib.hid hk
        clear hk
        go_wp2
        go_ret2
        exact ⟨_, _, rfl, Lib.hid (.inr (.inr ⟨HM.out, HOK.out, _, _, HTk.out, .inr ⟨HK.out, rfl, rfl⟩⟩)), L3.out⟩
    · have CK := Lib.hid (checkNo n V aE aR (HSN.out.below L2.out) hok)
      have CR := Lib.hid (codeRange sizeT n V aE aR (HSN.out.below L2.out))
      have HOK := Lib.hid hok
      clear hok
      go_wp2_with fail
      rw [← HV.out]
      refine (CK.out).mono ?_
      rintro e wz ⟨rfl, rfl⟩
      unfold bErr
      go_wp2_with fail
      refine (CR.out).mono ?_
      rintro e w2 ⟨rfl, b2⟩
      have L3 := Lib.hid (bthen L2.out b2)
      clear b2
      go_wp2
      go_ret2
      exact ⟨_, _, rfl, Lib.hid (.inr (.inl ⟨HM.out, HOK.out, rfl, rfl⟩)), L3.out⟩
end Go.Proofs.YtlijjbdhoooamaaDoor
