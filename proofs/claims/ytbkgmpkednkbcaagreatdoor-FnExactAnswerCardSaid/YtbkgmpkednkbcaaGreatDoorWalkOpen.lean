/-
  What impl.openMemory and impl.MemoryOK do: the first makes a table of its own of a memory's pages and tells whether the memory is right, changing nothing that was there; conditions: those in each head.
-/
import Derived.Test.YtbkgmpkednkbcaaGreatDoorWalkOkS
import Derived.Test.YtbkgmpkednkbcaaGreatDoorGen
namespace Go.Proofs.YtbkgmpkednkbcaaGreatDoor
open Go.RowKit Go.Sort
set_option maxHeartbeats 400000 in
theorem cloneSome (b off n cap : Nat) (l : List Pg) (w : World) (hn : l.length = n) (hs : n ≤ 1048576) (hr : Rd w (some ⟨b, off, none⟩) l) :
    Calls Tryz.prog 72 #[.slice (some ⟨b, off, none⟩) n cap] w fun e w' => ∃ p' cap', e = .returned (.slice p' n cap') ∧ w'.ownsRow w.heap.size 86 3 (.slice p' n cap') n (PV l) ∧ Below w.heap.size w w' := by
  obtain ⟨i0, hi, hz0, hz1, hz2⟩ := info_parts infoP
  have h := AnyE.slices_Clone Tryz.layClone i0 _ 3 32 hi hz0 hz1 hz2 rfl (by decide) Tryz.sizeOf86 b off n cap (PV l) w (by rw [PV_len, hn]) (by unfold maxLen; omega) (by omega) (by
    intro j u hj
    obtain ⟨x, hx, hu⟩ := PV_of hj
    obtain ⟨b', off', e1, h0, a0, a1, a2⟩ := hr _ x hx
    cases e1
    have h3 : j % 3 < 3 := Nat.mod_lt _ (by decide)
    have ej : j / 3 * 3 + j % 3 = j := by omega
    rcases (show j % 3 = 0 ∨ j % 3 = 1 ∨ j % 3 = 2 by omega) with e | e | e
    · rw [e] at hu ej; cases hu; rw [show off + j = off + j / 3 * 3 by omega]; exact a0
    · rw [e] at hu ej; cases hu; rw [show off + j = off + j / 3 * 3 + 1 by omega]; exact a1
    · rw [e] at hu ej; cases hu; rw [show off + j = off + j / 3 * 3 + 2 by omega]; exact a2) (PV_one l)
  change Calls Tryz.prog 72 _ _ _ at h
  refine h.mono ?_
  rintro e w' ⟨v', rfl, hown, _, hb⟩
  rcases Joins.ownsRow_forms hown with ⟨rfl, rfl⟩ | ⟨g, cap', rfl⟩
  · exact ⟨_, _, rfl, hown, hb⟩
  · exact ⟨_, _, rfl, hown, hb⟩
theorem cloneNil (n cap : Nat) (l : List Pg) (w : World) (hn : l.length = n) (hr : Rd w none l) :
    Calls Tryz.prog 72 #[.slice none n cap] w fun e w' => ∃ p' cap', e = .returned (.slice p' n cap') ∧ w'.ownsRow w.heap.size 86 3 (.slice p' n cap') n (PV l) ∧ Below w.heap.size w w' := by
  have h := AnyE.slices_Clone_nil Tryz.layClone n cap w
  change Calls Tryz.prog 72 _ _ _ at h
  refine h.mono ?_
  rintro e w' ⟨rfl, rfl⟩
  have h0 : l = [] := by
    cases l with
    | nil => rfl
    | cons x l => obtain ⟨_, _, e, _⟩ := hr 0 x rfl; cases e
  subst h0
  cases hn
  exact ⟨_, _, rfl, World.ownsRow_nil _ _ _ _, Below.refl _ _⟩
/-- an address of a slice: none, or one without a spot -/
def Ad (p : Option Addr) : Prop := p = none ∨ ∃ b off, p = some ⟨b, off, none⟩
theorem cloneC (p : Option Addr) (n cap : Nat) (l : List Pg) (w : World) (hp : Ad p) (hn : l.length = n) (hs : n ≤ 1048576) (hr : Rd w p l) :
    Calls Tryz.prog 72 #[.slice p n cap] w fun e w' => ∃ p' cap', e = .returned (.slice p' n cap') ∧ w'.ownsRow w.heap.size 86 3 (.slice p' n cap') n (PV l) ∧ Below w.heap.size w w' := by
  rcases hp with rfl | ⟨b, off, rfl⟩
  · exact cloneNil n cap l w hn hr
  · exact cloneSome b off n cap l w hn hs hr
set_option maxHeartbeats 400000 in
theorem ibaseYes (b : Int) (w : World) (h : BaseOk b) : Calls Tryz.prog 121 #[.int .i64 b] w fun e w' => e = .returned (.bool true) ∧ w' = w := by
  obtain ⟨h1, h2, h3⟩ := h
  have h4 : b.tmod 256 = 0 := by rw [Int.tmod_eq_emod_of_nonneg h1]; exact h3
  go_enter Tryz.func121, Tryz.ntmps121
  go_wp2
  go_ret
  exact ⟨rfl, rfl⟩
set_option maxHeartbeats 400000 in
theorem ibaseNo (b : Int) (w : World) (h : ¬ BaseOk b) : Calls Tryz.prog 121 #[.int .i64 b] w fun e w' => e = .returned (.bool false) ∧ w' = w := by
  by_cases h1 : b < 0
  · clear h
    go_enter Tryz.func121, Tryz.ntmps121
    go_wp2
    go_ret
    exact ⟨rfl, rfl⟩
  · have h1' : 0 ≤ b := by omega
    clear h1
    by_cases h2 : b ≤ 65535
    · have h4 : (b % 256 == 0) = false := beq_eq_false_iff_ne.mpr fun e => h ⟨h1', h2, e⟩
      clear h
      go_enter Tryz.func121, Tryz.ntmps121
      go_wp2
      go_ret
      exact ⟨rfl, rfl⟩
    · have h2' : decide (b ≤ 65535) = false := decide_eq_false h2
      clear h h2
      go_enter Tryz.func121, Tryz.ntmps121
      go_wp2
      go_ret
      exact ⟨rfl, rfl⟩
set_option maxHeartbeats 400000 in
theorem ipermYes (p : Int) (w : World) (h : PermOk p) : Calls Tryz.prog 122 #[.int .i64 p] w fun e w' => e = .returned (.bool true) ∧ w' = w := by
  obtain ⟨h1, h2⟩ := h
  go_enter Tryz.func122, Tryz.ntmps122
  go_wp2
  go_ret
  exact ⟨rfl, rfl⟩
set_option maxHeartbeats 400000 in
theorem ipermNo (p : Int) (w : World) (h : ¬ PermOk p) : Calls Tryz.prog 122 #[.int .i64 p] w fun e w' => e = .returned (.bool false) ∧ w' = w := by
  by_cases h1 : p < 0
  · clear h
    go_enter Tryz.func122, Tryz.ntmps122
    go_wp2
    go_ret
    exact ⟨rfl, rfl⟩
  · have h1' : 0 ≤ p := by omega
    have h2' : decide (p ≤ 7) = false := decide_eq_false fun e => h ⟨h1', e⟩
    clear h h1
    go_enter Tryz.func122, Tryz.ntmps122
    go_wp2
    go_ret
    exact ⟨rfl, rfl⟩
set_option maxHeartbeats 400000 in
theorem okYes (x : Pg) (g o : Nat) (w : World) (h : PgOk x) (c0 : w.cell? ⟨g, o, none⟩ = some (.int .i64 x.b)) (c1 : w.cell? ⟨g, o + 1, none⟩ = some (.int .i64 x.p)) (c2 : w.cell? ⟨g, o + 2, none⟩ = some (.string x.d)) :
    Calls Tryz.prog 102 #[.pointer (some ⟨g, o, none⟩)] w fun e w' => e = .returned (.bool true) ∧ w' = w := by
  have C := Lib.hid (fun w => ibaseYes x.b w ⟨h.1, h.2.1, h.2.2.1⟩); have C2 := Lib.hid (fun w => ipermYes x.p w ⟨h.2.2.2.1, h.2.2.2.2.1⟩)
  have hd : ((x.d.size : Int) == 256) = true := by rw [beq_iff_eq]; have := h.2.2.2.2.2; omega
  have hs : x.d.size = 256 := h.2.2.2.2.2
  clear h
  go_enter Tryz.func102, Tryz.ntmps102
  go_wp2_with (first | (go_at_call 121; refine (C.out _).mono ?_; rintro e w' ⟨rfl, rfl⟩) | (go_at_call 122; refine (C2.out _).mono ?_; rintro e w' ⟨rfl, rfl⟩))
  go_ret
  exact ⟨rfl, rfl⟩
set_option maxHeartbeats 400000 in
theorem okNo (x : Pg) (g o : Nat) (w : World) (h : ¬ PgOk x) (c0 : w.cell? ⟨g, o, none⟩ = some (.int .i64 x.b)) (c1 : w.cell? ⟨g, o + 1, none⟩ = some (.int .i64 x.p)) (c2 : w.cell? ⟨g, o + 2, none⟩ = some (.string x.d)) :
    Calls Tryz.prog 102 #[.pointer (some ⟨g, o, none⟩)] w fun e w' => e = .returned (.bool false) ∧ w' = w := by
  by_cases hb : BaseOk x.b
  · have C := Lib.hid (fun w => ibaseYes x.b w hb)
    by_cases hp : PermOk x.p
    · have C2 := Lib.hid (fun w => ipermYes x.p w hp)
      have hd : ((x.d.size : Int) == 256) = false := by
        rw [beq_eq_false_iff_ne]
        intro e
        exact h ⟨hb.1, hb.2.1, hb.2.2, hp.1, hp.2, by omega⟩
      clear h hb hp
      go_enter Tryz.func102, Tryz.ntmps102
      go_wp2_with (first | (go_at_call 121; refine (C.out _).mono ?_; rintro e w' ⟨rfl, rfl⟩) | (go_at_call 122; refine (C2.out _).mono ?_; rintro e w' ⟨rfl, rfl⟩))
      go_ret
      exact ⟨rfl, rfl⟩
    · have C2 := Lib.hid (fun w => ipermNo x.p w hp)
      clear h hb hp
      go_enter Tryz.func102, Tryz.ntmps102
      go_wp2_with (first | (go_at_call 121; refine (C.out _).mono ?_; rintro e w' ⟨rfl, rfl⟩) | (go_at_call 122; refine (C2.out _).mono ?_; rintro e w' ⟨rfl, rfl⟩))
      go_ret
      exact ⟨rfl, rfl⟩
  · have C := Lib.hid (fun w => ibaseNo x.b w hb)
    clear h hb
    go_enter Tryz.func102, Tryz.ntmps102
    go_wp2_with (first | (go_at_call 121; refine (C.out _).mono ?_; rintro e w' ⟨rfl, rfl⟩))
    go_ret
    exact ⟨rfl, rfl⟩
set_option maxHeartbeats 400000 in
theorem keyC (x : Int) (g o : Nat) (w : World) (c0 : w.cell? ⟨g, o, none⟩ = some (.int .i64 x)) :
    Calls Tryz.prog 169 #[.pointer (some ⟨g, o, none⟩)] w fun e w' => e = .returned (.int .i64 x) ∧ w' = w := by
  go_enter Tryz.func169, Tryz.ntmps169
  go_wp2
  go_ret
  exact ⟨rfl, rfl⟩
theorem mKey (v : Value) (w : World) : (Go.method 313 121 v "loop.example/g00664/impl.key").run Tryz.prog w = .ok (169, v) w := by kernel_rfl
/-- the table's pointers q (of which there are l.length) lead to the pages of l, which lie in block g -/
def Tab (w : World) (q : Option Addr) (g : Nat) (l : List Pg) : Prop := ∀ (k : Nat) x, l[k]? = some x → ∃ h, q = some ⟨h, 0, none⟩ ∧ h < w.heap.size ∧ g < w.heap.size ∧ w.cell? ⟨h, k, none⟩ = some (.pointer (some ⟨g, k * 3, none⟩)) ∧ w.cell? ⟨g, k * 3, none⟩ = some (.int .i64 x.b) ∧ w.cell? ⟨g, k * 3 + 1, none⟩ = some (.int .i64 x.p) ∧ w.cell? ⟨g, k * 3 + 2, none⟩ = some (.string x.d)
theorem Tab.below {w w' : World} {q : Option Addr} {g : Nat} {l : List Pg} (h : Tab w q g l) (hb : Below w.heap.size w w') : Tab w' q g l := by
  intro k x hk
  obtain ⟨a, rfl, h0, h1, h2, h3, h4, h5⟩ := h k x hk
  have hs := hb.size
  exact ⟨a, rfl, by omega, by omega, (hb.cell (p := ⟨a, _, none⟩) h0).trans h2, (hb.cell (p := ⟨g, _, none⟩) h1).trans h3, (hb.cell (p := ⟨g, _, none⟩) h1).trans h4, (hb.cell (p := ⟨g, _, none⟩) h1).trans h5⟩
def Rises (l : List Pg) : Prop := ∀ (k : Nat) x y, l[k]? = some x → l[k + 1]? = some y → x.b < y.b
noncomputable def riseB (l : List Pg) : Bool := @decide (Rises l) (Classical.propDecidable _)
theorem riseB_yes {l : List Pg} (h : Rises l) : riseB l = true := by unfold riseB; exact @decide_eq_true _ (Classical.propDecidable _) h
theorem riseB_no {l : List Pg} (h : ¬ Rises l) : riseB l = false := by unfold riseB; exact @decide_eq_false _ (Classical.propDecidable _) h
set_option maxHeartbeats 1000000 in
set_option maxRecDepth 100000 in
theorem risesC (B0 c g : Nat) (q : Option Addr) (l : List Pg) (w : World) (hn : l.length ≤ 32) (hB : w.cell? ⟨B0, 0, none⟩ = some (.slice q l.length c)) (ht : Tab w q g l) :
    Calls Tryz.prog 103 #[.pointer (some ⟨B0, 0, none⟩)] w fun e w' => e = .returned (.bool (riseB l)) ∧ ∃ m, w' = w.drewN m := by
  have hm := mixed
  have hmk := mKey
  have HT := Lib.hid ht
  clear ht
  go_enter Tryz.func103, Tryz.ntmps103
  go_wp2
  go_loopw [3] (fun i wr => ∃ k m : Nat, i = .int .i64 ((k : Int) + 1) ∧ (k = 0 ∨ k + 1 ≤ l.length) ∧ wr = w.drewN m ∧ Hid (∀ (j : Nat) x y, j < k → l[j]? = some x → l[j + 1]? = some y → x.b < y.b)) (fun i _ => l.length - (intOf i).toNat)
  case atStart => exact ⟨0, 0, rfl, .inl rfl, rfl, Lib.hid (fun j x y h => by omega)⟩
  case round =>
    obtain ⟨k, m, rfl, hk, hwr, HI⟩ := hrel
    have hB' : wr.cell? ⟨B0, 0, none⟩ = some (.slice q l.length c) := by rw [hwr, World.cell?_drewN]; exact hB
    have HT' : Hid (Tab wr q g l) := Lib.hid (HT.out.below (by rw [hwr]; exact below_draw m))
    have HW := Lib.hid hwr
    clear hwr hB HT
    by_cases hlt : k + 1 < l.length
    · obtain ⟨x, hx⟩ : ∃ x, l[k]? = some x := ⟨_, List.getElem?_eq_getElem (by omega)⟩
      obtain ⟨y, hy⟩ : ∃ y, l[k + 1]? = some y := ⟨_, List.getElem?_eq_getElem hlt⟩
      obtain ⟨h, rfl, q0, q1, a0, a1, a2, a3⟩ := HT'.out k x hx
      obtain ⟨h', e1, q2, q3, b0, b1, b2, b3⟩ := HT'.out (k + 1) y hy
      cases e1
      have hlt2 : (k : Int) + 1 < l.length := by omega
      have e2 : ((k : Int) + 1).toNat = k + 1 := by omega
      have e3 : IntKind.i64.wrap (k : Int) = (k : Int) := by rw [IntKind.wrap_i64]; omega
      have hkl : k < l.length := by omega
      have HX := Lib.hid hx; have HY := Lib.hid hy
      obtain ⟨o1, ho1⟩ : ∃ o, k * 3 = o := ⟨_, rfl⟩
      obtain ⟨o2, ho2⟩ : ∃ o, (k + 1) * 3 = o := ⟨_, rfl⟩
      rw [ho1] at a0 a1
      rw [ho2] at b0 b1
      have C1 := Lib.hid (fun (n : Nat) => keyC x.b g o1 (wr.drewN n) (by rw [World.cell?_drewN]; exact a1))
      have C2 := Lib.hid (fun (n : Nat) => keyC y.b g o2 (wr.drewN n) (by rw [World.cell?_drewN]; exact b1))
      clear hx hy hk q0 q1 q2 q3 a2 a3 b2 b3 a1 b1 ho1 ho2
      have e4 : (0 : Int) ≤ (k : Int) + 1 := by omega
      by_cases hxy : x.b < y.b
      · have hd : decide (y.b ≤ x.b) = false := decide_eq_false (by omega)
        have HXY := Lib.hid hxy
        clear hxy
        go_wp2_with fail
        go_quiet (first | (go_at_call 169; refine Calls.quiet_of_same (C1.out _)) | (go_at_call 169; refine Calls.quiet_of_same (C2.out _)))
        go_wp2
        go_roundw
        case rel =>
          refine ⟨k + 1, m + nq, by go_num, .inr (by omega), by rw [HW.out, World.drewN_drewN], Lib.hid (fun j z z' hj hz hz' => ?_)⟩
          by_cases e : j = k
          · subst e
            rw [HX.out] at hz; cases hz
            rw [HY.out] at hz'; cases hz'
            exact HXY.out
          · exact HI.out j z z' (by omega) hz hz'
        case measure => simp [intOf]; omega
      · have hd : decide (y.b ≤ x.b) = true := decide_eq_true (by omega)
        have HXY := Lib.hid hxy
        clear hxy
        go_wp2_with fail
        go_quiet (first | (go_at_call 169; refine Calls.quiet_of_same (C1.out _)) | (go_at_call 169; refine Calls.quiet_of_same (C2.out _)))
        go_wp2
        go_ret
        exact ⟨ret_b (riseB_no (fun hh => by have h1 := hh k x y HX.out HY.out; have h2 := HXY.out; omega)).symm, m + nq, by rw [HW.out, World.drewN_drewN]⟩
    · have hlt3 : decide ((k : Int) + 1 < (l.length : Int)) = false := decide_eq_false (by omega)
      go_wp2
      go_ret
      exact ⟨ret_b (riseB_yes (fun j z z' hz hz' => HI.out j z z' (by have := (List.getElem?_eq_some_iff.1 hz').1; omega) hz hz')).symm, m, HW.out⟩
end Go.Proofs.YtbkgmpkednkbcaaGreatDoor
