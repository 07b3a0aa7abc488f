/-
  What impl.RegOf and spec.RegOf do: the first register and size whose name a text is, changing nothing that was there; condition: the program's four tables hold these names.
-/
import Derived.Test.YtdfmchknpiodkaaDoorWalkMet
namespace Go.Proofs.YtdfmchknpiodkaaDoor
open Go.RowKit
def szAt (n : Nat) : Nat := if n = 0 then 1 else if n = 1 then 2 else if n = 2 then 4 else 8
theorem szAt_ok (n : Nat) : Size4 (szAt n) := by
  rcases (show n = 0 ∨ n = 1 ∨ n = 2 ∨ 2 < n by omega) with rfl | rfl | rfl | h
  · exact .inl rfl
  · exact .inr (.inl rfl)
  · exact .inr (.inr (.inl rfl))
  · unfold szAt Size4; rw [if_neg (by omega), if_neg (by omega), if_neg (by omega)]; omega
/-- no name of the first n sizes is s -/
def NotIn (s : ByteArray) (n : Nat) : Prop := ∀ m, m < n → ∀ j, j < (regsL (szAt m)).length → (nm (regsL (szAt m)) j).toList ≠ s.toList
/-- what both RegOf answer for a text of at most 65536 bytes -/
def RegOut (s : ByteArray) (a b c : Int) : Prop := (∃ n k, n < 4 ∧ k < (regsL (szAt n)).length ∧ (nm (regsL (szAt n)) k).toList = s.toList ∧ (∀ j, j < k → (nm (regsL (szAt n)) j).toList ≠ s.toList) ∧ NotIn s n ∧ a = (k : Int) ∧ b = (szAt n : Int) ∧ c = 0) ∨ (NotIn s 4 ∧ a = 0 ∧ b = 0 ∧ c = 3)
theorem RegOut.one {s : ByteArray} {a b c a' b' c' : Int} (h : RegOut s a b c) (h' : RegOut s a' b' c') : a = a' ∧ b = b' ∧ c = c' := by
  rcases h with ⟨n, k, h1, h2, h3, h4, h5, rfl, rfl, rfl⟩ | ⟨h5, rfl, rfl, rfl⟩
  · rcases h' with ⟨n', k', g1, g2, g3, g4, g5, rfl, rfl, rfl⟩ | ⟨g5, rfl, rfl, rfl⟩
    · have hn : n = n' := by
        rcases Nat.lt_trichotomy n n' with h | h | h
        · exact absurd h3 (g5 n h k h2)
        · exact h
        · exact absurd g3 (h5 n' h k' g2)
      subst hn
      have hk : k = k' := by
        rcases Nat.lt_trichotomy k k' with h | h | h
        · exact absurd h3 (g4 k h)
        · exact h
        · exact absurd g3 (h4 k' h)
      subst hk
      exact ⟨rfl, rfl, rfl⟩
    · exact absurd h3 (g5 n h1 k h2)
  · rcases h' with ⟨n', k', g1, g2, g3, g4, g5, rfl, rfl, rfl⟩ | ⟨g5, rfl, rfl, rfl⟩
    · exact absurd g3 (h5 n' g1 k' g2)
    · exact ⟨rfl, rfl, rfl⟩
theorem NotIn.next {s : ByteArray} {n : Nat} (h : NotIn s n) (h2 : ∀ j, j < (regsL (szAt n)).length → (nm (regsL (szAt n)) j).toList ≠ s.toList) : NotIn s (n + 1) := by
  intro m hm
  by_cases e : m = n
  · subst e; exact h2
  · exact h m (by omega)
theorem NotIn.zero {s : ByteArray} : NotIn s 0 := fun m hm => by omega
def RegRes (s : ByteArray) (w : World) (e : Ending) (w' : World) : Prop := ∃ a b c : Int, Hid (RegOut s a b c) ∧ e = .returned (.tuple #[.int .i64 a, .int .i64 b, .int .i64 c]) ∧ Below w.heap.size w w'
theorem reg_hit0 {s : ByteArray} {k : Nat} (hn : NotIn s 0) (h1 : k < (regsL 1).length) (h2 : (nm (regsL 1) k).toList = s.toList) (h3 : ∀ j, j < k → (nm (regsL 1) j).toList ≠ s.toList) : RegOut s k 1 0 := .inl ⟨0, k, by omega, h1, h2, h3, hn, rfl, rfl, rfl⟩
theorem reg_hit1 {s : ByteArray} {k : Nat} (hn : NotIn s 1) (h1 : k < (regsL 2).length) (h2 : (nm (regsL 2) k).toList = s.toList) (h3 : ∀ j, j < k → (nm (regsL 2) j).toList ≠ s.toList) : RegOut s k 2 0 := .inl ⟨1, k, by omega, h1, h2, h3, hn, rfl, rfl, rfl⟩
theorem reg_hit2 {s : ByteArray} {k : Nat} (hn : NotIn s 2) (h1 : k < (regsL 4).length) (h2 : (nm (regsL 4) k).toList = s.toList) (h3 : ∀ j, j < k → (nm (regsL 4) j).toList ≠ s.toList) : RegOut s k 4 0 := .inl ⟨2, k, by omega, h1, h2, h3, hn, rfl, rfl, rfl⟩
theorem reg_hit3 {s : ByteArray} {k : Nat} (hn : NotIn s 3) (h1 : k < (regsL 8).length) (h2 : (nm (regsL 8) k).toList = s.toList) (h3 : ∀ j, j < k → (nm (regsL 8) j).toList ≠ s.toList) : RegOut s k 8 0 := .inl ⟨3, k, by omega, h1, h2, h3, hn, rfl, rfl, rfl⟩
def sz2 (n : Nat) : Nat := 2 ^ n
set_option maxHeartbeats 2000000 in
theorem regOfS (s : ByteArray) (w : World) (hs : s.size ≤ 65536) : Calls Tryd.prog 32 #[.string s] w (RegRes s w) := by
  have hs' : (s.size : Int) ≤ 65536 := by omega
  go_enter Tryd.func32, Tryd.ntmps32
  go_wp2
  go_loopw [5] (fun i wr => ∃ n : Nat, n ≤ 4 ∧ i = .int .i64 (sz2 n : Nat) ∧ Hid (NotIn s n) ∧ Hid (Below w.heap.size w wr)) (fun i _ => 16 - (intOf i).toNat)
  case atStart => exact ⟨0, by omega, rfl, Lib.hid NotIn.zero, Lib.hid (Below.refl _ _)⟩
  case round =>
    obtain ⟨n, hn, rfl, HN, HL⟩ := hrel
    rcases (show n = 0 ∨ n = 1 ∨ n = 2 ∨ n = 3 ∨ n = 4 by omega) with rfl | rfl | rfl | rfl | rfl
    · rw [show ((sz2 0 : Nat) : Int) = 1 from rfl]
      go_wp2_with fail
      refine (regsS 1 _ (.inl rfl)).mono ?_
      rintro e w1 ⟨g, cap, rfl, ho, hb1⟩
      have HL1 := Lib.hid (HL.out.trans (hb1.mono HL.out.size))
      have hl := regs_len 1
      have C := Lib.hid (fun w h => atS2 g (regsL 1).length cap (regsL 1) s w rfl (by omega) h)
      have HC := Lib.hid (fun k (hk : k < (regsL 1).length) => own_nm ho k hk)
      clear ho hb1
      go_wp2_with fail
      refine (C.out _ HC.out).mono ?_
      rintro e w2 ⟨r, hr, rfl, rfl⟩
      rcases hr with ⟨k, h1, rfl, h2, h3⟩ | ⟨rfl, h3⟩
      · have HR := Lib.hid (reg_hit0 HN.out h1 h2 h3)
        clear h1 h2 h3 hl
        go_wp2
        go_ret3
        exact ⟨_, _, _, HR, rfl, HL1.out⟩
      · have HN2 := Lib.hid (NotIn.next HN.out h3)
        clear h3 hl
        go_wp2
        go_roundw
        case rel => exact ⟨1, by omega, rfl, HN2, HL1⟩
        case measure => simp [intOf]
    · rw [show ((sz2 1 : Nat) : Int) = 2 from rfl]
      go_wp2_with fail
      refine (regsS 2 _ (.inr (.inl rfl))).mono ?_
      rintro e w1 ⟨g, cap, rfl, ho, hb1⟩
      have HL1 := Lib.hid (HL.out.trans (hb1.mono HL.out.size))
      have hl := regs_len 2
      have C := Lib.hid (fun w h => atS2 g (regsL 2).length cap (regsL 2) s w rfl (by omega) h)
      have HC := Lib.hid (fun k (hk : k < (regsL 2).length) => own_nm ho k hk)
      clear ho hb1
      go_wp2_with fail
      refine (C.out _ HC.out).mono ?_
      rintro e w2 ⟨r, hr, rfl, rfl⟩
      rcases hr with ⟨k, h1, rfl, h2, h3⟩ | ⟨rfl, h3⟩
      · have HR := Lib.hid (reg_hit1 HN.out h1 h2 h3)
        clear h1 h2 h3 hl
        go_wp2
        go_ret3
        exact ⟨_, _, _, HR, rfl, HL1.out⟩
      · have HN2 := Lib.hid (NotIn.next HN.out h3)
        clear h3 hl
        go_wp2
        go_roundw
        case rel => exact ⟨2, by omega, rfl, HN2, HL1⟩
        case measure => simp [intOf]
    · rw [show ((sz2 2 : Nat) : Int) = 4 from rfl]
      go_wp2_with fail
      refine (regsS 4 _ (.inr (.inr (.inl rfl)))).mono ?_
      rintro e w1 ⟨g, cap, rfl, ho, hb1⟩
      have HL1 := Lib.hid (HL.out.trans (hb1.mono HL.out.size))
      have hl := regs_len 4
      have C := Lib.hid (fun w h => atS2 g (regsL 4).length cap (regsL 4) s w rfl (by omega) h)
      have HC := Lib.hid (fun k (hk : k < (regsL 4).length) => own_nm ho k hk)
      clear ho hb1
      go_wp2_with fail
      refine (C.out _ HC.out).mono ?_
      rintro e w2 ⟨r, hr, rfl, rfl⟩
      rcases hr with ⟨k, h1, rfl, h2, h3⟩ | ⟨rfl, h3⟩
      · have HR := Lib.hid (reg_hit2 HN.out h1 h2 h3)
        clear h1 h2 h3 hl
        go_wp2
        go_ret3
        exact ⟨_, _, _, HR, rfl, HL1.out⟩
      · have HN2 := Lib.hid (NotIn.next HN.out h3)
        clear h3 hl
        go_wp2
        go_roundw
        case rel => exact ⟨3, by omega, rfl, HN2, HL1⟩
        case measure => simp [intOf]
    · rw [show ((sz2 3 : Nat) : Int) = 8 from rfl]
      go_wp2_with fail
      refine (regsS 8 _ (.inr (.inr (.inr rfl)))).mono ?_
      rintro e w1 ⟨g, cap, rfl, ho, hb1⟩
      have HL1 := Lib.hid (HL.out.trans (hb1.mono HL.out.size))
      have hl := regs_len 8
      have C := Lib.hid (fun w h => atS2 g (regsL 8).length cap (regsL 8) s w rfl (by omega) h)
      have HC := Lib.hid (fun k (hk : k < (regsL 8).length) => own_nm ho k hk)
      clear ho hb1
      go_wp2_with fail
      refine (C.out _ HC.out).mono ?_
      rintro e w2 ⟨r, hr, rfl, rfl⟩
      rcases hr with ⟨k, h1, rfl, h2, h3⟩ | ⟨rfl, h3⟩
      · have HR := Lib.hid (reg_hit3 HN.out h1 h2 h3)
        clear h1 h2 h3 hl
        go_wp2
        go_ret3
        exact ⟨_, _, _, HR, rfl, HL1.out⟩
      · have HN2 := Lib.hid (NotIn.next HN.out h3)
        clear h3 hl
        go_wp2
        go_roundw
        case rel => exact ⟨4, by omega, rfl, HN2, HL1⟩
        case measure => simp [intOf]
    · rw [show ((sz2 4 : Nat) : Int) = 16 from rfl]
      have HR : Hid (RegOut s 0 0 3) := Lib.hid (.inr ⟨HN.out, rfl, rfl, rfl⟩)
      go_wp2
      go_ret3
      exact ⟨_, _, _, HR, rfl, HL.out⟩
/-- the name that impl.RegName answers -/
def rn (s j : Nat) : ByteArray := if j < (regsL s).length then nm (regsL s) j else ⟨#[]⟩
theorem rn_in {s j : Nat} (h : j < (regsL s).length) : rn s j = nm (regsL s) j := if_pos h
theorem regNameAll (s j : Nat) (w : World) (h : Size4 s) (hR : Regs w) :
    Calls Tryd.prog 15 #[.int .i64 (j : Int), .int .i64 (s : Int)] w fun e w' => e = .returned (.string (rn s j)) ∧ w = w' := by
  unfold rn
  by_cases hj : j < (regsL s).length
  · rw [if_pos hj]; exact regNameI s j w h hj hR
  · rw [if_neg hj]; exact noneBig s j w h (by omega)
theorem rn_next {s k : Nat} {t : ByteArray} (h : ∀ j, j < k → j < (regsL s).length → (nm (regsL s) j).toList ≠ t.toList) (h2 : ((rn s k).toList == t.toList) = false) : ∀ j, j < k + 1 → j < (regsL s).length → (nm (regsL s) j).toList ≠ t.toList := by
  intro j hj hl
  by_cases e : j = k
  · subst e; rw [rn_in hl] at h2; exact ne_of_beq_false h2
  · exact h j (by omega) hl
theorem rn_hit {s k : Nat} {t : ByteArray} (hne : t.toList ≠ []) (h2 : ((rn s k).toList == t.toList) = true) : k < (regsL s).length ∧ (nm (regsL s) k).toList = t.toList := by
  have e := eq_of_beq h2
  by_cases hk : k < (regsL s).length
  · rw [rn_in hk] at e; exact ⟨hk, e⟩
  · unfold rn at e; rw [if_neg hk] at e
    rw [show (⟨#[]⟩ : ByteArray).toList = [] from by rw [ByteArray.toList_eq]] at e
    exact absurd e.symm hne
set_option maxHeartbeats 2000000 in
theorem regOfI (s : ByteArray) (w : World) (hs : s.size ≤ 65536) (hne : s.toList ≠ []) (hR : Regs w) : Calls Tryd.prog 14 #[.string s] w (RegRes s w) := by
  have hs' : (s.size : Int) ≤ 65536 := by omega
  have HNE := Lib.hid hne
  have HRG := Lib.hid hR
  have n1 : (!s.toList.isEmpty) = true := by simpa using hne
  have n2 : s.toList.isEmpty = false := by simpa using hne
  have n3 : (s.toList == []) = false := by simpa using hne
  clear hne hR
  go_enter Tryd.func14, Tryd.ntmps14
  go_wp2
  go_loop [14] (fun i => ∃ n : Nat, n ≤ 4 ∧ i = .int .i64 (n : Nat) ∧ Hid (NotIn s n)) (fun i => 4 - (intOf i).toNat)
  case atStart => exact ⟨0, by omega, rfl, Lib.hid NotIn.zero⟩
  case round =>
    obtain ⟨n, hn, rfl, HN⟩ := hrel
    rcases (show n = 0 ∨ n = 1 ∨ n = 2 ∨ n = 3 ∨ n = 4 by omega) with rfl | rfl | rfl | rfl | rfl
    · have C := Lib.hid (fun j => regNameAll 1 j w (.inl rfl) HRG.out)
      rw [show ((0 : Nat) : Int) = 0 from rfl]
      have hx : (Instr.index 44 (.agg #[.int .i64 1, .int .i64 2, .int .i64 4, .int .i64 8]) (.int .i64 0)).run Tryd.prog w = .ok (.int .i64 1) w := by kernel_rfl
      go_wp2
      go_loop [17] (fun i => ∃ k : Nat, k ≤ 20 ∧ i = .int .i64 (k : Nat) ∧ Hid (∀ j, j < k → j < (regsL 1).length → (nm (regsL 1) j).toList ≠ s.toList)) (fun i => 20 - (intOf i).toNat)
      case atStart => exact ⟨0, by omega, rfl, Lib.hid (fun j hj => by omega)⟩
      case round =>
        obtain ⟨k, hk, rfl, HK⟩ := hrel
        by_cases hlt : k < 20
        · have hlt2 : (k : Int) < 20 := by omega
          go_wp2_with fail
          refine (C.out k).mono ?_
          rintro e w2 ⟨rfl, rfl⟩
          by_cases ht : ((rn 1 k).toList == s.toList) = true
          · have HR := Lib.hid (reg_hit0 HN.out (rn_hit HNE.out ht).1 (rn_hit HNE.out ht).2 (fun j hj => HK.out j hj (by have := (rn_hit HNE.out ht).1; omega)))
            go_wp2
            go_ret3
            exact ⟨_, _, _, HR, rfl, Below.refl _ _⟩
          · have ht' : ((rn 1 k).toList == s.toList) = false := by simpa using ht
            clear ht
            have HK' := Lib.hid (rn_next HK.out ht')
            go_wp2
            go_round
            case rel => exact ⟨k + 1, by omega, by go_num, HK'⟩
            case measure => simp [intOf]; omega
        · obtain rfl : k = 20 := by omega
          have HN2 := Lib.hid (NotIn.next HN.out (fun j (hj : j < (regsL 1).length) => HK.out j (by have := (regs_len 1).1; omega) hj))
          rw [show ((20 : Nat) : Int) = 20 from rfl]
          go_wp2
          go_round
          case rel => exact ⟨1, by omega, rfl, HN2⟩
          case measure => simp [intOf]
    · have C := Lib.hid (fun j => regNameAll 2 j w (.inr (.inl rfl)) HRG.out)
      rw [show ((1 : Nat) : Int) = 1 from rfl]
      have hx : (Instr.index 44 (.agg #[.int .i64 1, .int .i64 2, .int .i64 4, .int .i64 8]) (.int .i64 1)).run Tryd.prog w = .ok (.int .i64 2) w := by kernel_rfl
      go_wp2
      go_loop [17] (fun i => ∃ k : Nat, k ≤ 20 ∧ i = .int .i64 (k : Nat) ∧ Hid (∀ j, j < k → j < (regsL 2).length → (nm (regsL 2) j).toList ≠ s.toList)) (fun i => 20 - (intOf i).toNat)
      case atStart => exact ⟨0, by omega, rfl, Lib.hid (fun j hj => by omega)⟩
      case round =>
        obtain ⟨k, hk, rfl, HK⟩ := hrel
        by_cases hlt : k < 20
        · have hlt2 : (k : Int) < 20 := by omega
          go_wp2_with fail
          refine (C.out k).mono ?_
          rintro e w2 ⟨rfl, rfl⟩
          by_cases ht : ((rn 2 k).toList == s.toList) = true
          · have HR := Lib.hid (reg_hit1 HN.out (rn_hit HNE.out ht).1 (rn_hit HNE.out ht).2 (fun j hj => HK.out j hj (by have := (rn_hit HNE.out ht).1; omega)))
            go_wp2
            go_ret3
            exact ⟨_, _, _, HR, rfl, Below.refl _ _⟩
          · have ht' : ((rn 2 k).toList == s.toList) = false := by simpa using ht
            clear ht
            have HK' := Lib.hid (rn_next HK.out ht')
            go_wp2
            go_round
            case rel => exact ⟨k + 1, by omega, by go_num, HK'⟩
            case measure => simp [intOf]; omega
        · obtain rfl : k = 20 := by omega
          have HN2 := Lib.hid (NotIn.next HN.out (fun j (hj : j < (regsL 2).length) => HK.out j (by have := (regs_len 2).1; omega) hj))
          rw [show ((20 : Nat) : Int) = 20 from rfl]
          go_wp2
          go_round
          case rel => exact ⟨2, by omega, rfl, HN2⟩
          case measure => simp [intOf]
    · have C := Lib.hid (fun j => regNameAll 4 j w (.inr (.inr (.inl rfl))) HRG.out)
      rw [show ((2 : Nat) : Int) = 2 from rfl]
      have hx : (Instr.index 44 (.agg #[.int .i64 1, .int .i64 2, .int .i64 4, .int .i64 8]) (.int .i64 2)).run Tryd.prog w = .ok (.int .i64 4) w := by kernel_rfl
      go_wp2
      go_loop [17] (fun i => ∃ k : Nat, k ≤ 20 ∧ i = .int .i64 (k : Nat) ∧ Hid (∀ j, j < k → j < (regsL 4).length → (nm (regsL 4) j).toList ≠ s.toList)) (fun i => 20 - (intOf i).toNat)
      case atStart => exact ⟨0, by omega, rfl, Lib.hid (fun j hj => by omega)⟩
      case round =>
        obtain ⟨k, hk, rfl, HK⟩ := hrel
        by_cases hlt : k < 20
        · have hlt2 : (k : Int) < 20 := by omega
          go_wp2_with fail
          refine (C.out k).mono ?_
          rintro e w2 ⟨rfl, rfl⟩
          by_cases ht : ((rn 4 k).toList == s.toList) = true
          · have HR := Lib.hid (reg_hit2 HN.out (rn_hit HNE.out ht).1 (rn_hit HNE.out ht).2 (fun j hj => HK.out j hj (by have := (rn_hit HNE.out ht).1; omega)))
            go_wp2
            go_ret3
            exact ⟨_, _, _, HR, rfl, Below.refl _ _⟩
          · have ht' : ((rn 4 k).toList == s.toList) = false := by simpa using ht
            clear ht
            have HK' := Lib.hid (rn_next HK.out ht')
            go_wp2
            go_round
            case rel => exact ⟨k + 1, by omega, by go_num, HK'⟩
            case measure => simp [intOf]; omega
        · obtain rfl : k = 20 := by omega
          have HN2 := Lib.hid (NotIn.next HN.out (fun j (hj : j < (regsL 4).length) => HK.out j (by have := (regs_len 4).1; omega) hj))
          rw [show ((20 : Nat) : Int) = 20 from rfl]
          go_wp2
          go_round
          case rel => exact ⟨3, by omega, rfl, HN2⟩
          case measure => simp [intOf]
    · have C := Lib.hid (fun j => regNameAll 8 j w (.inr (.inr (.inr rfl))) HRG.out)
      rw [show ((3 : Nat) : Int) = 3 from rfl]
      have hx : (Instr.index 44 (.agg #[.int .i64 1, .int .i64 2, .int .i64 4, .int .i64 8]) (.int .i64 3)).run Tryd.prog w = .ok (.int .i64 8) w := by kernel_rfl
      go_wp2
      go_loop [17] (fun i => ∃ k : Nat, k ≤ 20 ∧ i = .int .i64 (k : Nat) ∧ Hid (∀ j, j < k → j < (regsL 8).length → (nm (regsL 8) j).toList ≠ s.toList)) (fun i => 20 - (intOf i).toNat)
      case atStart => exact ⟨0, by omega, rfl, Lib.hid (fun j hj => by omega)⟩
      case round =>
        obtain ⟨k, hk, rfl, HK⟩ := hrel
        by_cases hlt : k < 20
        · have hlt2 : (k : Int) < 20 := by omega
          go_wp2_with fail
          refine (C.out k).mono ?_
          rintro e w2 ⟨rfl, rfl⟩
          by_cases ht : ((rn 8 k).toList == s.toList) = true
          · have HR := Lib.hid (reg_hit3 HN.out (rn_hit HNE.out ht).1 (rn_hit HNE.out ht).2 (fun j hj => HK.out j hj (by have := (rn_hit HNE.out ht).1; omega)))
            go_wp2
            go_ret3
            exact ⟨_, _, _, HR, rfl, Below.refl _ _⟩
          · have ht' : ((rn 8 k).toList == s.toList) = false := by simpa using ht
            clear ht
            have HK' := Lib.hid (rn_next HK.out ht')
            go_wp2
            go_round
            case rel => exact ⟨k + 1, by omega, by go_num, HK'⟩
            case measure => simp [intOf]; omega
        · obtain rfl : k = 20 := by omega
          have HN2 := Lib.hid (NotIn.next HN.out (fun j (hj : j < (regsL 8).length) => HK.out j (by have := (regs_len 8).1; omega) hj))
          rw [show ((20 : Nat) : Int) = 20 from rfl]
          go_wp2
          go_round
          case rel => exact ⟨4, by omega, rfl, HN2⟩
          case measure => simp [intOf]
    · rw [show ((4 : Nat) : Int) = 4 from rfl]
      have HR : Hid (RegOut s 0 0 3) := Lib.hid (.inr ⟨HN.out, rfl, rfl, rfl⟩)
      go_wp2
      go_ret3
      exact ⟨_, _, _, HR, rfl, Below.refl _ _⟩
end Go.Proofs.YtdfmchknpiodkaaDoor
