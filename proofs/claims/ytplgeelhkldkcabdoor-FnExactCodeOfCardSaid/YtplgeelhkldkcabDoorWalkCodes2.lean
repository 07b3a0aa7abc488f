/-
  What impl.CodeOf and spec.CodeOf do: both return the first of 36 codes whose word the text is, or -1, changing nothing that was there; condition: the program's table holds these words.
-/
import Derived.Test.YtplgeelhkldkcabDoorWalkCodes
import Derived.Laws.Rows
namespace Go.Proofs.YtplgeelhkldkcabDoor
open Go.RowKit
def IsCode (s : ByteArray) (r : Int) : Prop := (∃ k : Nat, k < 36 ∧ r = k ∧ (wd k).toList = s.toList ∧ ∀ j, j < k → (wd j).toList ≠ s.toList) ∨ (r = -1 ∧ ∀ j, j < 36 → (wd j).toList ≠ s.toList)
theorem IsCode.one {s : ByteArray} {r r' : Int} (h : IsCode s r) (h' : IsCode s r') : r = r' := by
  rcases h with ⟨k, hk, rfl, e, n⟩ | ⟨rfl, n⟩
  · rcases h' with ⟨k', hk', rfl, e', n'⟩ | ⟨rfl, n'⟩
    · rcases Nat.lt_trichotomy k k' with h | h | h
      · exact absurd e (n' k h)
      · rw [h]
      · exact absurd e' (n k' h)
    · exact absurd e (n' k hk)
  · rcases h' with ⟨k', hk', rfl, e', n'⟩ | ⟨rfl, n'⟩
    · exact absurd e' (n k' hk')
    · rfl
theorem IsCode.intro_hit {s : ByteArray} {k : Nat} (h : k < 36) (e : (wd k).toList = s.toList) (n : ∀ j, j < k → (wd j).toList ≠ s.toList) : IsCode s k := .inl ⟨k, h, rfl, e, n⟩
theorem IsCode.intro_miss {s : ByteArray} (n : ∀ j, j < 36 → (wd j).toList ≠ s.toList) : IsCode s (-1) := .inr ⟨rfl, n⟩
def CodeOut (s : ByteArray) (w : World) (e : Ending) (w' : World) : Prop := ∃ r : Int, IsCode s r ∧ e = .returned (.int .i64 r) ∧ Below w.heap.size w w'
theorem words_block {W : World} {q : List (String × DataW Unit)} (hq : q = [("loop.example/g00664/impl.codeWords", Rows.laid_loop_example_g00664_impl_codeWords)]) (h : laidMetH Tryd.prog q W) : ∃ t fr, W.heap[0]? = some (.cells wordsV t fr) := by
  subst hq
  rw [MakeChecks.laidMetH_plain _ _ _ (by kernel_rfl)] at h
  obtain ⟨ps, ⟨g, t, cs, fuel, p, q, hg, ht, hvar, hd, _, _⟩, _⟩ := h
  obtain rfl := Option.some.inj (gWords.symm.trans hg)
  obtain rfl := Option.some.inj (tWords.symm.trans ht)
  have hc := fun i hi => cells_of_tabS (ls := wordsL) Tryd.underlying27 Tryd.underlying9 cStr hd i hi
  have hlen : cs.toList.length = 36 := by
    obtain ⟨xs, m, _, hx, hl, hn, hel⟩ := DataW.trod_array Tryd.underlying27 hd
    rw [hl]; exact cWords
  have e : cs = wordsV := by
    have : cs.toList = wordsV.toList := by
      apply List.ext_getElem?
      intro i
      by_cases hi : i < 36
      · rw [hc i hi]
        have := wordsV_at i hi
        rw [← Array.getElem?_toList] at this
        rw [this]; rfl
      · have h36 : wordsV.toList.length = 36 := by decide
        rw [List.getElem?_eq_none (by omega), List.getElem?_eq_none (by omega)]
    exact Array.ext' this
  subst e
  unfold World.var? at hvar
  rw [hg] at hvar
  simp only [Option.bind_some] at hvar
  split at hvar
  · rename_i c t fr hh
    exact ⟨t, fr, by rw [hh, Option.some.inj hvar]⟩
  · cases hvar
theorem index_words (w : World) : ∀ i : Nat, i < 36 → (Instr.index 27 (.agg wordsV) (.int .i64 (i : Int))).run Tryd.prog w = .ok (.string (wd i)) w
  | 0, _ => by kernel_rfl
  | 1, _ => by kernel_rfl
  | 2, _ => by kernel_rfl
  | 3, _ => by kernel_rfl
  | 4, _ => by kernel_rfl
  | 5, _ => by kernel_rfl
  | 6, _ => by kernel_rfl
  | 7, _ => by kernel_rfl
  | 8, _ => by kernel_rfl
  | 9, _ => by kernel_rfl
  | 10, _ => by kernel_rfl
  | 11, _ => by kernel_rfl
  | 12, _ => by kernel_rfl
  | 13, _ => by kernel_rfl
  | 14, _ => by kernel_rfl
  | 15, _ => by kernel_rfl
  | 16, _ => by kernel_rfl
  | 17, _ => by kernel_rfl
  | 18, _ => by kernel_rfl
  | 19, _ => by kernel_rfl
  | 20, _ => by kernel_rfl
  | 21, _ => by kernel_rfl
  | 22, _ => by kernel_rfl
  | 23, _ => by kernel_rfl
  | 24, _ => by kernel_rfl
  | 25, _ => by kernel_rfl
  | 26, _ => by kernel_rfl
  | 27, _ => by kernel_rfl
  | 28, _ => by kernel_rfl
  | 29, _ => by kernel_rfl
  | 30, _ => by kernel_rfl
  | 31, _ => by kernel_rfl
  | 32, _ => by kernel_rfl
  | 33, _ => by kernel_rfl
  | 34, _ => by kernel_rfl
  | 35, _ => by kernel_rfl
  | n + 36, h => by omega
theorem next_no {s : ByteArray} {k : Nat} (h : ∀ j, j < k → (wd j).toList ≠ s.toList) (h2 : ((wd k).toList == s.toList) = false) : ∀ j, j < k + 1 → (wd j).toList ≠ s.toList := by
  intro j hj
  by_cases e : j = k
  · subst e; exact ne_of_beq_false h2
  · exact h j (by omega)
set_option maxHeartbeats 1000000 in
theorem implCodeOf (s : ByteArray) (w : World) (t : TypeId) (fr : Nat × Nat) (hb : w.heap[0]? = some (.cells wordsV t fr)) :
    Calls Tryd.prog 8 #[.string s] w (CodeOut s w) := by
  have hx := fun i hi => index_words w i hi
  have HX := Lib.hid hx
  clear hx
  go_enter Tryd.func8, Tryd.ntmps8
  go_wp2_with (refine wpList_load_row rfl 27 _ rfl 0 rfl t _ fr _ hb Tryd.underlying27 rfl (by kernel_rfl) ?_)
  go_loop [3, 4, 6] (fun _ _ i => ∃ k : Nat, k ≤ 36 ∧ i = .int .i64 k ∧ Hid (∀ j, j < k → (wd j).toList ≠ s.toList)) (fun _ _ i => 36 - (intOf i).toNat)
  case atStart => exact ⟨0, by omega, rfl, Lib.hid (fun j hj => by omega)⟩
  case round =>
    obtain ⟨k, hk, rfl, HN⟩ := hrel
    by_cases hlt : k < 36
    · have hlt2 : (k : Int) < 36 := by omega
      have hx := HX.out k hlt
      by_cases ht : ((wd k).toList == s.toList) = true
      · have HR := Lib.hid (IsCode.intro_hit hlt (eq_of_beq ht) HN.out)
        go_wp2
        go_ret
        exact ⟨_, HR.out, rfl, Below.refl _ _⟩
      · have ht' : ((wd k).toList == s.toList) = false := by simpa using ht
        clear ht
        have HN' := Lib.hid (next_no HN.out ht')
        go_wp2
        go_round
        case rel => exact ⟨k + 1, by omega, by go_num, HN'⟩
        case measure => simp [intOf]; omega
    · obtain rfl : k = 36 := by omega
      have HR := Lib.hid (IsCode.intro_miss HN.out)
      go_wp2
      go_ret
      exact ⟨_, HR.out, rfl, Below.refl _ _⟩
set_option maxHeartbeats 1000000 in
theorem specCodeOf (s : ByteArray) (w : World) :
    Calls Tryd.prog 7 #[.string s] w (CodeOut s w) := by
  go_enter Tryd.func7, Tryd.ntmps7
  go_wp2
  go_loopw [3] (fun i wr => ∃ k : Nat, k ≤ 36 ∧ i = .int .i64 k ∧ Hid (∀ j, j < k → (wd j).toList ≠ s.toList) ∧ Below w.heap.size w wr) (fun i _ => 36 - (intOf i).toNat)
  case atStart => exact ⟨0, by omega, rfl, Lib.hid (fun j hj => by omega), Below.refl _ _⟩
  case round =>
    obtain ⟨k, hk, rfl, HN, hbr⟩ := hrel
    by_cases hlt : k < 36
    · have hlt2 : (k : Int) ≤ 35 := by omega
      go_wp2_with fail
      refine (specWord k _ hlt).mono ?_
      rintro e w1 ⟨rfl, hb1⟩
      have hb2 : Below w.heap.size w w1 := hbr.trans (hb1.mono hbr.size)
      clear hb1 hbr
      by_cases ht : ((wd k).toList == s.toList) = true
      · have HR := Lib.hid (IsCode.intro_hit hlt (eq_of_beq ht) HN.out)
        go_wp2
        go_ret
        exact ⟨_, HR.out, rfl, hb2⟩
      · have ht' : ((wd k).toList == s.toList) = false := by simpa using ht
        clear ht
        have HN' := Lib.hid (next_no HN.out ht')
        go_wp2
        go_roundw
        case rel => exact ⟨k + 1, by omega, by go_num, HN', hb2⟩
        case measure => simp [intOf]; omega
    · obtain rfl : k = 36 := by omega
      have HR := Lib.hid (IsCode.intro_miss HN.out)
      go_wp2
      go_ret
      exact ⟨_, HR.out, rfl, hbr⟩
end Go.Proofs.YtplgeelhkldkcabDoor
