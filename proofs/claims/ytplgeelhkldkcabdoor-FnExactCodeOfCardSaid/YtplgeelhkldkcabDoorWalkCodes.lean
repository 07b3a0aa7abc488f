/-
  What impl.CodeWord, spec.CodeWord, impl.CodeOf and spec.CodeOf do: the word of a code and the code of a word out of one table of 36 words, changing nothing that was there; condition: the program's table holds these words.
-/
import Derived.Test.YtplgeelhkldkcabDoorCards
import Derived.WalkKit
import Derived.WalkSpells
import Derived.WalkLawsBesides
import Derived.Lib.Hide
import Derived.LaidMore
import Derived.Stop.Joined
import Derived.OpenShut
import Derived.Lib.LaidTab
namespace Go.Proofs.YtplgeelhkldkcabDoor
open Go.RowKit
def wordsL : List (List UInt8) := [[111, 107], [98, 97, 100], [108, 111, 110, 103], [102, 111, 114, 109], [114, 97, 110, 103, 101], [110, 111, 110, 101], [109, 97, 110, 121], [102, 117, 108, 108], [115, 105, 122, 101], [101, 110, 100], [112, 114, 101, 102, 105, 120], [111, 112, 99, 111, 100, 101], [111, 112, 101, 114, 97, 110, 100], [112, 97, 103, 101], [112, 101, 114, 109], [102, 101, 116, 99, 104], [100, 105, 118, 105, 100, 101], [104, 97, 108, 116], [116, 114, 97, 112], [98, 117, 110, 100, 108, 101], [117, 110, 115, 97, 102, 101], [98, 97, 115, 101], [115, 116, 97, 99, 107], [109, 97, 115, 107], [100, 105, 115, 112], [105, 110, 100, 105, 114, 101, 99, 116], [116, 97, 114, 103, 101, 116], [99, 97, 108, 108], [116, 101, 120, 116], [114, 105, 112], [109, 97, 103, 105, 99], [115, 101, 103, 109, 101, 110, 116], [101, 110, 116, 114, 121], [102, 117, 101, 108], [115, 101, 114, 118, 105, 99, 101], [100, 111, 110, 101]]
def wd (i : Nat) : ByteArray := ⟨(wordsL.getD i []).toArray⟩
theorem gWords : Tryd.prog.globalNamed "loop.example/g00664/impl.codeWords" = some 0 := by kernel_rfl
theorem tWords : (Tryd.prog.globals[0]?).map (·.type) = some 27 := by kernel_rfl
theorem cWords : Tryd.prog.cellsOf 27 = 36 := by kernel_rfl
theorem cStr : Tryd.prog.cellsOf 9 = 1 := by kernel_rfl
theorem cells_of_tabS {H : Type} {enc : TypeId × Value → H} {P : Program} {w : World} {base : Nat} {sp : Nat → Bool} {held : Bool} {fuel : Nat} {t e : TypeId} {n : Nat} {cs : List Value} {ls : List (List UInt8)} {p : List MemPlace}
    (ht : P.underlying t = some (.array n e)) (he : P.underlying e = some .string) (hce : P.cellsOf e = 1)
    (h : DataW.trod enc P w base sp held fuel t cs = some (.agg (ls.map fun l => .lit (.string l)), p)) (i : Nat) (hi : i < n) : cs[i]? = some (.string ⟨(ls.getD i []).toArray⟩) := by
  obtain ⟨xs, m, _, hx, _, hn, hel⟩ := DataW.trod_array ht h
  have h1 := hel i hi
  rw [hce] at h1
  have hxi : xs[i]? = some xs[i] := List.getElem?_eq_getElem (by omega)
  rw [hxi] at h1
  obtain ⟨s, e1, e2, _⟩ := DataW.trod_string he h1
  have h2 := congrArg Prod.fst hx
  simp only [DataW.agg.injEq] at h2
  have h3 : (xs.map (·.1))[i]? = some (DataW.lit (.string s.data.toList)) := by rw [List.getElem?_map, hxi, Option.map_some, e2]
  rw [← h2, List.getElem?_map, Option.map_eq_some_iff] at h3
  obtain ⟨l, hl, hl2⟩ := h3
  have hl3 : l = s.data.toList := by simpa using hl2
  have hc : cs[i]? = some (.string s) := by
    have := congrArg (·[0]?) e1
    simpa [List.getElem?_take, List.getElem?_drop] using this
  rw [hc, List.getD_eq_getElem?_getD, hl, hl3]
  rfl
theorem words_at {W : World} {q : List (String × DataW Unit)} (hq : q = [("loop.example/g00664/impl.codeWords", Rows.laid_loop_example_g00664_impl_codeWords)]) (h : laidMetH Tryd.prog q W) (i : Nat) (hi : i < 36) : W.cell? ⟨0, i, none⟩ = some (.string (wd i)) := by
  subst hq
  rw [MakeChecks.laidMetH_plain _ _ _ (by kernel_rfl)] at h
  obtain ⟨ps, ⟨g, t, cs, fuel, p, q, hg, ht, hvar, hd, _, _⟩, _⟩ := h
  obtain rfl := Option.some.inj (gWords.symm.trans hg)
  obtain rfl := Option.some.inj (tWords.symm.trans ht)
  have hc := cells_of_tabS (ls := wordsL) Tryd.underlying27 Tryd.underlying9 cStr hd i hi
  have := World.var?_cell hg hvar i
  rw [this]
  simpa [wd] using hc
theorem ret_str {a b : ByteArray} (h : a = b) : Ending.returned (.string a) = .returned (.string b) := by rw [h]
set_option maxHeartbeats 400000 in
theorem implWord (i : Nat) (w : World) (hi : i < 36) (hc : w.cell? ⟨0, i, none⟩ = some (.string (wd i))) :
    Calls Tryd.prog 6 #[.int .i64 (i : Int)] w fun e w' => e = .returned (.string (wd i)) ∧ w = w' := by
  have h2 : (i : Int) < 36 := by omega
  go_enter Tryd.func6, Tryd.ntmps6
  go_wp2
  go_ret
  exact ⟨rfl, rfl⟩
set_option maxHeartbeats 400000 in
theorem implWordNo (c : Int) (w : World) (h : c < 0 ∨ 36 ≤ c) :
    Calls Tryd.prog 6 #[.int .i64 c] w fun e w' => e = .returned (.string ⟨#[]⟩) ∧ w = w' := by
  rcases h with h | h
  all_goals
    go_enter Tryd.func6, Tryd.ntmps6
    go_wp2
    go_ret
    exact ⟨rfl, rfl⟩
def wordsV : Array Value := (wordsL.map fun l => Value.string ⟨l.toArray⟩).toArray
theorem wordsV_at (i : Nat) (hi : i < 36) : wordsV[i]? = some (.string (wd i)) := by
  have hl : wordsL.length = 36 := by decide
  simp only [wordsV, wd, List.getElem?_toArray, List.getElem?_map, List.getD_eq_getElem?_getD]
  rw [List.getElem?_eq_getElem (by omega)]; rfl
theorem words_get (i : Nat) (h : i < (wordsL.map fun l => Value.string ⟨l.toArray⟩).length) : (wordsL.map fun l => Value.string ⟨l.toArray⟩)[i] = .string (wd i) := by
  have hl : i < wordsL.length := by simpa using h
  simp only [List.getElem_map, wd, List.getD_eq_getElem?_getD]
  rw [List.getElem?_eq_getElem hl]; rfl
set_option maxHeartbeats 1000000 in
set_option maxRecDepth 100000 in
theorem specWord (i : Nat) (w : World) (hi : i < 36) :
    Calls Tryd.prog 5 #[.int .i64 (i : Int)] w fun e w' => e = .returned (.string (wd i)) ∧ Below w.heap.size w w' := by
  have h2 : (i : Int) < 36 := by omega
  go_enter Tryd.func5, Tryd.ntmps5
  go_wp2
  go_ret
  exact ⟨congrArg Ending.returned (words_get i _), (Below.refl _ _).alloc (Nat.le_refl _) _⟩
set_option maxHeartbeats 400000 in
theorem specWordNo (c : Int) (w : World) (h : c < 0 ∨ 36 ≤ c) :
    Calls Tryd.prog 5 #[.int .i64 c] w fun e w' => e = .returned (.string ⟨#[]⟩) ∧ Below w.heap.size w w' := by
  rcases h with h | h
  all_goals
    go_enter Tryd.func5, Tryd.ntmps5
    go_wp2
    go_ret
    exact ⟨rfl, (Below.refl _ _).alloc (Nat.le_refl _) _⟩
end Go.Proofs.YtplgeelhkldkcabDoor
