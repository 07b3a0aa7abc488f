/-
  What the functions that answer names do: impl.OpName, spec.OpName, impl.CondName, spec.CondName, and the searches impl.OpOf, spec.OpOf, impl.CondOf, spec.CondOf, changing nothing that was there; condition: the program's tables hold these names.
  What impl.OpName, spec.OpName, impl.CondName, spec.CondName, impl.OpOf, spec.OpOf, impl.CondOf and spec.CondOf do: the name of a number and the number of a name, changing nothing that was there; condition: the program's tables hold these names.
-/
import Derived.Test.YtjnjlgaemmdkhaaGreatDoorCards
import Derived.WalkKit
import Derived.WalkSpells
import Derived.WalkLawsBesides
import Derived.Lib.Hide
import Derived.LaidMore
import Derived.LaidSub
import Derived.Stop.Joined
import Derived.OpenShut
import Derived.Lib.LaidTab
import Derived.Laws.Rows
import Derived.Test.YtjnjlgaemmdkhaaGreatDoorMathTab
namespace Go.Proofs.YtjnjlgaemmdkhaaGreatDoor
open Go.RowKit
theorem cells_of_tabS {H : Type} {enc : TypeId × Value → H} {P : Program} {w : World} {base : Nat} {sp : Nat → Bool} {held : Bool} {fuel : Nat} {t e : TypeId} {n : Nat} {cs : List Value} {ls : List (List UInt8)} {p : List MemPlace}
    (ht : P.underlying t = some (.array n e)) (he : P.underlying e = some .string) (hce : P.cellsOf e = 1)
    (h : DataW.trod enc P w base sp held fuel t cs = some (.agg (ls.map fun l => .lit (.string l)), p)) (i : Nat) (hi : i < n) : cs[i]? = some (.string (nm ls i)) := by
  obtain ⟨xs, m, _, hx, _, hn, hel⟩ := DataW.trod_array ht h
  have h1 := hel i hi
  rw [hce] at h1
  have hxi : xs[i]? = some xs[i] := List.getElem?_eq_getElem (by omega)
  rw [hxi] at h1
  obtain ⟨s, e1, e2, _⟩ := DataW.trod_string he h1
  have h2 := congrArg Prod.fst hx
  simp only [DataW.agg.injEq] at h2
  have h3 : (xs.map (·.1))[i]? = some (DataW.lit (.string s.data.toList)) := by rw [List.getElem?_map, hxi, Option.map_some, e2]
  rw [← h2, List.getElem?_map, Option.map_eq_some_iff] at h3
  obtain ⟨l, hl, hl2⟩ := h3
  have hl3 : l = s.data.toList := by simpa using hl2
  have hc : cs[i]? = some (.string s) := by
    have := congrArg (·[0]?) e1
    simpa [List.getElem?_take, List.getElem?_drop] using this
  rw [hc, nm, List.getD_eq_getElem?_getD, hl, hl3]
  rfl
theorem var_block {P : Program} {W : World} {n : String} {g : Nat} {cs : Array Value} (hg : P.globalNamed n = some g) (h : W.var? P n = some cs) : ∃ t fr, W.heap[g]? = some (.cells cs t fr) := by
  unfold World.var? at h
  rw [hg] at h
  simp only [Option.bind_some] at h
  split at h
  · rename_i c t fr hh
    exact ⟨t, fr, by rw [hh, Option.some.inj h]⟩
  · cases h
/-- a variable that is listed as a table of names holds these names -/
theorem names_block {P : Program} {W : World} {nam : String} {d : DataW Unit} {ls : List (List UInt8)} {g : Nat} {t e : TypeId} {n : Nat} (hg : P.globalNamed nam = some g) (hty : (P.globals[g]?).map (·.type) = some t) (ht : P.underlying t = some (.array n e)) (hct : P.cellsOf t = n) (he : P.underlying e = some .string) (hce : P.cellsOf e = 1) (hd : d = .agg (ls.map fun l => .lit (.string l))) (hln : ls.length = n) (hp : ([(nam, d)].all fun x => x.2.handleName?.isNone) = true) (h : laidMetH P [(nam, d)] W) : ∃ t fr, W.heap[g]? = some (.cells (nmV ls) t fr) := by
  rw [MakeChecks.laidMetH_plain _ _ _ hp] at h
  obtain ⟨ps, ⟨g', t', cs, fuel, p, q, hg', ht', hvar, hd', _, _⟩, _⟩ := h
  obtain rfl := Option.some.inj (hg.symm.trans hg')
  obtain rfl := Option.some.inj (hty.symm.trans ht')
  subst hd
  have hc := fun i hi => cells_of_tabS (ls := ls) ht he hce hd' i hi
  have hlen : cs.toList.length = n := by
    obtain ⟨xs, m, _, hx, hl, hn, hel⟩ := DataW.trod_array ht hd'
    rw [hl]; exact hct
  have e : cs = nmV ls := by
    have : cs.toList = (nmV ls).toList := by
      apply List.ext_getElem?
      intro i
      by_cases hi : i < n
      · rw [hc i hi]
        have := nmV_at ls i (by omega)
        rw [← Array.getElem?_toList] at this
        rw [this]
      · have h36 : (nmV ls).toList.length = n := by rw [Array.length_toList, nmV_size]; exact hln
        rw [List.getElem?_eq_none (by omega), List.getElem?_eq_none (by omega)]
    exact Array.ext' this
  subst e
  exact var_block hg hvar
theorem cStr : Tryz.prog.cellsOf 9 = 1 := by kernel_rfl
/-- block g holds the names ls -/
def Nms (W : World) (g : Nat) (ls : List (List UInt8)) : Prop := ∃ t fr, W.heap[g]? = some (.cells (nmV ls) t fr)
theorem Nms.lt {W : World} {g : Nat} {ls : List (List UInt8)} (h : Nms W g ls) : g < W.heap.size := by
  obtain ⟨t, fr, h⟩ := h
  rcases Nat.lt_or_ge g W.heap.size with h' | h'
  · exact h'
  · rw [Array.getElem?_eq_none h'] at h; cases h
theorem Nms.below {W W' : World} {g : Nat} {ls : List (List UInt8)} (h : Nms W g ls) (hb : Below W.heap.size W W') : Nms W' g ls := by
  have hl := h.lt
  obtain ⟨t, fr, h⟩ := h
  exact ⟨t, fr, (hb.block _ hl).trans h⟩
theorem Nms.cell {W : World} {g : Nat} {ls : List (List UInt8)} (h : Nms W g ls) (i : Nat) (hi : i < ls.length) : W.cell? ⟨g, i, none⟩ = some (.string (nm ls i)) := by
  obtain ⟨t, fr, h⟩ := h
  rw [cell_of_row W g i _ t fr h]; exact nmV_at ls i hi
theorem condsMet {W : World} {d : DataW Unit} (hd : d = Rows.laid_loop_example_g00664_impl_condNames) (h : laidMetH Tryz.prog [("loop.example/g00664/impl.condNames", d)] W) : Nms W 0 condsL := by
  subst hd
  exact names_block (t := 79) (e := 9) (n := 16) (by kernel_rfl) (by kernel_rfl) Tryz.underlying79 (by kernel_rfl) Tryz.underlying9 cStr rfl rfl (by kernel_rfl) h
theorem regs1Met {W : World} {d : DataW Unit} (hd : d = Rows.laid_loop_example_g00664_impl_byteNames) (h : laidMetH Tryz.prog [("loop.example/g00664/impl.byteNames", d)] W) : Nms W 2 regs1 := by
  subst hd
  exact names_block (t := 108) (e := 9) (n := 20) (by kernel_rfl) (by kernel_rfl) Tryz.underlying108 (by kernel_rfl) Tryz.underlying9 cStr rfl rfl (by kernel_rfl) h
theorem regs2Met {W : World} {d : DataW Unit} (hd : d = Rows.laid_loop_example_g00664_impl_wordNames) (h : laidMetH Tryz.prog [("loop.example/g00664/impl.wordNames", d)] W) : Nms W 3 regs2 := by
  subst hd
  exact names_block (t := 79) (e := 9) (n := 16) (by kernel_rfl) (by kernel_rfl) Tryz.underlying79 (by kernel_rfl) Tryz.underlying9 cStr rfl rfl (by kernel_rfl) h
theorem regs4Met {W : World} {d : DataW Unit} (hd : d = Rows.laid_loop_example_g00664_impl_dwordNames) (h : laidMetH Tryz.prog [("loop.example/g00664/impl.dwordNames", d)] W) : Nms W 4 regs4 := by
  subst hd
  exact names_block (t := 79) (e := 9) (n := 16) (by kernel_rfl) (by kernel_rfl) Tryz.underlying79 (by kernel_rfl) Tryz.underlying9 cStr rfl rfl (by kernel_rfl) h
theorem regs8Met {W : World} {d : DataW Unit} (hd : d = Rows.laid_loop_example_g00664_impl_qwordNames) (h : laidMetH Tryz.prog [("loop.example/g00664/impl.qwordNames", d)] W) : Nms W 5 regs8 := by
  subst hd
  exact names_block (t := 79) (e := 9) (n := 16) (by kernel_rfl) (by kernel_rfl) Tryz.underlying79 (by kernel_rfl) Tryz.underlying9 cStr rfl rfl (by kernel_rfl) h
set_option maxHeartbeats 400000 in
theorem inYes (v lo hi : Int) (w : World) (h1 : lo ≤ v) (h2 : v ≤ hi) : Calls Tryz.prog 22 #[.int .i64 v, .int .i64 lo, .int .i64 hi] w fun e w' => e = .returned (.bool true) ∧ w' = w := by
  go_enter Tryz.func22, Tryz.ntmps22
  go_wp2
  go_ret
  exact ⟨rfl, rfl⟩
set_option maxHeartbeats 400000 in
theorem inNo (v lo hi : Int) (w : World) (h : v < lo ∨ hi < v) : Calls Tryz.prog 22 #[.int .i64 v, .int .i64 lo, .int .i64 hi] w fun e w' => e = .returned (.bool false) ∧ w' = w := by
  by_cases h1 : v < lo
  · clear h
    go_enter Tryz.func22, Tryz.ntmps22
    go_wp2
    go_ret
    exact ⟨rfl, rfl⟩
  · have h2 : decide (v ≤ hi) = false := decide_eq_false (by omega)
    have h3 : lo ≤ v := by omega
    clear h h1
    go_enter Tryz.func22, Tryz.ntmps22
    go_wp2
    go_ret
    exact ⟨rfl, rfl⟩
set_option maxHeartbeats 400000 in
theorem l03OpYes (c : Int) (w : World) (h1 : 1 ≤ c) (h2 : c ≤ 44) : Calls Tryz.prog 21 #[.int .i64 c] w fun e w' => e = .returned (.bool true) ∧ w = w' := by
  have C := Lib.hid (fun w => inYes c 1 44 w h1 h2)
  go_enter Tryz.func21, Tryz.ntmps21
  go_wp2_with (go_at_call 22; refine (C.out _).mono ?_; rintro e w' ⟨rfl, rfl⟩)
  go_ret
  exact ⟨rfl, rfl⟩
set_option maxHeartbeats 400000 in
theorem l03OpNo (c : Int) (w : World) (h : c < 1 ∨ 44 < c) : Calls Tryz.prog 21 #[.int .i64 c] w fun e w' => e = .returned (.bool false) ∧ w = w' := by
  have C := Lib.hid (fun w => inNo c 1 44 w h)
  clear h
  go_enter Tryz.func21, Tryz.ntmps21
  go_wp2_with (go_at_call 22; refine (C.out _).mono ?_; rintro e w' ⟨rfl, rfl⟩)
  go_ret
  exact ⟨rfl, rfl⟩
theorem ret_str {a b : ByteArray} (h : a = b) : Ending.returned (.string a) = .returned (.string b) := by rw [h]
end Go.Proofs.YtjnjlgaemmdkhaaGreatDoor
namespace Go.Proofs.YtjnjlgaemmdkhaaGreatDoor
open Go.RowKit
set_option maxHeartbeats 400000 in
theorem condNameI (i : Nat) (w : World) (hi : i < 16) (hn : Nms w 0 condsL) :
    Calls Tryz.prog 47 #[.int .i64 (i : Int)] w fun e w' => e = .returned (.string (nm condsL i)) ∧ w = w' := by
  have hc := hn.cell i hi
  have h2 : (i : Int) < 16 := by omega
  clear hn
  go_enter Tryz.func47, Tryz.ntmps47
  go_wp2
  go_ret
  exact ⟨rfl, rfl⟩
set_option maxHeartbeats 400000 in
theorem condNameINo (c : Int) (w : World) (h : c < 0 ∨ 16 ≤ c) :
    Calls Tryz.prog 47 #[.int .i64 c] w fun e w' => e = .returned (.string ⟨#[]⟩) ∧ w = w' := by
  rcases h with h | h
  all_goals
    go_enter Tryz.func47, Tryz.ntmps47
    go_wp2
    go_ret
    exact ⟨rfl, rfl⟩
theorem ret_int {a b : Int} (h : a = b) : Ending.returned (.int .i64 a) = .returned (.int .i64 b) := by rw [h]
/-- a search in the names l that answers the place of s, or -1 -/
def AtOut (l : List (List UInt8)) (s : ByteArray) (d : Int) (w : World) (e : Ending) (w' : World) : Prop := ∃ r : Int, IsAt l s r ∧ e = .returned (.int .i64 (r + d)) ∧ Below w.heap.size w w'
theorem index_conds (w : World) : ∀ i : Nat, i < 16 → (Instr.index 79 (.agg (nmV condsL)) (.int .i64 (i : Int))).run Tryz.prog w = .ok (.string (nm condsL i)) w
  | 0, _ => by kernel_rfl
  | 1, _ => by kernel_rfl
  | 2, _ => by kernel_rfl
  | 3, _ => by kernel_rfl
  | 4, _ => by kernel_rfl
  | 5, _ => by kernel_rfl
  | 6, _ => by kernel_rfl
  | 7, _ => by kernel_rfl
  | 8, _ => by kernel_rfl
  | 9, _ => by kernel_rfl
  | 10, _ => by kernel_rfl
  | 11, _ => by kernel_rfl
  | 12, _ => by kernel_rfl
  | 13, _ => by kernel_rfl
  | 14, _ => by kernel_rfl
  | 15, _ => by kernel_rfl
  | n + 16, h => by omega
theorem nmV_hid (l : List (List UInt8)) : ∃ V, V = nmV l := ⟨_, rfl⟩
end Go.Proofs.YtjnjlgaemmdkhaaGreatDoor
