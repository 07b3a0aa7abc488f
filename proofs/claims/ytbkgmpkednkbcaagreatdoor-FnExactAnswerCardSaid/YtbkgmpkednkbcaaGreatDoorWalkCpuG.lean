/-
  The names of operations, conditions and registers as lists of bytes, and what a search in such a list answers; no condition but those in each head.
  What the functions that answer names do: impl.OpName, spec.OpName, impl.CondName, spec.CondName, and the searches impl.OpOf, spec.OpOf, impl.CondOf, spec.CondOf, changing nothing that was there; condition: the program's tables hold these names. What impl.OpName, spec.OpName, impl.CondName, spec.CondName, impl.OpOf, spec.OpOf, impl.CondOf and spec.CondOf do: the name of a number and the number of a name, changing nothing that was there; condition: the program's tables hold these names.
  What spec.l00Digits does for numbers from 0 to 99: it returns the one or two digits, changing nothing that was there; no condition but those in each head.
  What spec.l03Regs does for the sizes 1, 2, 4 and 8: it returns the names of the registers of that size in new memory, changing nothing that was there; no condition but those in each head. What impl.RegName, spec.RegName, impl.RegOf and spec.RegOf do: the name of a register of a size, and the register and size of a name, changing nothing that was there; condition: the program's four tables hold these names. The tables of registers out of what a row lists; no condition but those in each head.
  Operands of instructions: their cells, and which are right for a size; no condition but those in each head. An instruction and its cells; no condition.
  What impl.PutLittle and spec.PutLittle do: the lowest bytes of a number, the lowest one first, and code 4 for a size that is none, changing nothing that was there; condition: the sentinels hold what the program's text lays there.
  What impl.TakeLittle and spec.TakeLittle do: the number that some bytes of a text are, the lowest one first, or codes 2, 4 and 9, changing nothing that was there; condition: the sentinels hold what the program's text lays there.
  What impl.OperandOK and spec.OperandOK do: they tell whether an operand is right for a size, changing nothing that was there; conditions: the tables of registers' names and the sentinels hold what the program's text lays there.
  What GetReg of both does of a processor that is right, by its parts; conditions: those in each head.
-/
import Derived.Test.YtbkgmpkednkbcaaGreatDoorProg
import Derived.WalkKit
import Derived.Lib.Hide
import Derived.Laws.Strings
import Derived.Test.YtbkgmpkednkbcaaGreatDoorCards
import Derived.WalkSpells
import Derived.WalkLawsBesides
import Derived.LaidMore
import Derived.LaidSub
import Derived.Stop.Joined
import Derived.OpenShut
import Derived.Lib.LaidTab
import Derived.Laws.Rows
import Derived.Laws.IdiomStrings
import Derived.Deep.RegionWith
import Derived.IntWalk
import Derived.Deep.AppendLies
import Derived.Laws.StructEq
import Derived.Test.YtbkgmpkednkbcaaGreatDoorWalkSign
import Derived.Test.YtbkgmpkednkbcaaGreatDoorBytes
import Derived.Test.YtbkgmpkednkbcaaGreatDoorMathTake
import Derived.Deep.QuietTactic
import Derived.BigQuiet
import Derived.Stop.LaidErr
import Derived.Test.YtbkgmpkednkbcaaGreatDoorWalkCpuO
namespace Go.Proofs.YtbkgmpkednkbcaaGreatDoor
open Go.RowKit
def opsL : List (List UInt8) := [[97, 100, 100], [111, 114], [97, 100, 99], [115, 98, 98], [97, 110, 100], [115, 117, 98], [120, 111, 114], [99, 109, 112], [109, 111, 118], [116, 101, 115, 116], [110, 111, 116], [110, 101, 103], [109, 117, 108], [105, 109, 117, 108, 49], [100, 105, 118], [105, 100, 105, 118], [105, 109, 117, 108], [105, 110, 99], [100, 101, 99], [114, 111, 108], [114, 111, 114], [115, 104, 108], [115, 104, 114], [115, 97, 114], [108, 101, 97], [109, 111, 118, 122, 120], [109, 111, 118, 115, 120], [120, 99, 104, 103], [112, 117, 115, 104], [112, 111, 112], [99, 97, 108, 108], [106, 109, 112], [106, 99, 99], [114, 101, 116], [115, 101, 116, 99, 99], [99, 109, 111, 118], [110, 111, 112], [104, 108, 116], [99, 119, 105, 100, 101], [99, 115, 105, 103, 110], [115, 116, 111, 115], [109, 111, 118, 115], [115, 121, 115, 99, 97, 108, 108], [105, 110, 116]]
def condsL : List (List UInt8) := [[111], [110, 111], [98], [97, 101], [101], [110, 101], [98, 101], [97], [115], [110, 115], [112], [110, 112], [108], [103, 101], [108, 101], [103]]
def regs1 : List (List UInt8) := [[97, 108], [99, 108], [100, 108], [98, 108], [115, 112, 108], [98, 112, 108], [115, 105, 108], [100, 105, 108], [114, 56, 98], [114, 57, 98], [114, 49, 48, 98], [114, 49, 49, 98], [114, 49, 50, 98], [114, 49, 51, 98], [114, 49, 52, 98], [114, 49, 53, 98], [97, 104], [99, 104], [100, 104], [98, 104]]
def regs2 : List (List UInt8) := [[97, 120], [99, 120], [100, 120], [98, 120], [115, 112], [98, 112], [115, 105], [100, 105], [114, 56, 119], [114, 57, 119], [114, 49, 48, 119], [114, 49, 49, 119], [114, 49, 50, 119], [114, 49, 51, 119], [114, 49, 52, 119], [114, 49, 53, 119]]
def regs4 : List (List UInt8) := [[101, 97, 120], [101, 99, 120], [101, 100, 120], [101, 98, 120], [101, 115, 112], [101, 98, 112], [101, 115, 105], [101, 100, 105], [114, 56, 100], [114, 57, 100], [114, 49, 48, 100], [114, 49, 49, 100], [114, 49, 50, 100], [114, 49, 51, 100], [114, 49, 52, 100], [114, 49, 53, 100]]
def regs8 : List (List UInt8) := [[114, 97, 120], [114, 99, 120], [114, 100, 120], [114, 98, 120], [114, 115, 112], [114, 98, 112], [114, 115, 105], [114, 100, 105], [114, 56], [114, 57], [114, 49, 48], [114, 49, 49], [114, 49, 50], [114, 49, 51], [114, 49, 52], [114, 49, 53]]
/-- the i-th name of a list -/
def nm (l : List (List UInt8)) (i : Nat) : ByteArray := ⟨(l.getD i []).toArray⟩
/-- the list as cells -/
def nmV (l : List (List UInt8)) : Array Value := (l.map fun b => Value.string ⟨b.toArray⟩).toArray
theorem nmV_at (l : List (List UInt8)) (i : Nat) (hi : i < l.length) : (nmV l)[i]? = some (.string (nm l i)) := by
  simp only [nmV, nm, List.getElem?_toArray, List.getElem?_map, List.getD_eq_getElem?_getD]
  rw [List.getElem?_eq_getElem hi]; rfl
theorem nmV_size (l : List (List UInt8)) : (nmV l).size = l.length := by simp [nmV]
theorem nm_get (l : List (List UInt8)) (i : Nat) (h : i < (l.map fun b => Value.string ⟨b.toArray⟩).length) : (l.map fun b => Value.string ⟨b.toArray⟩)[i] = .string (nm l i) := by
  have hl : i < l.length := by simpa using h
  simp only [List.getElem_map, nm, List.getD_eq_getElem?_getD]
  rw [List.getElem?_eq_getElem hl]; rfl
/-- r is the first place of s among the names of l, or -1 -/
def IsAt (l : List (List UInt8)) (s : ByteArray) (r : Int) : Prop := (∃ k : Nat, k < l.length ∧ r = k ∧ (nm l k).toList = s.toList ∧ ∀ j, j < k → (nm l j).toList ≠ s.toList) ∨ (r = -1 ∧ ∀ j, j < l.length → (nm l j).toList ≠ s.toList)
theorem IsAt.one {l : List (List UInt8)} {s : ByteArray} {r r' : Int} (h : IsAt l s r) (h' : IsAt l s r') : r = r' := by
  rcases h with ⟨k, hk, rfl, e, n⟩ | ⟨rfl, n⟩
  · rcases h' with ⟨k', hk', rfl, e', n'⟩ | ⟨rfl, n'⟩
    · rcases Nat.lt_trichotomy k k' with h | h | h
      · exact absurd e (n' k h)
      · rw [h]
      · exact absurd e' (n k' h)
    · exact absurd e (n' k hk)
  · rcases h' with ⟨k', hk', rfl, e', n'⟩ | ⟨rfl, n'⟩
    · exact absurd e' (n k' hk')
    · rfl
theorem IsAt.hit {l : List (List UInt8)} {s : ByteArray} {k : Nat} (h : k < l.length) (e : (nm l k).toList = s.toList) (n : ∀ j, j < k → (nm l j).toList ≠ s.toList) : IsAt l s k := .inl ⟨k, h, rfl, e, n⟩
theorem IsAt.miss {l : List (List UInt8)} {s : ByteArray} (n : ∀ j, j < l.length → (nm l j).toList ≠ s.toList) : IsAt l s (-1) := .inr ⟨rfl, n⟩
theorem IsAt.range {l : List (List UInt8)} {s : ByteArray} {r : Int} (h : IsAt l s r) : -1 ≤ r ∧ r < l.length := by
  rcases h with ⟨k, hk, rfl, _⟩ | ⟨rfl, _⟩ <;> omega
theorem nm_next {l : List (List UInt8)} {s : ByteArray} {k : Nat} (h : ∀ j, j < k → (nm l j).toList ≠ s.toList) (h2 : ((nm l k).toList == s.toList) = false) : ∀ j, j < k + 1 → (nm l j).toList ≠ s.toList := by
  intro j hj
  by_cases e : j = k
  · subst e; exact ne_of_beq_false h2
  · exact h j (by omega)
/-- no name of these lists is longer than five bytes -/
theorem nm_short {l : List (List UInt8)} {s : ByteArray} (n : Nat) (h : ∀ b ∈ l, b.length ≤ n) (hs : n < s.size) : ∀ j, j < l.length → (nm l j).toList ≠ s.toList := by
  intro j hj e
  have h1 := h l[j] (List.getElem_mem hj)
  have h2 : (nm l j).size = (l[j]).length := by
    simp only [nm, List.getD_eq_getElem?_getD, List.getElem?_eq_getElem hj, Option.getD_some]
    simp [ByteArray.size]
  have h3 : (nm l j).size = s.size := by
    have := congrArg List.length e
    rw [ByteArray.toList_eq, ByteArray.toList_eq] at this
    have h4 : (nm l j).data.size = s.data.size := by rw [← Array.length_toList, ← Array.length_toList]; exact this
    exact h4
  omega
end Go.Proofs.YtbkgmpkednkbcaaGreatDoor
namespace Go.Proofs.YtbkgmpkednkbcaaGreatDoor
open Go.RowKit
theorem cells_of_tabS {H : Type} {enc : TypeId × Value → H} {P : Program} {w : World} {base : Nat} {sp : Nat → Bool} {held : Bool} {fuel : Nat} {t e : TypeId} {n : Nat} {cs : List Value} {ls : List (List UInt8)} {p : List MemPlace}
    (ht : P.underlying t = some (.array n e)) (he : P.underlying e = some .string) (hce : P.cellsOf e = 1)
    (h : DataW.trod enc P w base sp held fuel t cs = some (.agg (ls.map fun l => .lit (.string l)), p)) (i : Nat) (hi : i < n) : cs[i]? = some (.string (nm ls i)) := by
  obtain ⟨xs, m, _, hx, _, hn, hel⟩ := DataW.trod_array ht h
  have h1 := hel i hi
  rw [hce] at h1
  have hxi : xs[i]? = some xs[i] := List.getElem?_eq_getElem (by omega)
  rw [hxi] at h1
  obtain ⟨s, e1, e2, _⟩ := DataW.trod_string he h1
  have h2 := congrArg Prod.fst hx
  simp only [DataW.agg.injEq] at h2
  have h3 : (xs.map (·.1))[i]? = some (DataW.lit (.string s.data.toList)) := by rw [List.getElem?_map, hxi, Option.map_some, e2]
  rw [← h2, List.getElem?_map, Option.map_eq_some_iff] at h3
  obtain ⟨l, hl, hl2⟩ := h3
  have hl3 : l = s.data.toList := by simpa using hl2
  have hc : cs[i]? = some (.string s) := by
    have := congrArg (·[0]?) e1
    simpa [List.getElem?_take, List.getElem?_drop] using this
  rw [hc, nm, List.getD_eq_getElem?_getD, hl, hl3]
  rfl
theorem var_block {P : Program} {W : World} {n : String} {g : Nat} {cs : Array Value} (hg : P.globalNamed n = some g) (h : W.var? P n = some cs) : ∃ t fr, W.heap[g]? = some (.cells cs t fr) := by
  unfold World.var? at h
  rw [hg] at h
  simp only [Option.bind_some] at h
  split at h
  · rename_i c t fr hh
    exact ⟨t, fr, by rw [hh, Option.some.inj h]⟩
  · cases h
/-- a variable that is listed as a table of names holds these names -/
theorem names_block {P : Program} {W : World} {nam : String} {d : DataW Unit} {ls : List (List UInt8)} {g : Nat} {t e : TypeId} {n : Nat} (hg : P.globalNamed nam = some g) (hty : (P.globals[g]?).map (·.type) = some t) (ht : P.underlying t = some (.array n e)) (hct : P.cellsOf t = n) (he : P.underlying e = some .string) (hce : P.cellsOf e = 1) (hd : d = .agg (ls.map fun l => .lit (.string l))) (hln : ls.length = n) (hp : ([(nam, d)].all fun x => x.2.handleName?.isNone) = true) (h : laidMetH P [(nam, d)] W) : ∃ t fr, W.heap[g]? = some (.cells (nmV ls) t fr) := by
  rw [MakeChecks.laidMetH_plain _ _ _ hp] at h
  obtain ⟨ps, ⟨g', t', cs, fuel, p, q, hg', ht', hvar, hd', _, _⟩, _⟩ := h
  obtain rfl := Option.some.inj (hg.symm.trans hg')
  obtain rfl := Option.some.inj (hty.symm.trans ht')
  subst hd
  have hc := fun i hi => cells_of_tabS (ls := ls) ht he hce hd' i hi
  have hlen : cs.toList.length = n := by
    obtain ⟨xs, m, _, hx, hl, hn, hel⟩ := DataW.trod_array ht hd'
    rw [hl]; exact hct
  have e : cs = nmV ls := by
    have : cs.toList = (nmV ls).toList := by
      apply List.ext_getElem?
      intro i
      by_cases hi : i < n
      · rw [hc i hi]
        have := nmV_at ls i (by omega)
        rw [← Array.getElem?_toList] at this
        rw [this]
      · have h36 : (nmV ls).toList.length = n := by rw [Array.length_toList, nmV_size]; exact hln
        rw [List.getElem?_eq_none (by omega), List.getElem?_eq_none (by omega)]
    exact Array.ext' this
  subst e
  exact var_block hg hvar
theorem cStr : Tryz.prog.cellsOf 9 = 1 := by kernel_rfl
/-- block g holds the names ls -/
def Nms (W : World) (g : Nat) (ls : List (List UInt8)) : Prop := ∃ t fr, W.heap[g]? = some (.cells (nmV ls) t fr)
theorem Nms.lt {W : World} {g : Nat} {ls : List (List UInt8)} (h : Nms W g ls) : g < W.heap.size := by
  obtain ⟨t, fr, h⟩ := h
  rcases Nat.lt_or_ge g W.heap.size with h' | h'
  · exact h'
  · rw [Array.getElem?_eq_none h'] at h; cases h
theorem Nms.below {W W' : World} {g : Nat} {ls : List (List UInt8)} (h : Nms W g ls) (hb : Below W.heap.size W W') : Nms W' g ls := by
  have hl := h.lt
  obtain ⟨t, fr, h⟩ := h
  exact ⟨t, fr, (hb.block _ hl).trans h⟩
theorem Nms.cell {W : World} {g : Nat} {ls : List (List UInt8)} (h : Nms W g ls) (i : Nat) (hi : i < ls.length) : W.cell? ⟨g, i, none⟩ = some (.string (nm ls i)) := by
  obtain ⟨t, fr, h⟩ := h
  rw [cell_of_row W g i _ t fr h]; exact nmV_at ls i hi
set_option maxHeartbeats 400000 in
set_option maxHeartbeats 400000 in
theorem ret_str {a b : ByteArray} (h : a = b) : Ending.returned (.string a) = .returned (.string b) := by rw [h]
end Go.Proofs.YtbkgmpkednkbcaaGreatDoor
namespace Go.Proofs.YtbkgmpkednkbcaaGreatDoor
open Go.RowKit
theorem ret_int {a b : Int} (h : a = b) : Ending.returned (.int .i64 a) = .returned (.int .i64 b) := by rw [h]
/-- a search in the names l that answers the place of s, or -1 -/
def AtOut (l : List (List UInt8)) (s : ByteArray) (d : Int) (w : World) (e : Ending) (w' : World) : Prop := ∃ r : Int, IsAt l s r ∧ e = .returned (.int .i64 (r + d)) ∧ Below w.heap.size w w'
theorem nmV_hid (l : List (List UInt8)) : ∃ V, V = nmV l := ⟨_, rfl⟩
end Go.Proofs.YtbkgmpkednkbcaaGreatDoor
namespace Go.Proofs.YtbkgmpkednkbcaaGreatDoor.Dg
open Go.RowKit
def dig (d : Nat) : UInt8 := UInt8.ofNat (48 + d)
theorem dig_val {d : Nat} (h : d < 10) : ((dig d).toNat : Int) = 48 + d := by
  unfold dig
  rw [UInt8.toNat_ofNat']; omega
/-- a slice of one byte as a text -/
theorem str1 (w : World) (g : Nat) (b : UInt8) (h : w.cell? ⟨g, 0, none⟩ = some (.int .u8 (b.toNat : Int))) :
    (convert 115 9 (.slice (some ⟨g, 0, none⟩) 1 1)).run Tryz.prog w = .ok (.string ⟨#[b]⟩) w :=
  run_convert_bytes_back w _ _ 5 ⟨g, 0, none⟩ 1 [b] Tryz.underlying115 Tryz.underlying5 Tryz.underlying9 fun j hj => by
    have : j = 0 := by simp at hj; omega
    subst this; exact h
theorem drew1 (w : World) : Below w.heap.size w w.drew := ⟨rfl, rfl, rfl, Nat.le_refl _, fun _ _ => rfl⟩
theorem bl1 {w w1 : World} {o : Obj} (hb : Below w.drew.heap.size w.drew w1) : Below w.heap.size w (w1.alloc o) :=
  have h := (drew1 w).trans (hb.mono (Nat.le_refl _))
  h.alloc h.size o
theorem bl2 {w w1 : World} {o : Obj} (hb : Below (w.alloc o).drew.heap.size (w.alloc o).drew w1) : Below w.heap.size w w1 :=
  have h := ((Below.refl w.heap.size w).alloc (Nat.le_refl _) o).trans ((drew1 (w.alloc o)).mono (by simp))
  h.trans (hb.mono h.size)
end Go.Proofs.YtbkgmpkednkbcaaGreatDoor.Dg
namespace Go.Proofs.YtbkgmpkednkbcaaGreatDoor
open Go.RowKit Dg
def base8 : List (List UInt8) := [[97, 120], [99, 120], [100, 120], [98, 120], [115, 112], [98, 112], [115, 105], [100, 105]]
def trn (s i : Nat) (l : List UInt8) : List UInt8 := if s = 8 then 114 :: l else if s = 4 then 101 :: l else if s = 1 then (if i < 4 then l.take 1 else l) ++ [108] else l
def part1 (s k : Nat) : List (List UInt8) := (List.range 8).map fun i => if i < k then trn s i (base8.getD i []) else base8.getD i []
def regsL (s : Nat) : List (List UInt8) := if s = 1 then regs1 else if s = 2 then regs2 else if s = 4 then regs4 else regs8
def NV (l : List (List UInt8)) : List Value := l.map fun b => Value.string ⟨b.toArray⟩
theorem nmV_NV (l : List (List UInt8)) : nmV l = (NV l).toArray := rfl
theorem NV_len (l : List (List UInt8)) : (NV l).length = l.length := by simp [NV]
theorem NV_one (l : List (List UInt8)) : ∀ u ∈ NV l, u.oneCell' = true := by
  intro u hu; simp only [NV, List.mem_map] at hu; obtain ⟨b, _, rfl⟩ := hu; rfl
theorem NV_app (a b : List (List UInt8)) : NV a ++ NV b = NV (a ++ b) := by simp [NV]
theorem step8 : ∀ k, k < 8 → (nmV (part1 8 k)).setIfInBounds k (.string (⟨#[114]⟩ ++ nm (part1 8 k) k)) = nmV (part1 8 (k + 1))
  | 0, _ => by rfl | 1, _ => by rfl | 2, _ => by rfl | 3, _ => by rfl | 4, _ => by rfl | 5, _ => by rfl | 6, _ => by rfl | 7, _ => by rfl
  | n + 8, h => by omega
theorem step4 : ∀ k, k < 8 → (nmV (part1 4 k)).setIfInBounds k (.string (⟨#[101]⟩ ++ nm (part1 4 k) k)) = nmV (part1 4 (k + 1))
  | 0, _ => by rfl | 1, _ => by rfl | 2, _ => by rfl | 3, _ => by rfl | 4, _ => by rfl | 5, _ => by rfl | 6, _ => by rfl | 7, _ => by rfl
  | n + 8, h => by omega
theorem step2 : ∀ k, k < 8 → nmV (part1 2 k) = nmV (part1 2 (k + 1))
  | 0, _ => by rfl | 1, _ => by rfl | 2, _ => by rfl | 3, _ => by rfl | 4, _ => by rfl | 5, _ => by rfl | 6, _ => by rfl | 7, _ => by rfl
  | n + 8, h => by omega
theorem done1 (s : Nat) (h : s = 1 ∨ s = 2 ∨ s = 4 ∨ s = 8) : nmV (part1 s 8) = nmV ((regsL s).take 8) := by
  rcases h with rfl | rfl | rfl | rfl <;> rfl
-- the four sizes
theorem part_at (s : Nat) : ∀ k, k < 8 → nm (part1 s k) k = nm base8 k
  | 0, _ => by rfl | 1, _ => by rfl | 2, _ => by rfl | 3, _ => by rfl | 4, _ => by rfl | 5, _ => by rfl | 6, _ => by rfl | 7, _ => by rfl
  | n + 8, h => by omega
theorem base_size : ∀ k, k < 8 → (nm base8 k).size = 2
  | 0, _ => by rfl | 1, _ => by rfl | 2, _ => by rfl | 3, _ => by rfl | 4, _ => by rfl | 5, _ => by rfl | 6, _ => by rfl | 7, _ => by rfl
  | n + 8, h => by omega
theorem part_size (s k : Nat) (h : k < 8) : (nm (part1 s k) k).size ≤ 2 := by rw [part_at s k h, base_size k h]; omega
theorem infoS : (Tryz.prog.info? 9).map (fun i => (i.zero, i.size, i.bytes)) = some (some (.string ⟨#[]⟩), 1, 16) := by kernel_rfl
def dgs (n : Nat) : ByteArray := if n < 10 then ⟨#[dig n]⟩ else ⟨#[dig 1, dig (n - 10)]⟩
theorem dgs_size (n : Nat) : (dgs n).size ≤ 2 := by unfold dgs; split <;> simp [ByteArray.size]
theorem own_belowR {w w' : World} {B e s n : Nat} {v : Value} {xs : List Value} (h : w.ownsRow B e s v n xs) (hb : Below w.heap.size w w') : w'.ownsRow B e s v n xs := by
  refine ⟨h.1, ?_⟩
  rcases h.2 with h' | ⟨g, cap, cur, e1, e2, e3, e4⟩
  · exact .inl h'
  · exact .inr ⟨g, cap, cur, e1, e2, (hb.block g (Array.getElem?_eq_some_iff.1 e3).1).trans e3, e4⟩
theorem newsS (w : World) (v : Value) (t : TypeId) (j : Nat) (u : Value) (h : [v][j]? = some u) :
    (w.alloc (.cells #[v] t)).cell? ((⟨w.heap.size, 0, none⟩ : Addr).add j) = some u :=
  World.news_of_block (w := w.alloc (.cells #[v] t)) (heap_alloc_new w _) j u (by simpa using h)
theorem oneS (x : ByteArray) : ∀ u ∈ [Value.string x], u.oneCell' = true := by
  intro u hu; simp at hu; subst hu; rfl
/-- the registers' names in memory of the call's own -/
def RegRow (s : Nat) (w w' : World) (e : Ending) : Prop := ∃ g cap, e = .returned (.slice (some ⟨g, 0, none⟩) (regsL s).length cap) ∧ w'.ownsRow w.heap.size 9 1 (.slice (some ⟨g, 0, none⟩) (regsL s).length cap) (regsL s).length (NV (regsL s)) ∧ Below w.heap.size w w'
theorem name8 : ∀ j, j < 8 → NV ((regsL 8).take (8 + j)) ++ [Value.string (⟨#[114]⟩ ++ dgs (8 + j) ++ ⟨#[]⟩)] = NV ((regsL 8).take (8 + (j + 1)))
  | 0, _ => by rfl
  | 1, _ => by rfl
  | 2, _ => by rfl
  | 3, _ => by rfl
  | 4, _ => by rfl
  | 5, _ => by rfl
  | 6, _ => by rfl
  | 7, _ => by rfl
  | n + 8, h => by omega
theorem name4 : ∀ j, j < 8 → NV ((regsL 4).take (8 + j)) ++ [Value.string (⟨#[114]⟩ ++ dgs (8 + j) ++ ⟨#[100]⟩)] = NV ((regsL 4).take (8 + (j + 1)))
  | 0, _ => by rfl
  | 1, _ => by rfl
  | 2, _ => by rfl
  | 3, _ => by rfl
  | 4, _ => by rfl
  | 5, _ => by rfl
  | 6, _ => by rfl
  | 7, _ => by rfl
  | n + 8, h => by omega
theorem name2 : ∀ j, j < 8 → NV ((regsL 2).take (8 + j)) ++ [Value.string (⟨#[114]⟩ ++ dgs (8 + j) ++ ⟨#[119]⟩)] = NV ((regsL 2).take (8 + (j + 1)))
  | 0, _ => by rfl
  | 1, _ => by rfl
  | 2, _ => by rfl
  | 3, _ => by rfl
  | 4, _ => by rfl
  | 5, _ => by rfl
  | 6, _ => by rfl
  | 7, _ => by rfl
  | n + 8, h => by omega
theorem name1 : ∀ j, j < 8 → NV ((regsL 1).take (8 + j)) ++ [Value.string (⟨#[114]⟩ ++ dgs (8 + j) ++ ⟨#[98]⟩)] = NV ((regsL 1).take (8 + (j + 1)))
  | 0, _ => by rfl
  | 1, _ => by rfl
  | 2, _ => by rfl
  | 3, _ => by rfl
  | 4, _ => by rfl
  | 5, _ => by rfl
  | 6, _ => by rfl
  | 7, _ => by rfl
  | n + 8, h => by omega
theorem step1a : ∀ k, k < 4 → ((nmV (part1 1 k)).setIfInBounds k (.string ((nm (part1 1 k) k).extract 0 1))).setIfInBounds k (.string (((nm (part1 1 k) k).extract 0 1) ++ ⟨#[108]⟩)) = nmV (part1 1 (k + 1))
  | 0, _ => by kernel_rfl | 1, _ => by kernel_rfl | 2, _ => by kernel_rfl | 3, _ => by kernel_rfl
  | n + 4, h => by omega
theorem step1b : ∀ k, k < 8 → 4 ≤ k → (nmV (part1 1 k)).setIfInBounds k (.string (nm (part1 1 k) k ++ ⟨#[108]⟩)) = nmV (part1 1 (k + 1))
  | 4, _, _ => by rfl | 5, _, _ => by rfl | 6, _, _ => by rfl | 7, _, _ => by rfl
  | 0, _, h => by omega | 1, _, h => by omega | 2, _, h => by omega | 3, _, h => by omega
  | n + 8, h, _ => by omega
theorem cellSameR {w : World} {a : Addr} {u : Value} (h : w.cell? a = some u) (v : Value) : (w.setCell a v).cell? a = some v := by apply World.cell?_setCell_same; exact h
theorem newsN (w : World) (l : List (List UInt8)) (t : TypeId) (j : Nat) (u : Value) (h : (NV l)[j]? = some u) :
    (w.alloc (.cells (NV l).toArray t)).cell? ((⟨w.heap.size, 0, none⟩ : Addr).add j) = some u :=
  World.news_of_block (w := w.alloc (.cells (NV l).toArray t)) (heap_alloc_new w _) j u (by simpa using h)
end Go.Proofs.YtbkgmpkednkbcaaGreatDoor
namespace Go.Proofs.YtbkgmpkednkbcaaGreatDoor
open Go.RowKit
def Size4 (s : Nat) : Prop := s = 1 ∨ s = 2 ∨ s = 4 ∨ s = 8
def NoSize (s : Int) : Prop := s ≠ 1 ∧ s ≠ 2 ∧ s ≠ 4 ∧ s ≠ 8
theorem own_nm {w : World} {B g n cap : Nat} {l : List (List UInt8)} (h : w.ownsRow B 9 1 (.slice (some ⟨g, 0, none⟩) n cap) n (NV l)) (k : Nat) (hk : k < l.length) : w.cell? ⟨g, k, none⟩ = some (.string (nm l k)) := by
  have hn : l.length = n := by have := h.1; rw [NV_len] at this; omega
  rw [h.cellAt k (by omega)]
  simp only [NV, List.getElem?_map, List.getElem?_eq_getElem hk, Option.map_some, nm, List.getD_eq_getElem?_getD, Option.getD_some]
theorem regs_len (s : Nat) : (regsL s).length ≤ 20 ∧ 16 ≤ (regsL s).length := by
  unfold regsL
  split
  · decide
  · split
    · decide
    · split <;> decide
end Go.Proofs.YtbkgmpkednkbcaaGreatDoor
namespace Go.Proofs.YtbkgmpkednkbcaaGreatDoor
open Go.RowKit
end Go.Proofs.YtbkgmpkednkbcaaGreatDoor
namespace Go.Proofs.YtbkgmpkednkbcaaGreatDoor
open Go.RowKit
/-- an operand: kind, register, base, index, scale, displacement, number -/
structure Opd where
  k : Int
  r : Int
  b : Int
  i : Int
  s : Int
  d : Int
  m : Int
  deriving DecidableEq
def opdL (x : Opd) : List Value := [.int .i64 x.k, .int .i64 x.r, .int .i64 x.b, .int .i64 x.i, .int .i64 x.s, .int .i64 x.d, .int .i64 x.m]
def noOpd : Opd := ⟨0, 0, 0, 0, 0, 0, 0⟩
def regOpd (n : Int) : Opd := ⟨1, n, 0, 0, 0, 0, 0⟩
def immOpd (n : Int) : Opd := ⟨3, 0, 0, 0, 0, 0, n⟩
def memOpd (b i s d : Int) : Opd := ⟨2, 0, b, i, s, d, 0⟩
/-- memory that an operand may be -/
def MemOk' (x : Opd) : Prop := x.r = 0 ∧ x.m = 0 ∧ (-1 ≤ x.b ∧ x.b ≤ 16) ∧ (-1 ≤ x.i ∧ x.i ≤ 15) ∧ x.i ≠ 4 ∧ (x.s = 1 ∨ x.s = 2 ∨ x.s = 4 ∨ x.s = 8) ∧ (-2147483648 ≤ x.d ∧ x.d ≤ 2147483647) ∧ (0 ≤ x.i ∨ x.s = 1) ∧ (x.b ≠ 16 ∨ x.i < 0)
instance (x : Opd) : Decidable (MemOk' x) := by unfold MemOk'; infer_instance
/-- the highest register of a size -/
def topReg (z : Int) : Int := if z = 1 then 19 else 15
/-- what an operand of a size may be -/
def OpdOk (x : Opd) (z : Int) : Prop := (z = 1 ∨ z = 2 ∨ z = 4 ∨ z = 8) ∧
  if x.k = 1 then x = regOpd x.r ∧ 0 ≤ x.r ∧ x.r ≤ topReg z else if x.k = 2 then MemOk' x else if x.k = 3 then x = immOpd x.m else x = noOpd
instance (x : Opd) (z : Int) : Decidable (OpdOk x z) := by unfold OpdOk; infer_instance
def opdB (x : Opd) (z : Int) : Bool := decide (OpdOk x z)
theorem opd_beq (x y : Opd) : (x.k == y.k && (x.r == y.r && (x.b == y.b && (x.i == y.i && (x.s == y.s && (x.d == y.d && x.m == y.m)))))) = decide (x = y) := by
  obtain ⟨a0, a1, a2, a3, a4, a5, a6⟩ := x
  obtain ⟨b0, b1, b2, b3, b4, b5, b6⟩ := y
  simp only [Opd.mk.injEq]
  by_cases h0 : a0 = b0 <;> by_cases h1 : a1 = b1 <;> by_cases h2 : a2 = b2 <;> by_cases h3 : a3 = b3 <;> by_cases h4 : a4 = b4 <;> by_cases h5 : a5 = b5 <;> by_cases h6 : a6 = b6 <;> simp [h0, h1, h2, h3, h4, h5, h6]
end Go.Proofs.YtbkgmpkednkbcaaGreatDoor
namespace Go.Proofs.YtbkgmpkednkbcaaGreatDoor
open Go.RowKit
/-- an instruction's cells -/
def insA (op sz cd fr : Int) (d s : Opd) (ln : Int) : Array Value := #[.int .i64 op, .int .i64 sz, .int .i64 cd, .int .i64 fr,
  .int .i64 d.k, .int .i64 d.r, .int .i64 d.b, .int .i64 d.i, .int .i64 d.s, .int .i64 d.d, .int .i64 d.m, .int .i64 s.k, .int .i64 s.r, .int .i64 s.b, .int .i64 s.i, .int .i64 s.s, .int .i64 s.d, .int .i64 s.m, .int .i64 ln]
def zIns : Array Value := insA 0 0 0 0 noOpd noOpd 0
theorem ins_one (op sz cd fr : Int) (d s : Opd) (ln : Int) : (insA op sz cd fr d s ln).all (·.oneCell') = true := by kernel_rfl
/-- an instruction -/
structure Ins where
  op : Int
  sz : Int
  cd : Int
  fr : Int
  d : Opd
  s : Opd
  ln : Int
def insV (x : Ins) : Array Value := insA x.op x.sz x.cd x.fr x.d x.s x.ln
theorem insV_one (x : Ins) : (insV x).all (·.oneCell') = true := ins_one _ _ _ _ _ _ _
theorem insV_size (x : Ins) : (insV x).size = 19 := rfl
end Go.Proofs.YtbkgmpkednkbcaaGreatDoor
namespace Go.Proofs.YtbkgmpkednkbcaaGreatDoor
open Go.RowKit Go.Extern.Stop Go.Stop Go.Extern
def byteOf (X k : Nat) : UInt8 := UInt8.ofNat (X / 2 ^ (8 * k) % 256)
def leB (X n : Nat) : List UInt8 := (List.range n).map (byteOf X)
theorem byteOf_nat (X k : Nat) : (byteOf X k).toNat = X / 2 ^ (8 * k) % 256 := by
  unfold byteOf; rw [UInt8.toNat_ofNat']; omega
theorem leB_snoc (X k : Nat) : leB X k ++ [byteOf X k] = leB X (k + 1) := by simp [leB, List.range_succ]
theorem pByte (X k : Nat) : IntKind.u8.wrap ((X : Int) / 2 ^ (8 * k)) = ((byteOf X k).toNat : Int) := by
  rw [byteOf_nat, ← cast_dp, IntKind.wrap_u8]; omega
theorem pByte' (X k : Nat) : ((X : Int) / 2 ^ (8 * k)) % 256 = ((byteOf X k).toNat : Int) := by
  rw [byteOf_nat, ← cast_dp]; omega
theorem iByte {v : Int} {X k : Nat} (hX : IntKind.u64.wrap v = (X : Int)) (hk : k < 8) : (v / 2 ^ (8 * k)) % 256 = ((byteOf X k).toNat : Int) := by
  rw [← pByte']
  rw [wrapU] at hX
  obtain ⟨c, hc⟩ : ∃ c : Int, v = X + 18446744073709551616 * c := ⟨v / 18446744073709551616, by omega⟩
  have hp : (0 : Int) < 2 ^ (8 * k) := Int.pow_pos (by decide)
  have e : (18446744073709551616 : Int) = 2 ^ (8 * k) * (256 * 2 ^ (56 - 8 * k)) := by
    have : (256 : Int) = 2 ^ 8 := by decide
    rw [this, ← Int.pow_add, ← Int.pow_add, show 8 * k + (8 + (56 - 8 * k)) = 64 from by omega]; decide
  rw [hc, e, Int.mul_assoc, Int.add_mul_ediv_left _ _ (by omega), Int.mul_assoc]
  generalize (2 : Int) ^ (56 - 8 * k) * c = q
  omega
theorem iByte2 {v : Int} {X k : Nat} (hX : IntKind.u64.wrap v = (X : Int)) (hk : k < 8) : IntKind.u8.wrap (v / 2 ^ (8 * k)) = ((byteOf X k).toNat : Int) := by
  rw [IntKind.wrap_u8]; exact iByte hX hk
/-- the row while it is filled: k bytes, then noughts -/
def fillL (X n k : Nat) : List UInt8 := (List.range n).map fun j => if j < k then byteOf X j else 0
theorem fill_zero (X n : Nat) : BV (fillL X n 0) = (madeCells (Value.int .u8 0).cells (n * 1)).toList := by
  simp [madeCells, BV, fillL, Value.cells, Nat.mod_one]
theorem fill_set (X n k : Nat) : (BV (fillL X n k)).set k (.int .u8 ((byteOf X k).toNat : Int)) = BV (fillL X n (k + 1)) := by
  unfold BV fillL
  apply List.ext_getElem?
  intro i
  simp only [List.getElem?_set, List.getElem?_map, List.length_map, List.length_range]
  by_cases hi : i < n
  · rw [List.getElem?_range hi]
    by_cases e : k = i
    · subst e; simp [hi]
    · simp [e]
      by_cases h : i < k
      · simp [h, show i < k + 1 from by omega]
      · simp [h, show ¬ i < k + 1 from by omega]
  · rw [List.getElem?_eq_none (by simpa using hi)]
    by_cases e : k = i
    · subst e; simp [hi]
    · simp [e]
theorem fill_all (X n : Nat) : fillL X n n = leB X n := by
  unfold fillL leB
  apply List.map_congr_left
  intro j hj
  rw [if_pos (by simpa using hj)]
set_option maxHeartbeats 400000 in
theorem checkYes (n : Int) (w : World) (h : okSize n) : Calls Tryz.prog 84 #[.int .i64 n] w fun e w' => e = .returned .nilIface ∧ w = w' := by
  rcases h with rfl | rfl | rfl | rfl
  all_goals
    go_enter Tryz.func84, Tryz.ntmps84
    go_wp2
    go_ret
    exact ⟨rfl, rfl⟩
set_option maxHeartbeats 400000 in
theorem checkNo (n : Int) (w : World) (aE aR : Addr) (hs : Sent w aE aR) (h : ¬ okSize n) : Calls Tryz.prog 84 #[.int .i64 n] w fun e w' => e = .returned (bErr sizeT n aR) ∧ w = w' := by
  have h1 : (n == 1) = false := beq_eq_false_iff_ne.mpr fun e => h (.inl e)
  have h2 : (n == 2) = false := beq_eq_false_iff_ne.mpr fun e => h (.inr (.inl e))
  have h4 : (n == 4) = false := beq_eq_false_iff_ne.mpr fun e => h (.inr (.inr (.inl e)))
  have h8 : (n == 8) = false := beq_eq_false_iff_ne.mpr fun e => h (.inr (.inr (.inr e)))
  have C := Lib.hid (noSizeC n w aE aR hs)
  clear h hs
  go_enter Tryz.func84, Tryz.ntmps84
  go_wp2_with (go_at_call 104; refine (C.out).mono ?_; rintro e w' ⟨rfl, rfl⟩)
  go_ret
  exact ⟨rfl, rfl⟩
theorem natSize {n : Int} (h : okSize n) : ∃ size : Nat, n = (size : Int) ∧ okSize (size : Int) := by
  obtain ⟨m, rfl⟩ := Int.eq_ofNat_of_zero_le (show 0 ≤ n by rcases h with h | h | h | h <;> omega)
  exact ⟨m, rfl, h⟩
end Go.Proofs.YtbkgmpkednkbcaaGreatDoor
namespace Go.Proofs.YtbkgmpkednkbcaaGreatDoor
open Go.RowKit Go.Extern.Stop Go.Stop Go.Extern
theorem ret_in {a b : Int} (h : a = b) : Ending.returned (.tuple #[.int .i64 a, .nilIface]) = .returned (.tuple #[.int .i64 b, .nilIface]) := by rw [h]
theorem cast_d8 (U k : Nat) : ((U / 2 ^ (8 * k) : Nat) : Int) = (U : Int) / 2 ^ (8 * k) := by simp
theorem take_w {s : ByteArray} {a n k : Nat} (h : k < n) (hn : n ≤ 8) : IntKind.u64.wrap (IntKind.u64.wrap (256 * ((takeN s a n : Int) / 2 ^ (8 * (k + 1)))) + (nb s (a + k) : Int)) = (takeN s a n : Int) / 2 ^ (8 * k) := by
  have h1 := takeN_step s a n k h
  have h2 : takeN s a n / 2 ^ (8 * k) ≤ takeN s a n := Nat.div_le_self _ _
  have h3 := lt64 (takeN_lt s a n) hn
  rw [← cast_d8, ← cast_d8]
  generalize takeN s a n / 2 ^ (8 * k) = x at *
  generalize takeN s a n / 2 ^ (8 * (k + 1)) = y at *
  rw [wrapU, wrapU]; omega
set_option maxHeartbeats 1000000 in
theorem specTakeL (s : ByteArray) (a size : Nat) (w : World) (hm : s.size ≤ 65536) (ha : a + size ≤ s.size) (hs8 : size ≤ 8) :
    Calls Tryz.prog 81 #[.string s, .int .i64 (a : Int), .int .i64 (size : Int)] w fun e w' => e = .returned (.int .i64 (wrap64 (takeN s a size : Int))) ∧ w = w' := by
  go_enter Tryz.func81, Tryz.ntmps81
  go_wp2
  go_loop [7, 8] (fun o i => ∃ k : Nat, k ≤ size ∧ i = .int .i64 ((k : Int) - 1) ∧ o = .int .u64 ((takeN s a size : Int) / 2 ^ (8 * k))) (fun _ i => (intOf i + 1).toNat)
  case atStart =>
    have e : takeN s a size / 2 ^ (8 * size) = 0 := Nat.div_eq_of_lt (takeN_lt s a size)
    exact ⟨size, Nat.le_refl _, rfl, by rw [← cast_d8, e] <;> rfl⟩
  case round =>
    obtain ⟨k, hk, rfl, rfl⟩ := hrel
    by_cases h0 : 1 ≤ k
    · obtain ⟨m, rfl⟩ : ∃ m, k = m + 1 := ⟨k - 1, by omega⟩
      have hst := take_w (s := s) (a := a) (show m < size by omega) hs8
      have e1 : ((m + 1 : Nat) : Int) - 1 = (m : Int) := by omega
      rw [e1]
      have hi1 : (a : Int) + (m : Int) < s.size := by omega
      have hi2 : ((a : Int) + (m : Int)).toNat = a + m := by omega
      have hi3 : a + m < s.size := by omega
      have hnb := nb_at s (a + m) hi3
      have hnl : (nb s (a + m) : Int) ≤ 255 := by have := nb_lt s (a + m); omega
      have HST := Lib.hid hst
      clear hst e1
      go_wp2
      go_round
      case rel => exact ⟨m, by omega, rfl, by rw [HST.out]⟩
      case measure => first | (simp [intOf]; done) | (simp [intOf]; omega)
    · obtain rfl : k = 0 := by omega
      go_wp2
      go_ret
      exact ⟨ret_i (by simp), rfl⟩
set_option maxHeartbeats 400000 in
theorem spanYes (s : ByteArray) (a size : Nat) (w : World) (hm : s.size ≤ 65536) (ha : a + size ≤ s.size) :
    Calls Tryz.prog 127 #[.string s, .int .i64 (a : Int), .int .i64 (size : Int)] w fun e w' => e = .returned .nilIface ∧ w = w' := by
  have h1 : decide ((s.size : Int) - (size : Int) < (a : Int)) = false := decide_eq_false (by omega)
  go_enter Tryz.func127, Tryz.ntmps127
  go_wp2
  go_ret
  exact ⟨rfl, rfl⟩
set_option maxHeartbeats 400000 in
theorem spanNo (s : ByteArray) (a n : Int) (w : World) (aE aR : Addr) (hs : Sent w aE aR) (hm : s.size ≤ 65536) (hn : okSize n) (ha : a < 0 ∨ (s.size : Int) < a + n) (hw : (Lit.int .i64 a).wf = true) :
    Calls Tryz.prog 127 #[.string s, .int .i64 a, .int .i64 n] w fun e w' => e = .returned (bErr placeT a aE) ∧ w = w' := by
  have hc := hs.cE
  have hb := bounds_i64 hw
  have hn0 : 1 ≤ n ∧ n ≤ 8 := by rcases hn with h | h | h | h <;> omega
  clear hs hw hn
  by_cases h0 : a < 0
  · clear ha hb
    go_enter Tryz.func127, Tryz.ntmps127
    go_wp2
    go_ret
    exact ⟨rfl, rfl⟩
  · have h1 : decide ((s.size : Int) - n < a) = true := decide_eq_true (by omega)
    have h2 : 0 ≤ a := by omega
    clear ha h0 hb
    obtain ⟨hn1, hn2⟩ := hn0
    go_enter Tryz.func127, Tryz.ntmps127
    go_wp2
    go_ret
    exact ⟨rfl, rfl⟩
set_option maxHeartbeats 1000000 in
theorem implTakeYes (s : ByteArray) (a size : Nat) (w : World) (hm : s.size ≤ 65536) (ha : a + size ≤ s.size) (hok : okSize (size : Int)) :
    Calls Tryz.prog 108 #[.string s, .int .i64 (a : Int), .int .i64 (size : Int)] w fun e w' => e = .returned (.tuple #[.int .i64 (wrap64 (takeN s a size : Int)), .nilIface]) ∧ w = w' := by
  have hs8 : size ≤ 8 := by rcases hok with h | h | h | h <;> omega
  have C := Lib.hid (checkYes (size : Int) w hok); have C2 := Lib.hid (spanYes s a size w hm ha)
  clear hok
  go_enter Tryz.func108, Tryz.ntmps108
  go_wp2_with (first | (go_at_call 84; refine (C.out).mono ?_; rintro e w' ⟨rfl, rfl⟩) | (go_at_call 127; refine (C2.out).mono ?_; rintro e w' ⟨rfl, rfl⟩))
  go_loop [10, 11, 25] (fun o _ i => ∃ (k : Nat) (x : Int), k ≤ size ∧ i = .int .i64 (k : Int) ∧ o = .int .i64 x ∧ Hid (x = wrap64 (takeN s a k : Int))) (fun _ _ i => size - (intOf i).toNat)
  case atStart => exact ⟨0, 0, by omega, rfl, rfl, Lib.hid (by simp [takeN, wrap64])⟩
  case round =>
    obtain ⟨k, x, hk, rfl, rfl, HXK⟩ := hrel
    by_cases hlt : k < size
    · have hlt2 : (k : Int) < size := by omega
      have hi1 : (a : Int) + (k : Int) < s.size := by omega
      have hi2 : ((a : Int) + (k : Int)).toNat = a + k := by omega
      have hi3 : a + k < s.size := by omega
      have hnb := nb_at s (a + k) hi3
      have hnl : (nb s (a + k) : Int) ≤ 255 := by have := nb_lt s (a + k); omega
      have hst := or_step s a k (by omega)
      rw [← HXK.out] at hst
      have HST := Lib.hid hst
      clear hst
      go_wp2
      go_round
      case rel => exact ⟨k + 1, _, by omega, by go_num, rfl, HST⟩
      case measure => first | (simp [intOf]; done) | (simp [intOf]; omega)
    · obtain rfl : k = size := by omega
      go_wp2
      go_ret2
      exact ⟨ret_in HXK.out, rfl⟩
set_option maxHeartbeats 400000 in
theorem implTakeNo1 (s : ByteArray) (a n : Int) (w : World) (aE aR : Addr) (hs : Sent w aE aR) (h : ¬ okSize n) :
    Calls Tryz.prog 108 #[.string s, .int .i64 a, .int .i64 n] w fun e w' => e = .returned (.tuple #[.int .i64 0, bErr sizeT n aR]) ∧ w = w' := by
  have C := Lib.hid (checkNo n w aE aR hs h)
  clear h hs
  unfold bErr at C
  go_enter Tryz.func108, Tryz.ntmps108
  go_wp2_with fail
  refine (C.out).mono ?_
  rintro e w' ⟨rfl, rfl⟩
  go_wp2
  go_ret2
  exact ⟨rfl, rfl⟩
set_option maxHeartbeats 400000 in
theorem implTakeNo2 (s : ByteArray) (a n : Int) (w : World) (aE aR : Addr) (hs : Sent w aE aR) (hm : s.size ≤ 65536) (hok : okSize n) (ha : a < 0 ∨ (s.size : Int) < a + n) (hw : (Lit.int .i64 a).wf = true) :
    Calls Tryz.prog 108 #[.string s, .int .i64 a, .int .i64 n] w fun e w' => e = .returned (.tuple #[.int .i64 0, bErr placeT a aE]) ∧ w = w' := by
  have C := Lib.hid (checkYes n w hok); have C2 := Lib.hid (spanNo s a n w aE aR hs hm hok ha hw)
  clear hok hs ha hw
  unfold bErr at C2
  go_enter Tryz.func108, Tryz.ntmps108
  go_wp2_with fail
  refine (C.out).mono ?_
  rintro e w' ⟨rfl, rfl⟩
  go_wp2_with fail
  refine (C2.out).mono ?_
  rintro e w' ⟨rfl, rfl⟩
  go_wp2
  go_ret2
  exact ⟨rfl, rfl⟩
/-- what both TakeLittle answer -/
def TakeOut (s : ByteArray) (a n : Int) (r c : Int) : Prop :=
  (65536 < s.size ∧ r = 0 ∧ c = 2) ∨ (s.size ≤ 65536 ∧ ¬ okSize n ∧ r = 0 ∧ c = 4) ∨ (s.size ≤ 65536 ∧ okSize n ∧ (a < 0 ∨ (s.size : Int) < a + n) ∧ r = 0 ∧ c = 9) ∨ (s.size ≤ 65536 ∧ okSize n ∧ 0 ≤ a ∧ a + n ≤ s.size ∧ r = wrap64 (takeN s a.toNat n.toNat : Int) ∧ c = 0)
theorem TakeOut.one {s : ByteArray} {a n r c r' c' : Int} (h : TakeOut s a n r c) (h' : TakeOut s a n r' c') : r = r' ∧ c = c' := by
  rcases h with ⟨h1, rfl, rfl⟩ | ⟨h1, h2, rfl, rfl⟩ | ⟨h1, h2, h3, rfl, rfl⟩ | ⟨h1, h2, h3, h4, rfl, rfl⟩ <;> rcases h' with ⟨g1, rfl, rfl⟩ | ⟨g1, g2, rfl, rfl⟩ | ⟨g1, g2, g3, rfl, rfl⟩ | ⟨g1, g2, g3, g4, rfl, rfl⟩ <;> first | exact ⟨rfl, rfl⟩ | omega | exact absurd h2 g2 | exact absurd g2 h2
def TakeEnd (s : ByteArray) (a n : Int) (w : World) (e : Ending) (w' : World) : Prop := ∃ r c : Int, TakeOut s a n r c ∧ e = .returned (.tuple #[.int .i64 r, .int .i64 c]) ∧ Below w.heap.size w w'
set_option maxHeartbeats 400000 in
theorem implTake (s : ByteArray) (a n : Int) (w : World) (aE aR : Addr) (hs : Sent w aE aR) (hm : s.size ≤ maxLen) (hw : (Lit.int .i64 a).wf = true) :
    Calls Tryz.prog 87 #[.string s, .int .i64 a, .int .i64 n] w (TakeEnd s a n w) := by
  unfold maxLen at hm
  by_cases hb : s.size ≤ 65536
  · by_cases hok : okSize n
    · by_cases ha : a < 0 ∨ (s.size : Int) < a + n
      · have HO := Lib.hid (show TakeOut s a n 0 9 from .inr (.inr (.inl ⟨hb, hok, ha, rfl, rfl⟩)))
        have C := Lib.hid (implTakeNo2 s a n w aE aR hs hb hok ha hw); have C2 := Lib.hid (codeEnd placeT a w aE aR hs)
        clear ha hok hs hw
        go_enter Tryz.func87, Tryz.ntmps87
        go_wp2_with (first | (go_at_call 108; refine (C.out).mono ?_; rintro e w' ⟨rfl, rfl⟩) | (go_at_call 85; refine (C2.out).mono ?_; rintro e w1 ⟨rfl, hbw⟩))
        go_ret2
        exact ⟨_, _, HO.out, rfl, hbw⟩
      · obtain ⟨size, rfl, hok'⟩ := natSize hok
        obtain ⟨k, rfl⟩ := Int.eq_ofNat_of_zero_le (show 0 ≤ a by omega)
        have HO := Lib.hid (show TakeOut s k size (wrap64 (takeN s k size : Int)) 0 from .inr (.inr (.inr ⟨hb, hok, by omega, by omega, by simp, rfl⟩)))
        have C := Lib.hid (implTakeYes s k size w hb (by omega) hok')
        clear ha hok hok' hs hw
        go_enter Tryz.func87, Tryz.ntmps87
        go_wp2_with (first | (go_at_call 108; refine (C.out).mono ?_; rintro e w' ⟨rfl, rfl⟩) | (go_at_call 85; refine (codeNil _).mono ?_; rintro e w' ⟨rfl, rfl⟩))
        go_ret2
        exact ⟨_, _, HO.out, rfl, Below.refl _ _⟩
    · have HO := Lib.hid (show TakeOut s a n 0 4 from .inr (.inl ⟨hb, hok, rfl, rfl⟩))
      have C := Lib.hid (implTakeNo1 s a n w aE aR hs hok); have C2 := Lib.hid (codeRange sizeT n w aE aR hs)
      clear hok hs hw
      go_enter Tryz.func87, Tryz.ntmps87
      go_wp2_with (first | (go_at_call 108; refine (C.out).mono ?_; rintro e w' ⟨rfl, rfl⟩) | (go_at_call 85; refine (C2.out).mono ?_; rintro e w1 ⟨rfl, hbw⟩))
      go_ret2
      exact ⟨_, _, HO.out, rfl, hbw⟩
  · have HO := Lib.hid (show TakeOut s a n 0 2 from .inl ⟨by omega, rfl, rfl⟩)
    clear hs hw
    go_enter Tryz.func87, Tryz.ntmps87
    go_wp2_with fail
    go_ret2
    exact ⟨_, _, HO.out, rfl, Below.refl _ _⟩
end Go.Proofs.YtbkgmpkednkbcaaGreatDoor
namespace Go.Proofs.YtbkgmpkednkbcaaGreatDoor
open Go.RowKit
theorem ret_bo {a b : Bool} (h : a = b) : Ending.returned (.bool a) = .returned (.bool b) := by rw [h]
/-- the sentinel of ranges -/
def SentR (w : World) (aR : Addr) : Prop := w.cell? ⟨1, 0, none⟩ = some (.iface 181 (.pointer (some aR)))
theorem SentR.below {w w' : World} {aR : Addr} (h : SentR w aR) (hb : Below w.heap.size w w') : SentR w' aR := (hb.cell (p := ⟨1, 0, none⟩) (lt_of_cell h)).trans h
theorem sentR_of_laid {W : World} {q : List (String × DataW Unit)} (hq : (q.filter fun x => x.1 == "loop.example/g00664/impl.errRange") = [("loop.example/g00664/impl.errRange", Rows.laid_loop_example_g00664_impl_errRange)]) (h : laidMetH Tryz.prog q W) : ∃ aR, SentR W aR := by
  have h1 := h.filter (fun x => x.1 == "loop.example/g00664/impl.errRange")
  rw [hq, MakeChecks.laidMetH_plain _ _ _ (by kernel_rfl)] at h1
  obtain ⟨a, s, hv, _, _, _⟩ := Go.laid_sentinel h1 gRange tRange Tryz.underlying105 rowES Tryz.underlying181 Tryz.underlying203 rfl rfl Tryz.underlying9 cES cStrE
  exact ⟨a, World.var?_cell gRange hv 0⟩
set_option maxHeartbeats 400000 in
theorem noSizeR (n : Int) (w : World) (aR : Addr) (h : SentR w aR) :
    Calls Tryz.prog 104 #[.int .i64 n] w fun e w' => e = .returned (bErr sizeT n aR) ∧ w = w' := by
  have h1 : w.cell? ⟨1, 0, none⟩ = some (.iface 181 (.pointer (some aR))) := h
  clear h
  go_enter Tryz.func104, Tryz.ntmps104
  go_wp2
  go_ret
  exact ⟨rfl, rfl⟩
set_option maxHeartbeats 400000 in
theorem checkNoR (n : Int) (w : World) (aR : Addr) (hs : SentR w aR) (h : ¬ okSize n) : Calls Tryz.prog 84 #[.int .i64 n] w fun e w' => e = .returned (bErr sizeT n aR) ∧ w = w' := by
  have h1 : (n == 1) = false := beq_eq_false_iff_ne.mpr fun e => h (.inl e)
  have h2 : (n == 2) = false := beq_eq_false_iff_ne.mpr fun e => h (.inr (.inl e))
  have h4 : (n == 4) = false := beq_eq_false_iff_ne.mpr fun e => h (.inr (.inr (.inl e)))
  have h8 : (n == 8) = false := beq_eq_false_iff_ne.mpr fun e => h (.inr (.inr (.inr e)))
  have C := Lib.hid (noSizeR n w aR hs)
  clear h hs
  go_enter Tryz.func84, Tryz.ntmps84
  go_wp2_with (go_at_call 104; refine (C.out).mono ?_; rintro e w' ⟨rfl, rfl⟩)
  go_ret
  exact ⟨rfl, rfl⟩
theorem size_conv {s : Nat} (h : Size4 s) : okSize (s : Int) := by unfold Size4 at h; unfold okSize; omega
theorem nm_full (s i : Nat) (h : Size4 s) (hi : i < (regsL s).length) : (nm (regsL s) i).toList.isEmpty = false := by
  rcases h with rfl | rfl | rfl | rfl
  · have : ∀ i, i < 20 → (nm regs1 i).toList.isEmpty = false := by decide +kernel
    exact this i hi
  · have : ∀ i, i < 16 → (nm regs2 i).toList.isEmpty = false := by decide +kernel
    exact this i hi
  · have : ∀ i, i < 16 → (nm regs4 i).toList.isEmpty = false := by decide +kernel
    exact this i hi
  · have : ∀ i, i < 16 → (nm regs8 i).toList.isEmpty = false := by decide +kernel
    exact this i hi
theorem regs8_len : (regsL 8).length = 16 := by decide
theorem regs_top (s : Nat) (h : Size4 s) : ((regsL s).length : Int) = topReg s + 1 := by
  rcases h with rfl | rfl | rfl | rfl <;> decide
theorem cut32 (v : Int) (w : World) :
    Calls Tryz.prog 113 #[.int .i64 v] w fun e w' => e = .returned (.int .i64 (wrap64 (wrap32 v))) ∧ w' = w := by
  go_enter Tryz.func113, Tryz.ntmps113
  go_wp2
  go_ret
  exact ⟨rfl, rfl⟩
theorem fits32 (v : Int) (w : World) :
    Calls Tryz.prog 93 #[.int .i64 v] w fun e w' => e = .returned (.bool (v == wrap64 (wrap32 v))) ∧ w' = w := by
  have C := Lib.hid (cut32 v)
  go_enter Tryz.func93, Tryz.ntmps93
  go_wp2_with fail
  refine (C.out _).mono ?_
  rintro e w' ⟨rfl, rfl⟩
  go_wp2
  go_ret
  exact ⟨rfl, rfl⟩
theorem cut32_iff (v : Int) : v = wrap64 (wrap32 v) ↔ (-2147483648 ≤ v ∧ v ≤ 2147483647) := by
  unfold wrap64 wrap32; omega
theorem memDec {x : Opd} {b : Bool} (h : MemOk' x ↔ b = true) : b = decide (MemOk' x) := by
  cases b <;> simp_all
end Go.Proofs.YtbkgmpkednkbcaaGreatDoor
namespace Go.Proofs.YtbkgmpkednkbcaaGreatDoor
open Go.RowKit
set_option linter.unusedVariables false
theorem okSize_iff (n : Int) : okSize n ↔ (n = 1 ∨ n = 2 ∨ n = 4 ∨ n = 8) := Iff.rfl
theorem noSize_of {n : Int} (h : ¬ okSize n) : NoSize n := by unfold okSize at h; unfold NoSize; omega
instance (n : Int) : Decidable (okSize n) := by unfold okSize; exact inferInstance
theorem cut8C (v : Int) (w : World) :
    Calls Tryz.prog 109 #[.int .i64 v] w fun e w' => e = .returned (.int .i64 (v % 256)) ∧ w = w' := by
  go_enter Tryz.func109, Tryz.ntmps109
  go_wp2
  go_ret
  exact ⟨rfl, rfl⟩
set_option maxHeartbeats 1000000 in
theorem getI (W : World) (b : Nat) (v x z : Int) (k : Nat) (hk : k < 16) (hc : W.cell? ⟨b, k, none⟩ = some (.int .i64 v)) (hU : ∀ w, Calls Tryz.prog 88 #[.int .i64 v, .int .i64 z] w fun e w' => e = .returned (.tuple #[.int .i64 x, .nilIface]) ∧ w = w') :
    Calls Tryz.prog 101 #[.pointer (some ⟨b, 0, none⟩), .int .i64 (k : Int), .int .i64 z] W fun e w' => e = .returned (.int .i64 x) ∧ W = w' := by
  have CU := Lib.hid hU
  have h0 : (0 : Int) ≤ (k : Int) := by omega
  have h1 : (k : Int) < 16 := by omega
  have h2 : ((k : Int)).toNat = k := by omega
  have h3 : decide ((16 : Int) ≤ k) = false := decide_eq_false (by omega)
  clear hU hk
  go_enter Tryz.func101, Tryz.ntmps101
  go_wp2_with fail
  refine (CU.out _).mono ?_
  rintro e w1 ⟨rfl, rfl⟩
  go_wp2
  go_ret
  exact ⟨rfl, rfl⟩
set_option maxHeartbeats 1000000 in
theorem getIH (W : World) (b : Nat) (v z : Int) (k : Nat) (hk : k < 4) (hc : W.cell? ⟨b, k, none⟩ = some (.int .i64 v)) :
    Calls Tryz.prog 101 #[.pointer (some ⟨b, 0, none⟩), .int .i64 ((k : Int) + 16), .int .i64 z] W fun e w' => e = .returned (.int .i64 (v / 256 % 256)) ∧ W = w' := by
  have CU := Lib.hid (cut8C (v / 256))
  have h0 : (0 : Int) ≤ (k : Int) := by omega
  have h1 : (k : Int) < 16 := by omega
  have h2 : ((k : Int)).toNat = k := by omega
  have h3 : decide ((16 : Int) ≤ (k : Int) + 16) = true := decide_eq_true (by omega)
  have h4 : wrap64 ((k : Int) + 16 - 16) = k := by unfold wrap64; omega
  clear hk
  go_enter Tryz.func101, Tryz.ntmps101
  go_wp2_with fail
  refine (CU.out _).mono ?_
  rintro e w1 ⟨rfl, rfl⟩
  go_wp2
  go_ret
  exact ⟨rfl, rfl⟩
theorem cpuBoxR (w : World) (c : Cp) (k : Nat) (hk : k < 16) : (w.alloc (.cells (cpV c) 31)).cell? ⟨w.heap.size, k, none⟩ = some (.int .i64 (c.rs k)) := (cell_of_row _ _ k _ _ _ (heap_alloc_new w _)).trans (cpV_at c k hk)
theorem inS (v lo hi : Int) (w : World) : Calls Tryz.prog 30 #[.int .i64 v, .int .i64 lo, .int .i64 hi] w fun e w' => e = .returned (.bool (decide (lo ≤ v ∧ v ≤ hi))) ∧ w = w' := by
  by_cases h : lo ≤ v ∧ v ≤ hi
  · rw [decide_eq_true h]; exact (inYes v lo hi w h.1 h.2).mono fun _ _ h => ⟨h.1, h.2.symm⟩
  · rw [decide_eq_false h]; exact (inNo v lo hi w (by omega)).mono fun _ _ h => ⟨h.1, h.2.symm⟩
end Go.Proofs.YtbkgmpkednkbcaaGreatDoor
