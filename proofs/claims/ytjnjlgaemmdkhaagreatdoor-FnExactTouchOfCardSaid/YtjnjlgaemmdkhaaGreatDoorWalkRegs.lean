/-
  What spec.l03Regs does for the sizes 1, 2, 4 and 8: it returns the names of the registers of that size in new memory, changing nothing that was there; no condition but those in each head.
  What impl.RegName, spec.RegName, impl.RegOf and spec.RegOf do: the name of a register of a size, and the register and size of a name, changing nothing that was there; condition: the program's four tables hold these names.
  The tables of registers out of what a row lists; no condition but those in each head.
-/
import Derived.Test.YtjnjlgaemmdkhaaGreatDoorWalkTab
import Derived.Test.YtjnjlgaemmdkhaaGreatDoorWalkDigits
import Derived.Deep.AppendLies
namespace Go.Proofs.YtjnjlgaemmdkhaaGreatDoor
open Go.RowKit Dg
def base8 : List (List UInt8) := [[97, 120], [99, 120], [100, 120], [98, 120], [115, 112], [98, 112], [115, 105], [100, 105]]
def trn (s i : Nat) (l : List UInt8) : List UInt8 := if s = 8 then 114 :: l else if s = 4 then 101 :: l else if s = 1 then (if i < 4 then l.take 1 else l) ++ [108] else l
def part1 (s k : Nat) : List (List UInt8) := (List.range 8).map fun i => if i < k then trn s i (base8.getD i []) else base8.getD i []
def regsL (s : Nat) : List (List UInt8) := if s = 1 then regs1 else if s = 2 then regs2 else if s = 4 then regs4 else regs8
def NV (l : List (List UInt8)) : List Value := l.map fun b => Value.string ⟨b.toArray⟩
theorem nmV_NV (l : List (List UInt8)) : nmV l = (NV l).toArray := rfl
theorem NV_len (l : List (List UInt8)) : (NV l).length = l.length := by simp [NV]
theorem NV_one (l : List (List UInt8)) : ∀ u ∈ NV l, u.oneCell' = true := by
  intro u hu; simp only [NV, List.mem_map] at hu; obtain ⟨b, _, rfl⟩ := hu; rfl
theorem NV_app (a b : List (List UInt8)) : NV a ++ NV b = NV (a ++ b) := by simp [NV]
theorem step8 : ∀ k, k < 8 → (nmV (part1 8 k)).setIfInBounds k (.string (⟨#[114]⟩ ++ nm (part1 8 k) k)) = nmV (part1 8 (k + 1))
  | 0, _ => by rfl | 1, _ => by rfl | 2, _ => by rfl | 3, _ => by rfl | 4, _ => by rfl | 5, _ => by rfl | 6, _ => by rfl | 7, _ => by rfl
  | n + 8, h => by omega
theorem step4 : ∀ k, k < 8 → (nmV (part1 4 k)).setIfInBounds k (.string (⟨#[101]⟩ ++ nm (part1 4 k) k)) = nmV (part1 4 (k + 1))
  | 0, _ => by rfl | 1, _ => by rfl | 2, _ => by rfl | 3, _ => by rfl | 4, _ => by rfl | 5, _ => by rfl | 6, _ => by rfl | 7, _ => by rfl
  | n + 8, h => by omega
theorem step2 : ∀ k, k < 8 → nmV (part1 2 k) = nmV (part1 2 (k + 1))
  | 0, _ => by rfl | 1, _ => by rfl | 2, _ => by rfl | 3, _ => by rfl | 4, _ => by rfl | 5, _ => by rfl | 6, _ => by rfl | 7, _ => by rfl
  | n + 8, h => by omega
theorem done1 (s : Nat) (h : s = 1 ∨ s = 2 ∨ s = 4 ∨ s = 8) : nmV (part1 s 8) = nmV ((regsL s).take 8) := by
  rcases h with rfl | rfl | rfl | rfl <;> rfl
-- the four sizes
theorem part_at (s : Nat) : ∀ k, k < 8 → nm (part1 s k) k = nm base8 k
  | 0, _ => by rfl | 1, _ => by rfl | 2, _ => by rfl | 3, _ => by rfl | 4, _ => by rfl | 5, _ => by rfl | 6, _ => by rfl | 7, _ => by rfl
  | n + 8, h => by omega
theorem base_size : ∀ k, k < 8 → (nm base8 k).size = 2
  | 0, _ => by rfl | 1, _ => by rfl | 2, _ => by rfl | 3, _ => by rfl | 4, _ => by rfl | 5, _ => by rfl | 6, _ => by rfl | 7, _ => by rfl
  | n + 8, h => by omega
theorem part_size (s k : Nat) (h : k < 8) : (nm (part1 s k) k).size ≤ 2 := by rw [part_at s k h, base_size k h]; omega
theorem infoS : (Tryz.prog.info? 9).map (fun i => (i.zero, i.size, i.bytes)) = some (some (.string ⟨#[]⟩), 1, 16) := by kernel_rfl
def dgs (n : Nat) : ByteArray := if n < 10 then ⟨#[dig n]⟩ else ⟨#[dig 1, dig (n - 10)]⟩
theorem dgs_size (n : Nat) : (dgs n).size ≤ 2 := by unfold dgs; split <;> simp [ByteArray.size]
theorem own_belowR {w w' : World} {B e s n : Nat} {v : Value} {xs : List Value} (h : w.ownsRow B e s v n xs) (hb : Below w.heap.size w w') : w'.ownsRow B e s v n xs := by
  refine ⟨h.1, ?_⟩
  rcases h.2 with h' | ⟨g, cap, cur, e1, e2, e3, e4⟩
  · exact .inl h'
  · exact .inr ⟨g, cap, cur, e1, e2, (hb.block g (Array.getElem?_eq_some_iff.1 e3).1).trans e3, e4⟩
theorem newsS (w : World) (v : Value) (t : TypeId) (j : Nat) (u : Value) (h : [v][j]? = some u) :
    (w.alloc (.cells #[v] t)).cell? ((⟨w.heap.size, 0, none⟩ : Addr).add j) = some u :=
  World.news_of_block (w := w.alloc (.cells #[v] t)) (heap_alloc_new w _) j u (by simpa using h)
theorem oneS (x : ByteArray) : ∀ u ∈ [Value.string x], u.oneCell' = true := by
  intro u hu; simp at hu; subst hu; rfl
/-- the registers' names in memory of the call's own -/
def RegRow (s : Nat) (w w' : World) (e : Ending) : Prop := ∃ g cap, e = .returned (.slice (some ⟨g, 0, none⟩) (regsL s).length cap) ∧ w'.ownsRow w.heap.size 9 1 (.slice (some ⟨g, 0, none⟩) (regsL s).length cap) (regsL s).length (NV (regsL s)) ∧ Below w.heap.size w w'
theorem name8 : ∀ j, j < 8 → NV ((regsL 8).take (8 + j)) ++ [Value.string (⟨#[114]⟩ ++ dgs (8 + j) ++ ⟨#[]⟩)] = NV ((regsL 8).take (8 + (j + 1)))
  | 0, _ => by rfl
  | 1, _ => by rfl
  | 2, _ => by rfl
  | 3, _ => by rfl
  | 4, _ => by rfl
  | 5, _ => by rfl
  | 6, _ => by rfl
  | 7, _ => by rfl
  | n + 8, h => by omega
theorem name4 : ∀ j, j < 8 → NV ((regsL 4).take (8 + j)) ++ [Value.string (⟨#[114]⟩ ++ dgs (8 + j) ++ ⟨#[100]⟩)] = NV ((regsL 4).take (8 + (j + 1)))
  | 0, _ => by rfl
  | 1, _ => by rfl
  | 2, _ => by rfl
  | 3, _ => by rfl
  | 4, _ => by rfl
  | 5, _ => by rfl
  | 6, _ => by rfl
  | 7, _ => by rfl
  | n + 8, h => by omega
theorem name2 : ∀ j, j < 8 → NV ((regsL 2).take (8 + j)) ++ [Value.string (⟨#[114]⟩ ++ dgs (8 + j) ++ ⟨#[119]⟩)] = NV ((regsL 2).take (8 + (j + 1)))
  | 0, _ => by rfl
  | 1, _ => by rfl
  | 2, _ => by rfl
  | 3, _ => by rfl
  | 4, _ => by rfl
  | 5, _ => by rfl
  | 6, _ => by rfl
  | 7, _ => by rfl
  | n + 8, h => by omega
theorem name1 : ∀ j, j < 8 → NV ((regsL 1).take (8 + j)) ++ [Value.string (⟨#[114]⟩ ++ dgs (8 + j) ++ ⟨#[98]⟩)] = NV ((regsL 1).take (8 + (j + 1)))
  | 0, _ => by rfl
  | 1, _ => by rfl
  | 2, _ => by rfl
  | 3, _ => by rfl
  | 4, _ => by rfl
  | 5, _ => by rfl
  | 6, _ => by rfl
  | 7, _ => by rfl
  | n + 8, h => by omega
theorem step1a : ∀ k, k < 4 → ((nmV (part1 1 k)).setIfInBounds k (.string ((nm (part1 1 k) k).extract 0 1))).setIfInBounds k (.string (((nm (part1 1 k) k).extract 0 1) ++ ⟨#[108]⟩)) = nmV (part1 1 (k + 1))
  | 0, _ => by kernel_rfl | 1, _ => by kernel_rfl | 2, _ => by kernel_rfl | 3, _ => by kernel_rfl
  | n + 4, h => by omega
theorem step1b : ∀ k, k < 8 → 4 ≤ k → (nmV (part1 1 k)).setIfInBounds k (.string (nm (part1 1 k) k ++ ⟨#[108]⟩)) = nmV (part1 1 (k + 1))
  | 4, _, _ => by rfl | 5, _, _ => by rfl | 6, _, _ => by rfl | 7, _, _ => by rfl
  | 0, _, h => by omega | 1, _, h => by omega | 2, _, h => by omega | 3, _, h => by omega
  | n + 8, h, _ => by omega
theorem cellSameR {w : World} {a : Addr} {u : Value} (h : w.cell? a = some u) (v : Value) : (w.setCell a v).cell? a = some v := by apply World.cell?_setCell_same; exact h
theorem newsN (w : World) (l : List (List UInt8)) (t : TypeId) (j : Nat) (u : Value) (h : (NV l)[j]? = some u) :
    (w.alloc (.cells (NV l).toArray t)).cell? ((⟨w.heap.size, 0, none⟩ : Addr).add j) = some u :=
  World.news_of_block (w := w.alloc (.cells (NV l).toArray t)) (heap_alloc_new w _) j u (by simpa using h)
end Go.Proofs.YtjnjlgaemmdkhaaGreatDoor
namespace Go.Proofs.YtjnjlgaemmdkhaaGreatDoor
open Go.RowKit
/-- the four tables of registers -/
def Regs (W : World) : Prop := Nms W 2 regs1 ∧ Nms W 3 regs2 ∧ Nms W 4 regs4 ∧ Nms W 5 regs8
theorem Regs.below {W W' : World} (h : Regs W) (hb : Below W.heap.size W W') : Regs W' := ⟨h.1.below hb, h.2.1.below hb, h.2.2.1.below hb, h.2.2.2.below hb⟩
def Size4 (s : Nat) : Prop := s = 1 ∨ s = 2 ∨ s = 4 ∨ s = 8
set_option maxHeartbeats 400000 in
theorem sizeYesC (s : Nat) (w : World) (h : Size4 s) : Calls Tryz.prog 42 #[.int .i64 (s : Int)] w fun e w' => e = .returned (.bool true) ∧ w = w' := by
  rcases h with rfl | rfl | rfl | rfl
  all_goals
    go_enter Tryz.func42, Tryz.ntmps42
    go_wp2
    go_ret
    exact ⟨rfl, rfl⟩
def NoSize (s : Int) : Prop := s ≠ 1 ∧ s ≠ 2 ∧ s ≠ 4 ∧ s ≠ 8
set_option maxHeartbeats 400000 in
theorem sizeNoC (s : Int) (w : World) (h : NoSize s) : Calls Tryz.prog 42 #[.int .i64 s] w fun e w' => e = .returned (.bool false) ∧ w = w' := by
  have e1 : (s == 1) = false := beq_eq_false_iff_ne.mpr h.1
  have e2 : (s == 2) = false := beq_eq_false_iff_ne.mpr h.2.1
  have e4 : (s == 4) = false := beq_eq_false_iff_ne.mpr h.2.2.1
  have e8 : (s == 8) = false := beq_eq_false_iff_ne.mpr h.2.2.2
  clear h
  go_enter Tryz.func42, Tryz.ntmps42
  go_wp2
  go_ret
  exact ⟨rfl, rfl⟩
theorem own_nm {w : World} {B g n cap : Nat} {l : List (List UInt8)} (h : w.ownsRow B 9 1 (.slice (some ⟨g, 0, none⟩) n cap) n (NV l)) (k : Nat) (hk : k < l.length) : w.cell? ⟨g, k, none⟩ = some (.string (nm l k)) := by
  have hn : l.length = n := by have := h.1; rw [NV_len] at this; omega
  rw [h.cellAt k (by omega)]
  simp only [NV, List.getElem?_map, List.getElem?_eq_getElem hk, Option.map_some, nm, List.getD_eq_getElem?_getD, Option.getD_some]
theorem regs_len (s : Nat) : (regsL s).length ≤ 20 ∧ 16 ≤ (regsL s).length := by
  unfold regsL
  split
  · decide
  · split
    · decide
    · split <;> decide
set_option maxHeartbeats 400000 in
theorem regNameI (s i : Nat) (w : World) (h : Size4 s) (hi : i < (regsL s).length) (hR : Regs w) :
    Calls Tryz.prog 84 #[.int .i64 (i : Int), .int .i64 (s : Int)] w fun e w' => e = .returned (.string (nm (regsL s) i)) ∧ w = w' := by
  have h0 : decide ((i : Int) < 0) = false := decide_eq_false (by omega)
  rcases h with rfl | rfl | rfl | rfl
  · have hc := (hR.1).cell i hi
    have hi2 : (i : Int) < 20 := by have : (regsL 1).length = 20 := rfl; omega
    clear hR hi
    go_enter Tryz.func84, Tryz.ntmps84
    go_wp2
    go_ret
    exact ⟨rfl, rfl⟩
  · have hc := (hR.2.1).cell i hi
    have hi2 : (i : Int) < 16 := by have : (regsL 2).length = 16 := rfl; omega
    clear hR hi
    go_enter Tryz.func84, Tryz.ntmps84
    go_wp2
    go_ret
    exact ⟨rfl, rfl⟩
  · have hc := (hR.2.2.1).cell i hi
    have hi2 : (i : Int) < 16 := by have : (regsL 4).length = 16 := rfl; omega
    clear hR hi
    go_enter Tryz.func84, Tryz.ntmps84
    go_wp2
    go_ret
    exact ⟨rfl, rfl⟩
  · have hc := (hR.2.2.2).cell i hi
    have hi2 : (i : Int) < 16 := by have : (regsL 8).length = 16 := rfl; omega
    clear hR hi
    go_enter Tryz.func84, Tryz.ntmps84
    go_wp2
    go_ret
    exact ⟨rfl, rfl⟩
theorem noneNeg (a : Int) (w : World) (s : Int) (h : a < 0) : Calls Tryz.prog 84 #[.int .i64 a, .int .i64 s] w fun e w' => e = .returned (.string ⟨#[]⟩) ∧ w = w' := by
  go_enter Tryz.func84, Tryz.ntmps84
  go_wp2
  go_ret
  exact ⟨rfl, rfl⟩
set_option maxHeartbeats 400000 in
theorem noneBig (s : Nat) (a : Int) (w : World) (h : Size4 s) (ha : ((regsL s).length : Int) ≤ a) :
    Calls Tryz.prog 84 #[.int .i64 a, .int .i64 (s : Int)] w fun e w' => e = .returned (.string ⟨#[]⟩) ∧ w = w' := by
  have hl := regs_len s
  have h0 : decide (a < 0) = false := decide_eq_false (by omega)
  rcases h with rfl | rfl | rfl | rfl
  · have h1 : decide (a < 20) = false := decide_eq_false (by have : (regsL 1).length = 20 := rfl; omega)
    clear ha hl
    go_enter Tryz.func84, Tryz.ntmps84
    go_wp2
    go_ret
    exact ⟨rfl, rfl⟩
  · have h1 : decide (a < 16) = false := decide_eq_false (by have : (regsL 2).length = 16 := rfl; omega)
    clear ha hl
    go_enter Tryz.func84, Tryz.ntmps84
    go_wp2
    go_ret
    exact ⟨rfl, rfl⟩
  · have h1 : decide (a < 16) = false := decide_eq_false (by have : (regsL 4).length = 16 := rfl; omega)
    clear ha hl
    go_enter Tryz.func84, Tryz.ntmps84
    go_wp2
    go_ret
    exact ⟨rfl, rfl⟩
  · have h1 : decide (a < 16) = false := decide_eq_false (by have : (regsL 8).length = 16 := rfl; omega)
    clear ha hl
    go_enter Tryz.func84, Tryz.ntmps84
    go_wp2
    go_ret
    exact ⟨rfl, rfl⟩
set_option maxHeartbeats 400000 in
theorem noneSize (a s : Int) (w : World) (h : NoSize s) :
    Calls Tryz.prog 84 #[.int .i64 a, .int .i64 s] w fun e w' => e = .returned (.string ⟨#[]⟩) ∧ w = w' := by
  have e1 : (s == 1) = false := beq_eq_false_iff_ne.mpr h.1
  have e2 : (s == 2) = false := beq_eq_false_iff_ne.mpr h.2.1
  have e4 : (s == 4) = false := beq_eq_false_iff_ne.mpr h.2.2.1
  have e8 : (s == 8) = false := beq_eq_false_iff_ne.mpr h.2.2.2
  clear h
  by_cases h0 : a < 0
  all_goals
    go_enter Tryz.func84, Tryz.ntmps84
    go_wp2
    go_ret
    exact ⟨rfl, rfl⟩
end Go.Proofs.YtjnjlgaemmdkhaaGreatDoor
namespace Go.Proofs.YtjnjlgaemmdkhaaGreatDoor
open Go.RowKit
theorem met_byteNames {W : World} {q : List (String × DataW Unit)} (hq : (q.filter fun x => x.1 == "loop.example/g00664/impl.byteNames") = [("loop.example/g00664/impl.byteNames", Rows.laid_loop_example_g00664_impl_byteNames)]) (h : laidMetH Tryz.prog q W) : Nms W 2 regs1 := by
  have h1 := h.filter (fun x => x.1 == "loop.example/g00664/impl.byteNames")
  rw [hq] at h1
  exact regs1Met rfl h1
theorem met_wordNames {W : World} {q : List (String × DataW Unit)} (hq : (q.filter fun x => x.1 == "loop.example/g00664/impl.wordNames") = [("loop.example/g00664/impl.wordNames", Rows.laid_loop_example_g00664_impl_wordNames)]) (h : laidMetH Tryz.prog q W) : Nms W 3 regs2 := by
  have h1 := h.filter (fun x => x.1 == "loop.example/g00664/impl.wordNames")
  rw [hq] at h1
  exact regs2Met rfl h1
theorem met_dwordNames {W : World} {q : List (String × DataW Unit)} (hq : (q.filter fun x => x.1 == "loop.example/g00664/impl.dwordNames") = [("loop.example/g00664/impl.dwordNames", Rows.laid_loop_example_g00664_impl_dwordNames)]) (h : laidMetH Tryz.prog q W) : Nms W 4 regs4 := by
  have h1 := h.filter (fun x => x.1 == "loop.example/g00664/impl.dwordNames")
  rw [hq] at h1
  exact regs4Met rfl h1
theorem met_qwordNames {W : World} {q : List (String × DataW Unit)} (hq : (q.filter fun x => x.1 == "loop.example/g00664/impl.qwordNames") = [("loop.example/g00664/impl.qwordNames", Rows.laid_loop_example_g00664_impl_qwordNames)]) (h : laidMetH Tryz.prog q W) : Nms W 5 regs8 := by
  have h1 := h.filter (fun x => x.1 == "loop.example/g00664/impl.qwordNames")
  rw [hq] at h1
  exact regs8Met rfl h1
theorem met_condNames {W : World} {q : List (String × DataW Unit)} (hq : (q.filter fun x => x.1 == "loop.example/g00664/impl.condNames") = [("loop.example/g00664/impl.condNames", Rows.laid_loop_example_g00664_impl_condNames)]) (h : laidMetH Tryz.prog q W) : Nms W 0 condsL := by
  have h1 := h.filter (fun x => x.1 == "loop.example/g00664/impl.condNames")
  rw [hq] at h1
  exact condsMet rfl h1
end Go.Proofs.YtjnjlgaemmdkhaaGreatDoor
