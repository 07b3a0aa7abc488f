/-
  What spec.l03Regs does for the sizes 1, 2, 4 and 8: it returns the names of the registers of that size in new memory, changing nothing that was there; no condition but those in each head.
-/
import Derived.Test.YtinjpobepcenfaaDoorWalkTab2
import Derived.Test.YtinjpobepcenfaaDoorWalkDigits
import Derived.Deep.AppendLies
namespace Go.Proofs.YtinjpobepcenfaaDoor
open Go.RowKit Dg
def base8 : List (List UInt8) := [[97, 120], [99, 120], [100, 120], [98, 120], [115, 112], [98, 112], [115, 105], [100, 105]]
def trn (s i : Nat) (l : List UInt8) : List UInt8 := if s = 8 then 114 :: l else if s = 4 then 101 :: l else if s = 1 then (if i < 4 then l.take 1 else l) ++ [108] else l
def part1 (s k : Nat) : List (List UInt8) := (List.range 8).map fun i => if i < k then trn s i (base8.getD i []) else base8.getD i []
def regsL (s : Nat) : List (List UInt8) := if s = 1 then regs1 else if s = 2 then regs2 else if s = 4 then regs4 else regs8
def NV (l : List (List UInt8)) : List Value := l.map fun b => Value.string ⟨b.toArray⟩
theorem nmV_NV (l : List (List UInt8)) : nmV l = (NV l).toArray := rfl
theorem NV_len (l : List (List UInt8)) : (NV l).length = l.length := by simp [NV]
theorem NV_one (l : List (List UInt8)) : ∀ u ∈ NV l, u.oneCell' = true := by
  intro u hu; simp only [NV, List.mem_map] at hu; obtain ⟨b, _, rfl⟩ := hu; rfl
theorem NV_app (a b : List (List UInt8)) : NV a ++ NV b = NV (a ++ b) := by simp [NV]
theorem step8 : ∀ k, k < 8 → (nmV (part1 8 k)).setIfInBounds k (.string (⟨#[114]⟩ ++ nm (part1 8 k) k)) = nmV (part1 8 (k + 1))
  | 0, _ => by rfl | 1, _ => by rfl | 2, _ => by rfl | 3, _ => by rfl | 4, _ => by rfl | 5, _ => by rfl | 6, _ => by rfl | 7, _ => by rfl
  | n + 8, h => by omega
theorem step4 : ∀ k, k < 8 → (nmV (part1 4 k)).setIfInBounds k (.string (⟨#[101]⟩ ++ nm (part1 4 k) k)) = nmV (part1 4 (k + 1))
  | 0, _ => by rfl | 1, _ => by rfl | 2, _ => by rfl | 3, _ => by rfl | 4, _ => by rfl | 5, _ => by rfl | 6, _ => by rfl | 7, _ => by rfl
  | n + 8, h => by omega
theorem step2 : ∀ k, k < 8 → nmV (part1 2 k) = nmV (part1 2 (k + 1))
  | 0, _ => by rfl | 1, _ => by rfl | 2, _ => by rfl | 3, _ => by rfl | 4, _ => by rfl | 5, _ => by rfl | 6, _ => by rfl | 7, _ => by rfl
  | n + 8, h => by omega
theorem done1 (s : Nat) (h : s = 1 ∨ s = 2 ∨ s = 4 ∨ s = 8) : nmV (part1 s 8) = nmV ((regsL s).take 8) := by
  rcases h with rfl | rfl | rfl | rfl <;> rfl
-- the four sizes
theorem part_at (s : Nat) : ∀ k, k < 8 → nm (part1 s k) k = nm base8 k
  | 0, _ => by rfl | 1, _ => by rfl | 2, _ => by rfl | 3, _ => by rfl | 4, _ => by rfl | 5, _ => by rfl | 6, _ => by rfl | 7, _ => by rfl
  | n + 8, h => by omega
theorem base_size : ∀ k, k < 8 → (nm base8 k).size = 2
  | 0, _ => by rfl | 1, _ => by rfl | 2, _ => by rfl | 3, _ => by rfl | 4, _ => by rfl | 5, _ => by rfl | 6, _ => by rfl | 7, _ => by rfl
  | n + 8, h => by omega
theorem part_size (s k : Nat) (h : k < 8) : (nm (part1 s k) k).size ≤ 2 := by rw [part_at s k h, base_size k h]; omega
theorem infoS : (Tryd.prog.info? 9).map (fun i => (i.zero, i.size, i.bytes)) = some (some (.string ⟨#[]⟩), 1, 16) := by kernel_rfl
def dgs (n : Nat) : ByteArray := if n < 10 then ⟨#[dig n]⟩ else ⟨#[dig 1, dig (n - 10)]⟩
theorem dgs_size (n : Nat) : (dgs n).size ≤ 2 := by unfold dgs; split <;> simp [ByteArray.size]
theorem own_belowR {w w' : World} {B e s n : Nat} {v : Value} {xs : List Value} (h : w.ownsRow B e s v n xs) (hb : Below w.heap.size w w') : w'.ownsRow B e s v n xs := by
  refine ⟨h.1, ?_⟩
  rcases h.2 with h' | ⟨g, cap, cur, e1, e2, e3, e4⟩
  · exact .inl h'
  · exact .inr ⟨g, cap, cur, e1, e2, (hb.block g (Array.getElem?_eq_some_iff.1 e3).1).trans e3, e4⟩
theorem newsS (w : World) (v : Value) (t : TypeId) (j : Nat) (u : Value) (h : [v][j]? = some u) :
    (w.alloc (.cells #[v] t)).cell? ((⟨w.heap.size, 0, none⟩ : Addr).add j) = some u :=
  World.news_of_block (w := w.alloc (.cells #[v] t)) (heap_alloc_new w _) j u (by simpa using h)
theorem oneS (x : ByteArray) : ∀ u ∈ [Value.string x], u.oneCell' = true := by
  intro u hu; simp at hu; subst hu; rfl
/-- the registers' names in memory of the call's own -/
def RegRow (s : Nat) (w w' : World) (e : Ending) : Prop := ∃ g cap, e = .returned (.slice (some ⟨g, 0, none⟩) (regsL s).length cap) ∧ w'.ownsRow w.heap.size 9 1 (.slice (some ⟨g, 0, none⟩) (regsL s).length cap) (regsL s).length (NV (regsL s)) ∧ Below w.heap.size w w'
theorem name8 : ∀ j, j < 8 → NV ((regsL 8).take (8 + j)) ++ [Value.string (⟨#[114]⟩ ++ dgs (8 + j) ++ ⟨#[]⟩)] = NV ((regsL 8).take (8 + (j + 1)))
  | 0, _ => by rfl
  | 1, _ => by rfl
  | 2, _ => by rfl
  | 3, _ => by rfl
  | 4, _ => by rfl
  | 5, _ => by rfl
  | 6, _ => by rfl
  | 7, _ => by rfl
  | n + 8, h => by omega
theorem name4 : ∀ j, j < 8 → NV ((regsL 4).take (8 + j)) ++ [Value.string (⟨#[114]⟩ ++ dgs (8 + j) ++ ⟨#[100]⟩)] = NV ((regsL 4).take (8 + (j + 1)))
  | 0, _ => by rfl
  | 1, _ => by rfl
  | 2, _ => by rfl
  | 3, _ => by rfl
  | 4, _ => by rfl
  | 5, _ => by rfl
  | 6, _ => by rfl
  | 7, _ => by rfl
  | n + 8, h => by omega
theorem name2 : ∀ j, j < 8 → NV ((regsL 2).take (8 + j)) ++ [Value.string (⟨#[114]⟩ ++ dgs (8 + j) ++ ⟨#[119]⟩)] = NV ((regsL 2).take (8 + (j + 1)))
  | 0, _ => by rfl
  | 1, _ => by rfl
  | 2, _ => by rfl
  | 3, _ => by rfl
  | 4, _ => by rfl
  | 5, _ => by rfl
  | 6, _ => by rfl
  | 7, _ => by rfl
  | n + 8, h => by omega
theorem name1 : ∀ j, j < 8 → NV ((regsL 1).take (8 + j)) ++ [Value.string (⟨#[114]⟩ ++ dgs (8 + j) ++ ⟨#[98]⟩)] = NV ((regsL 1).take (8 + (j + 1)))
  | 0, _ => by rfl
  | 1, _ => by rfl
  | 2, _ => by rfl
  | 3, _ => by rfl
  | 4, _ => by rfl
  | 5, _ => by rfl
  | 6, _ => by rfl
  | 7, _ => by rfl
  | n + 8, h => by omega
theorem step1a : ∀ k, k < 4 → ((nmV (part1 1 k)).setIfInBounds k (.string ((nm (part1 1 k) k).extract 0 1))).setIfInBounds k (.string (((nm (part1 1 k) k).extract 0 1) ++ ⟨#[108]⟩)) = nmV (part1 1 (k + 1))
  | 0, _ => by kernel_rfl | 1, _ => by kernel_rfl | 2, _ => by kernel_rfl | 3, _ => by kernel_rfl
  | n + 4, h => by omega
theorem step1b : ∀ k, k < 8 → 4 ≤ k → (nmV (part1 1 k)).setIfInBounds k (.string (nm (part1 1 k) k ++ ⟨#[108]⟩)) = nmV (part1 1 (k + 1))
  | 4, _, _ => by rfl | 5, _, _ => by rfl | 6, _, _ => by rfl | 7, _, _ => by rfl
  | 0, _, h => by omega | 1, _, h => by omega | 2, _, h => by omega | 3, _, h => by omega
  | n + 8, h, _ => by omega
theorem cellSameR {w : World} {a : Addr} {u : Value} (h : w.cell? a = some u) (v : Value) : (w.setCell a v).cell? a = some v := by apply World.cell?_setCell_same; exact h
theorem newsN (w : World) (l : List (List UInt8)) (t : TypeId) (j : Nat) (u : Value) (h : (NV l)[j]? = some u) :
    (w.alloc (.cells (NV l).toArray t)).cell? ((⟨w.heap.size, 0, none⟩ : Addr).add j) = some u :=
  World.news_of_block (w := w.alloc (.cells (NV l).toArray t)) (heap_alloc_new w _) j u (by simpa using h)
end Go.Proofs.YtinjpobepcenfaaDoor
