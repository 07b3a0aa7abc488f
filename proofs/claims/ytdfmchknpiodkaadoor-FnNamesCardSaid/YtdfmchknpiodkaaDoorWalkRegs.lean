/-
  What spec.l03Regs does for the sizes 1, 2, 4 and 8: it returns the names of the registers of that size in new memory, changing nothing that was there; no condition but those in each head.
-/
import Derived.Test.YtdfmchknpiodkaaDoorWalkTab2
import Derived.Test.YtdfmchknpiodkaaDoorWalkDigits
import Derived.Deep.AppendLies
namespace Go.Proofs.YtdfmchknpiodkaaDoor
open Go.RowKit Dg
def base8 : List (List UInt8) := [[97, 120], [99, 120], [100, 120], [98, 120], [115, 112], [98, 112], [115, 105], [100, 105]]
def trn (s i : Nat) (l : List UInt8) : List UInt8 := if s = 8 then 114 :: l else if s = 4 then 101 :: l else if s = 1 then (if i < 4 then l.take 1 else l) ++ [108] else l
def part1 (s k : Nat) : List (List UInt8) := (List.range 8).map fun i => if i < k then trn s i (base8.getD i []) else base8.getD i []
def regsL (s : Nat) : List (List UInt8) := if s = 1 then regs1 else if s = 2 then regs2 else if s = 4 then regs4 else regs8
def NV (l : List (List UInt8)) : List Value := l.map fun b => Value.string ⟨b.toArray⟩
theorem nmV_NV (l : List (List UInt8)) : nmV l = (NV l).toArray := rfl
theorem NV_len (l : List (List UInt8)) : (NV l).length = l.length := by simp [NV]
theorem NV_one (l : List (List UInt8)) : ∀ u ∈ NV l, u.oneCell' = true := by
  intro u hu; simp only [NV, List.mem_map] at hu; obtain ⟨b, _, rfl⟩ := hu; rfl
theorem NV_app (a b : List (List UInt8)) : NV a ++ NV b = NV (a ++ b) := by simp [NV]
theorem step8 : ∀ k, k < 8 → (nmV (part1 8 k)).setIfInBounds k (.string (⟨#[114]⟩ ++ nm (part1 8 k) k)) = nmV (part1 8 (k + 1))
  | 0, _ => by rfl | 1, _ => by rfl | 2, _ => by rfl | 3, _ => by rfl | 4, _ => by rfl | 5, _ => by rfl | 6, _ => by rfl | 7, _ => by rfl
  | n + 8, h => by omega
theorem step4 : ∀ k, k < 8 → (nmV (part1 4 k)).setIfInBounds k (.string (⟨#[101]⟩ ++ nm (part1 4 k) k)) = nmV (part1 4 (k + 1))
  | 0, _ => by rfl | 1, _ => by rfl | 2, _ => by rfl | 3, _ => by rfl | 4, _ => by rfl | 5, _ => by rfl | 6, _ => by rfl | 7, _ => by rfl
  | n + 8, h => by omega
theorem step2 : ∀ k, k < 8 → nmV (part1 2 k) = nmV (part1 2 (k + 1))
  | 0, _ => by rfl | 1, _ => by rfl | 2, _ => by rfl | 3, _ => by rfl | 4, _ => by rfl | 5, _ => by rfl | 6, _ => by rfl | 7, _ => by rfl
  | n + 8, h => by omega
theorem done1 (s : Nat) (h : s = 1 ∨ s = 2 ∨ s = 4 ∨ s = 8) : nmV (part1 s 8) = nmV ((regsL s).take 8) := by
  rcases h with rfl | rfl | rfl | rfl <;> rfl
-- the four sizes
theorem part_at (s : Nat) : ∀ k, k < 8 → nm (part1 s k) k = nm base8 k
  | 0, _ => by rfl | 1, _ => by rfl | 2, _ => by rfl | 3, _ => by rfl | 4, _ => by rfl | 5, _ => by rfl | 6, _ => by rfl | 7, _ => by rfl
  | n + 8, h => by omega
theorem base_size : ∀ k, k < 8 → (nm base8 k).size = 2
  | 0, _ => by rfl | 1, _ => by rfl | 2, _ => by rfl | 3, _ => by rfl | 4, _ => by rfl | 5, _ => by rfl | 6, _ => by rfl | 7, _ => by rfl
  | n + 8, h => by omega
theorem part_size (s k : Nat) (h : k < 8) : (nm (part1 s k) k).size ≤ 2 := by rw [part_at s k h, base_size k h]; omega
theorem infoS : (Tryd.prog.info? 9).map (fun i => (i.zero, i.size, i.bytes)) = some (some (.string ⟨#[]⟩), 1, 16) := by kernel_rfl
def dgs (n : Nat) : ByteArray := if n < 10 then ⟨#[dig n]⟩ else ⟨#[dig 1, dig (n - 10)]⟩
theorem dgs_size (n : Nat) : (dgs n).size ≤ 2 := by unfold dgs; split <;> simp [ByteArray.size]
theorem digitsC (n : Nat) (w : World) (h : n < 20) :
    Calls Tryd.prog 51 #[.int .i64 (n : Int)] w fun e w' => e = .returned (.string (dgs n)) ∧ Below w.heap.size w w' := by
  unfold dgs
  by_cases h1 : n < 10
  · rw [if_pos h1]; exact digits1 n w h1
  · rw [if_neg h1, show (n : Int) = 10 + ((n - 10 : Nat) : Int) by omega]; exact digits2 (n - 10) w (by omega)
theorem own_belowR {w w' : World} {B e s n : Nat} {v : Value} {xs : List Value} (h : w.ownsRow B e s v n xs) (hb : Below w.heap.size w w') : w'.ownsRow B e s v n xs := by
  refine ⟨h.1, ?_⟩
  rcases h.2 with h' | ⟨g, cap, cur, e1, e2, e3, e4⟩
  · exact .inl h'
  · exact .inr ⟨g, cap, cur, e1, e2, (hb.block g (Array.getElem?_eq_some_iff.1 e3).1).trans e3, e4⟩
theorem newsS (w : World) (v : Value) (t : TypeId) (j : Nat) (u : Value) (h : [v][j]? = some u) :
    (w.alloc (.cells #[v] t)).cell? ((⟨w.heap.size, 0, none⟩ : Addr).add j) = some u :=
  World.news_of_block (w := w.alloc (.cells #[v] t)) (heap_alloc_new w _) j u (by simpa using h)
theorem oneS (x : ByteArray) : ∀ u ∈ [Value.string x], u.oneCell' = true := by
  intro u hu; simp at hu; subst hu; rfl
/-- the registers' names in memory of the call's own -/
def RegRow (s : Nat) (w w' : World) (e : Ending) : Prop := ∃ g cap, e = .returned (.slice (some ⟨g, 0, none⟩) (regsL s).length cap) ∧ w'.ownsRow w.heap.size 9 1 (.slice (some ⟨g, 0, none⟩) (regsL s).length cap) (regsL s).length (NV (regsL s)) ∧ Below w.heap.size w w'
theorem name8 : ∀ j, j < 8 → NV ((regsL 8).take (8 + j)) ++ [Value.string (⟨#[114]⟩ ++ dgs (8 + j) ++ ⟨#[]⟩)] = NV ((regsL 8).take (8 + (j + 1)))
  | 0, _ => by rfl
  | 1, _ => by rfl
  | 2, _ => by rfl
  | 3, _ => by rfl
  | 4, _ => by rfl
  | 5, _ => by rfl
  | 6, _ => by rfl
  | 7, _ => by rfl
  | n + 8, h => by omega
set_option maxHeartbeats 2000000 in
theorem regs8S (w : World) : Calls Tryd.prog 45 #[.int .i64 8] w fun e w' => RegRow 8 w w' e := by
  obtain ⟨i0, hi, hz0, hz1, hz2⟩ := info_parts infoS
  go_enter Tryd.func45, Tryd.ntmps45
  go_wp2
  go_loopw [4] (fun i wr => ∃ k : Nat, k ≤ 8 ∧ i = .int .i64 k ∧ Hid (wr.heap[w.heap.size]? = some (.cells (nmV (part1 8 k)) 9 (0, 0))) ∧ Hid (Below w.heap.size w wr)) (fun i _ => 8 - (intOf i).toNat)
  case atStart => exact ⟨0, by omega, rfl, Lib.hid (heap_alloc_new w _), Lib.hid (by exact (Below.refl _ _).alloc (Nat.le_refl _) _)⟩
  case round =>
    obtain ⟨k, hk, rfl, HB, HL⟩ := hrel
    by_cases hlt : k < 8
    · have hlt3 : (k : Int) < 8 := by omega
      have hc : wr.cell? ⟨w.heap.size, k, none⟩ = some (.string (nm (part1 8 k) k)) := by rw [cell_of_row _ _ k _ _ (0, 0) HB.out]; exact nmV_at _ _ (by simp [part1]; omega)
      have hf : wr.frozen? ⟨w.heap.size, k, none⟩ = false := by simp [World.frozen?, HB.out]
      have hsz := part_size 8 k hlt
      have HB2 : Hid ((wr.setCell ⟨w.heap.size, k, none⟩ (.string (⟨#[114]⟩ ++ nm (part1 8 k) k))).heap[w.heap.size]? = some (.cells (nmV (part1 8 (k + 1))) 9 (0, 0))) := Lib.hid (by
        rw [← step8 k hlt]; simp [World.setCell, Array.getElem?_modify, HB.out])
      have HL2 : Hid (Below w.heap.size w (wr.setCell ⟨w.heap.size, k, none⟩ (.string (⟨#[114]⟩ ++ nm (part1 8 k) k)))) := Lib.hid (HL.out.setCell (by simp) _)
      go_wp2
      go_roundw
      case rel => exact ⟨k + 1, by omega, by go_num, HB2, HL2⟩
      case measure => simp [intOf]; omega
    · obtain rfl : k = 8 := by omega
      have own0 : wr.ownsRow w.heap.size 9 1 (.slice (some ⟨w.heap.size, 0, none⟩) (8 + 0) 8) (8 + 0) (NV ((regsL 8).take (8 + 0))) := by
        refine ⟨rfl, .inr ⟨w.heap.size, 8, nmV (part1 8 8), rfl, Nat.le_refl _, HB.out, by omega, by unfold maxLen; omega, rfl, ?_⟩⟩
        rw [done1 8 (by omega)]; rfl
      have OW0 := Lib.hid own0
      clear own0 HB
      rw [show ((8 : Nat) : Int) = 8 from rfl]
      go_wp2
      go_loopw [3, 5] (fun v i wq => ∃ (j g' cap' : Nat), j ≤ 8 ∧ i = .int .i64 (8 + j : Nat) ∧ v = .slice (some ⟨g', 0, none⟩) (8 + j) cap' ∧ Hid (wq.ownsRow w.heap.size 9 1 (.slice (some ⟨g', 0, none⟩) (8 + j) cap') (8 + j) (NV ((regsL 8).take (8 + j)))) ∧ Hid (Below w.heap.size w wq)) (fun _ i _ => 16 - (intOf i).toNat)
      case atStart => exact ⟨0, w.heap.size, 8, by omega, rfl, rfl, OW0, HL⟩
      case round =>
        obtain ⟨j, g', cap', hj, rfl, rfl, OW, HL1⟩ := hrel
        by_cases hlt : j < 8
        · have hlt3 : ((8 + j : Nat) : Int) < 16 := by omega
          have hsd := dgs_size (8 + j)
          have C := Lib.hid (fun w => digitsC (8 + j) w (by omega))
          have HN := Lib.hid (name8 j hlt)
          go_wp2_with fail
          refine (C.out _).mono ?_
          rintro e w1 ⟨rfl, hb1⟩
          have hsz1 := HL1.out.size
          have OW1 := Lib.hid (own_belowR OW.out hb1)
          have HL2 := Lib.hid (HL1.out.trans (hb1.mono hsz1))
          have hsz2 : w.heap.size ≤ w1.heap.size := HL2.out.size
          clear OW hb1
          go_wp2_with (at_builtin; refine wpList_append_lies _ rfl _ _ _ rfl w.heap.size 9 i0 (.string ⟨#[]⟩) 1 16 Tryd.underlying55 hi hz0 hz1 hz2 rfl (by omega) _ (8 + j) (NV ((regsL 8).take (8 + j))) rfl (OW1.out.alloc _) ⟨w1.heap.size, 0, none⟩ 1 1 [.string (⟨#[114]⟩ ++ dgs (8 + j) ++ ⟨#[]⟩)] rfl rfl (newsS _ _ _) (oneS _) (by omega) (by unfold maxLen; omega) (by omega) (by simp; omega) (w1.heap.size + 1) (by simp) ?_; intro g2 cap2 w2 hown2 hgrow hat hlt1)
          have HR : Hid (Below w.heap.size w w2) := Lib.hid ((HL2.out.alloc hsz2 _).grown hgrow (by simp; omega) (fun q hq => by have := (OW1.out.lt q hq).1; omega))
          rw [HN.out] at hown2
          have HO : Hid (w2.ownsRow w.heap.size 9 1 (.slice (some ⟨g2, 0, none⟩) (8 + (j + 1)) cap2) (8 + (j + 1)) (NV ((regsL 8).take (8 + (j + 1))))) := Lib.hid hown2
          clear hgrow hat hown2 OW1 HL2
          go_wp2
          go_roundw
          case rel => exact ⟨j + 1, g2, cap2, by omega, by go_num, rfl, HO, HR⟩
          case measure => simp [intOf]; omega
        · obtain rfl : j = 8 := by omega
          go_wp2
          go_ret
          exact ⟨g', cap', rfl, OW.out, HL1.out⟩
theorem name4 : ∀ j, j < 8 → NV ((regsL 4).take (8 + j)) ++ [Value.string (⟨#[114]⟩ ++ dgs (8 + j) ++ ⟨#[100]⟩)] = NV ((regsL 4).take (8 + (j + 1)))
  | 0, _ => by rfl
  | 1, _ => by rfl
  | 2, _ => by rfl
  | 3, _ => by rfl
  | 4, _ => by rfl
  | 5, _ => by rfl
  | 6, _ => by rfl
  | 7, _ => by rfl
  | n + 8, h => by omega
set_option maxHeartbeats 2000000 in
theorem regs4S (w : World) : Calls Tryd.prog 45 #[.int .i64 4] w fun e w' => RegRow 4 w w' e := by
  obtain ⟨i0, hi, hz0, hz1, hz2⟩ := info_parts infoS
  go_enter Tryd.func45, Tryd.ntmps45
  go_wp2
  go_loopw [4] (fun i wr => ∃ k : Nat, k ≤ 8 ∧ i = .int .i64 k ∧ Hid (wr.heap[w.heap.size]? = some (.cells (nmV (part1 4 k)) 9 (0, 0))) ∧ Hid (Below w.heap.size w wr)) (fun i _ => 8 - (intOf i).toNat)
  case atStart => exact ⟨0, by omega, rfl, Lib.hid (heap_alloc_new w _), Lib.hid (by exact (Below.refl _ _).alloc (Nat.le_refl _) _)⟩
  case round =>
    obtain ⟨k, hk, rfl, HB, HL⟩ := hrel
    by_cases hlt : k < 8
    · have hlt3 : (k : Int) < 8 := by omega
      have hc : wr.cell? ⟨w.heap.size, k, none⟩ = some (.string (nm (part1 4 k) k)) := by rw [cell_of_row _ _ k _ _ (0, 0) HB.out]; exact nmV_at _ _ (by simp [part1]; omega)
      have hf : wr.frozen? ⟨w.heap.size, k, none⟩ = false := by simp [World.frozen?, HB.out]
      have hsz := part_size 4 k hlt
      have HB2 : Hid ((wr.setCell ⟨w.heap.size, k, none⟩ (.string (⟨#[101]⟩ ++ nm (part1 4 k) k))).heap[w.heap.size]? = some (.cells (nmV (part1 4 (k + 1))) 9 (0, 0))) := Lib.hid (by
        rw [← step4 k hlt]; simp [World.setCell, Array.getElem?_modify, HB.out])
      have HL2 : Hid (Below w.heap.size w (wr.setCell ⟨w.heap.size, k, none⟩ (.string (⟨#[101]⟩ ++ nm (part1 4 k) k)))) := Lib.hid (HL.out.setCell (by simp) _)
      go_wp2
      go_roundw
      case rel => exact ⟨k + 1, by omega, by go_num, HB2, HL2⟩
      case measure => simp [intOf]; omega
    · obtain rfl : k = 8 := by omega
      have own0 : wr.ownsRow w.heap.size 9 1 (.slice (some ⟨w.heap.size, 0, none⟩) (8 + 0) 8) (8 + 0) (NV ((regsL 4).take (8 + 0))) := by
        refine ⟨rfl, .inr ⟨w.heap.size, 8, nmV (part1 4 8), rfl, Nat.le_refl _, HB.out, by omega, by unfold maxLen; omega, rfl, ?_⟩⟩
        rw [done1 4 (by omega)]; rfl
      have OW0 := Lib.hid own0
      clear own0 HB
      rw [show ((8 : Nat) : Int) = 8 from rfl]
      go_wp2
      go_loopw [3, 5] (fun v i wq => ∃ (j g' cap' : Nat), j ≤ 8 ∧ i = .int .i64 (8 + j : Nat) ∧ v = .slice (some ⟨g', 0, none⟩) (8 + j) cap' ∧ Hid (wq.ownsRow w.heap.size 9 1 (.slice (some ⟨g', 0, none⟩) (8 + j) cap') (8 + j) (NV ((regsL 4).take (8 + j)))) ∧ Hid (Below w.heap.size w wq)) (fun _ i _ => 16 - (intOf i).toNat)
      case atStart => exact ⟨0, w.heap.size, 8, by omega, rfl, rfl, OW0, HL⟩
      case round =>
        obtain ⟨j, g', cap', hj, rfl, rfl, OW, HL1⟩ := hrel
        by_cases hlt : j < 8
        · have hlt3 : ((8 + j : Nat) : Int) < 16 := by omega
          have hsd := dgs_size (8 + j)
          have C := Lib.hid (fun w => digitsC (8 + j) w (by omega))
          have HN := Lib.hid (name4 j hlt)
          go_wp2_with fail
          refine (C.out _).mono ?_
          rintro e w1 ⟨rfl, hb1⟩
          have hsz1 := HL1.out.size
          have OW1 := Lib.hid (own_belowR OW.out hb1)
          have HL2 := Lib.hid (HL1.out.trans (hb1.mono hsz1))
          have hsz2 : w.heap.size ≤ w1.heap.size := HL2.out.size
          clear OW hb1
          go_wp2_with (at_builtin; refine wpList_append_lies _ rfl _ _ _ rfl w.heap.size 9 i0 (.string ⟨#[]⟩) 1 16 Tryd.underlying55 hi hz0 hz1 hz2 rfl (by omega) _ (8 + j) (NV ((regsL 4).take (8 + j))) rfl (OW1.out.alloc _) ⟨w1.heap.size, 0, none⟩ 1 1 [.string (⟨#[114]⟩ ++ dgs (8 + j) ++ ⟨#[100]⟩)] rfl rfl (newsS _ _ _) (oneS _) (by omega) (by unfold maxLen; omega) (by omega) (by simp; omega) (w1.heap.size + 1) (by simp) ?_; intro g2 cap2 w2 hown2 hgrow hat hlt1)
          have HR : Hid (Below w.heap.size w w2) := Lib.hid ((HL2.out.alloc hsz2 _).grown hgrow (by simp; omega) (fun q hq => by have := (OW1.out.lt q hq).1; omega))
          rw [HN.out] at hown2
          have HO : Hid (w2.ownsRow w.heap.size 9 1 (.slice (some ⟨g2, 0, none⟩) (8 + (j + 1)) cap2) (8 + (j + 1)) (NV ((regsL 4).take (8 + (j + 1))))) := Lib.hid hown2
          clear hgrow hat hown2 OW1 HL2
          go_wp2
          go_roundw
          case rel => exact ⟨j + 1, g2, cap2, by omega, by go_num, rfl, HO, HR⟩
          case measure => simp [intOf]; omega
        · obtain rfl : j = 8 := by omega
          go_wp2
          go_ret
          exact ⟨g', cap', rfl, OW.out, HL1.out⟩
theorem name2 : ∀ j, j < 8 → NV ((regsL 2).take (8 + j)) ++ [Value.string (⟨#[114]⟩ ++ dgs (8 + j) ++ ⟨#[119]⟩)] = NV ((regsL 2).take (8 + (j + 1)))
  | 0, _ => by rfl
  | 1, _ => by rfl
  | 2, _ => by rfl
  | 3, _ => by rfl
  | 4, _ => by rfl
  | 5, _ => by rfl
  | 6, _ => by rfl
  | 7, _ => by rfl
  | n + 8, h => by omega
set_option maxHeartbeats 2000000 in
theorem regs2S (w : World) : Calls Tryd.prog 45 #[.int .i64 2] w fun e w' => RegRow 2 w w' e := by
  obtain ⟨i0, hi, hz0, hz1, hz2⟩ := info_parts infoS
  go_enter Tryd.func45, Tryd.ntmps45
  go_wp2
  go_loopw [4] (fun i wr => ∃ k : Nat, k ≤ 8 ∧ i = .int .i64 k ∧ Hid (wr.heap[w.heap.size]? = some (.cells (nmV (part1 2 k)) 9 (0, 0))) ∧ Hid (Below w.heap.size w wr)) (fun i _ => 8 - (intOf i).toNat)
  case atStart => exact ⟨0, by omega, rfl, Lib.hid (heap_alloc_new w _), Lib.hid (by exact (Below.refl _ _).alloc (Nat.le_refl _) _)⟩
  case round =>
    obtain ⟨k, hk, rfl, HB, HL⟩ := hrel
    by_cases hlt : k < 8
    · have hlt3 : (k : Int) < 8 := by omega
      have HB2 : Hid (wr.heap[w.heap.size]? = some (.cells (nmV (part1 2 (k + 1))) 9 (0, 0))) := Lib.hid (by rw [← step2 k hlt]; exact HB.out)
      go_wp2
      go_roundw
      case rel => exact ⟨k + 1, by omega, by go_num, HB2, HL⟩
      case measure => simp [intOf]; omega
    · obtain rfl : k = 8 := by omega
      have own0 : wr.ownsRow w.heap.size 9 1 (.slice (some ⟨w.heap.size, 0, none⟩) (8 + 0) 8) (8 + 0) (NV ((regsL 2).take (8 + 0))) := by
        refine ⟨rfl, .inr ⟨w.heap.size, 8, nmV (part1 2 8), rfl, Nat.le_refl _, HB.out, by omega, by unfold maxLen; omega, rfl, ?_⟩⟩
        rw [done1 2 (by omega)]; rfl
      have OW0 := Lib.hid own0
      clear own0 HB
      rw [show ((8 : Nat) : Int) = 8 from rfl]
      go_wp2
      go_loopw [3, 5] (fun v i wq => ∃ (j g' cap' : Nat), j ≤ 8 ∧ i = .int .i64 (8 + j : Nat) ∧ v = .slice (some ⟨g', 0, none⟩) (8 + j) cap' ∧ Hid (wq.ownsRow w.heap.size 9 1 (.slice (some ⟨g', 0, none⟩) (8 + j) cap') (8 + j) (NV ((regsL 2).take (8 + j)))) ∧ Hid (Below w.heap.size w wq)) (fun _ i _ => 16 - (intOf i).toNat)
      case atStart => exact ⟨0, w.heap.size, 8, by omega, rfl, rfl, OW0, HL⟩
      case round =>
        obtain ⟨j, g', cap', hj, rfl, rfl, OW, HL1⟩ := hrel
        by_cases hlt : j < 8
        · have hlt3 : ((8 + j : Nat) : Int) < 16 := by omega
          have hsd := dgs_size (8 + j)
          have C := Lib.hid (fun w => digitsC (8 + j) w (by omega))
          have HN := Lib.hid (name2 j hlt)
          go_wp2_with fail
          refine (C.out _).mono ?_
          rintro e w1 ⟨rfl, hb1⟩
          have hsz1 := HL1.out.size
          have OW1 := Lib.hid (own_belowR OW.out hb1)
          have HL2 := Lib.hid (HL1.out.trans (hb1.mono hsz1))
          have hsz2 : w.heap.size ≤ w1.heap.size := HL2.out.size
          clear OW hb1
          go_wp2_with (at_builtin; refine wpList_append_lies _ rfl _ _ _ rfl w.heap.size 9 i0 (.string ⟨#[]⟩) 1 16 Tryd.underlying55 hi hz0 hz1 hz2 rfl (by omega) _ (8 + j) (NV ((regsL 2).take (8 + j))) rfl (OW1.out.alloc _) ⟨w1.heap.size, 0, none⟩ 1 1 [.string (⟨#[114]⟩ ++ dgs (8 + j) ++ ⟨#[119]⟩)] rfl rfl (newsS _ _ _) (oneS _) (by omega) (by unfold maxLen; omega) (by omega) (by simp; omega) (w1.heap.size + 1) (by simp) ?_; intro g2 cap2 w2 hown2 hgrow hat hlt1)
          have HR : Hid (Below w.heap.size w w2) := Lib.hid ((HL2.out.alloc hsz2 _).grown hgrow (by simp; omega) (fun q hq => by have := (OW1.out.lt q hq).1; omega))
          rw [HN.out] at hown2
          have HO : Hid (w2.ownsRow w.heap.size 9 1 (.slice (some ⟨g2, 0, none⟩) (8 + (j + 1)) cap2) (8 + (j + 1)) (NV ((regsL 2).take (8 + (j + 1))))) := Lib.hid hown2
          clear hgrow hat hown2 OW1 HL2
          go_wp2
          go_roundw
          case rel => exact ⟨j + 1, g2, cap2, by omega, by go_num, rfl, HO, HR⟩
          case measure => simp [intOf]; omega
        · obtain rfl : j = 8 := by omega
          go_wp2
          go_ret
          exact ⟨g', cap', rfl, OW.out, HL1.out⟩
theorem name1 : ∀ j, j < 8 → NV ((regsL 1).take (8 + j)) ++ [Value.string (⟨#[114]⟩ ++ dgs (8 + j) ++ ⟨#[98]⟩)] = NV ((regsL 1).take (8 + (j + 1)))
  | 0, _ => by rfl
  | 1, _ => by rfl
  | 2, _ => by rfl
  | 3, _ => by rfl
  | 4, _ => by rfl
  | 5, _ => by rfl
  | 6, _ => by rfl
  | 7, _ => by rfl
  | n + 8, h => by omega
theorem step1a : ∀ k, k < 4 → ((nmV (part1 1 k)).setIfInBounds k (.string ((nm (part1 1 k) k).extract 0 1))).setIfInBounds k (.string (((nm (part1 1 k) k).extract 0 1) ++ ⟨#[108]⟩)) = nmV (part1 1 (k + 1))
  | 0, _ => by kernel_rfl | 1, _ => by kernel_rfl | 2, _ => by kernel_rfl | 3, _ => by kernel_rfl
  | n + 4, h => by omega
theorem step1b : ∀ k, k < 8 → 4 ≤ k → (nmV (part1 1 k)).setIfInBounds k (.string (nm (part1 1 k) k ++ ⟨#[108]⟩)) = nmV (part1 1 (k + 1))
  | 4, _, _ => by rfl | 5, _, _ => by rfl | 6, _, _ => by rfl | 7, _, _ => by rfl
  | 0, _, h => by omega | 1, _, h => by omega | 2, _, h => by omega | 3, _, h => by omega
  | n + 8, h, _ => by omega
theorem cellSameR {w : World} {a : Addr} {u : Value} (h : w.cell? a = some u) (v : Value) : (w.setCell a v).cell? a = some v := by apply World.cell?_setCell_same; exact h
theorem newsN (w : World) (l : List (List UInt8)) (t : TypeId) (j : Nat) (u : Value) (h : (NV l)[j]? = some u) :
    (w.alloc (.cells (NV l).toArray t)).cell? ((⟨w.heap.size, 0, none⟩ : Addr).add j) = some u :=
  World.news_of_block (w := w.alloc (.cells (NV l).toArray t)) (heap_alloc_new w _) j u (by simpa using h)
set_option maxHeartbeats 2000000 in
theorem regs1S (w : World) : Calls Tryd.prog 45 #[.int .i64 1] w fun e w' => RegRow 1 w w' e := by
  obtain ⟨i0, hi, hz0, hz1, hz2⟩ := info_parts infoS
  go_enter Tryd.func45, Tryd.ntmps45
  go_wp2
  go_loopw [4] (fun i wr => ∃ k : Nat, k ≤ 8 ∧ i = .int .i64 k ∧ Hid (wr.heap[w.heap.size]? = some (.cells (nmV (part1 1 k)) 9 (0, 0))) ∧ Hid (Below w.heap.size w wr)) (fun i _ => 8 - (intOf i).toNat)
  case atStart => exact ⟨0, by omega, rfl, Lib.hid (heap_alloc_new w _), Lib.hid (by exact (Below.refl _ _).alloc (Nat.le_refl _) _)⟩
  case round =>
    obtain ⟨k, hk, rfl, HB, HL⟩ := hrel
    by_cases hlt : k < 8
    · have hlt3 : (k : Int) < 8 := by omega
      have hc : wr.cell? ⟨w.heap.size, k, none⟩ = some (.string (nm (part1 1 k) k)) := by rw [cell_of_row _ _ k _ _ (0, 0) HB.out]; exact nmV_at _ _ (by simp [part1]; omega)
      have hf : wr.frozen? ⟨w.heap.size, k, none⟩ = false := by simp [World.frozen?, HB.out]
      have hsz := part_size 1 k hlt
      by_cases h4 : k < 4
      · have h4' : (k : Int) < 4 := by omega
        have hsz1 : 1 ≤ (nm (part1 1 k) k).size := by rw [part_at 1 k hlt, base_size k hlt]; omega
        have hys : ((nm (part1 1 k) k).extract 0 1).size ≤ 1 := by simp [ByteArray.size_extract]; omega
        have r1 := cellSameR hc (.string ((nm (part1 1 k) k).extract 0 1))
        have HB2 : Hid (((wr.setCell ⟨w.heap.size, k, none⟩ (.string ((nm (part1 1 k) k).extract 0 1))).setCell ⟨w.heap.size, k, none⟩ (.string ((nm (part1 1 k) k).extract 0 1 ++ ⟨#[108]⟩))).heap[w.heap.size]? = some (.cells (nmV (part1 1 (k + 1))) 9 (0, 0))) := Lib.hid (by
          rw [← step1a k h4]; simp [World.setCell, Array.getElem?_modify, HB.out])
        have HL2 : Hid (Below w.heap.size w ((wr.setCell ⟨w.heap.size, k, none⟩ (.string ((nm (part1 1 k) k).extract 0 1))).setCell ⟨w.heap.size, k, none⟩ (.string ((nm (part1 1 k) k).extract 0 1 ++ ⟨#[108]⟩)))) := Lib.hid ((HL.out.setCell (by simp) _).setCell (by simp) _)
        go_wp2
        go_roundw
        case rel => exact ⟨k + 1, by omega, by go_num, HB2, HL2⟩
        case measure => simp [intOf]; omega
      · have h4' : decide ((k : Int) < 4) = false := decide_eq_false (by omega)
        have HB2 : Hid ((wr.setCell ⟨w.heap.size, k, none⟩ (.string (nm (part1 1 k) k ++ ⟨#[108]⟩))).heap[w.heap.size]? = some (.cells (nmV (part1 1 (k + 1))) 9 (0, 0))) := Lib.hid (by
          rw [← step1b k hlt (by omega)]; simp [World.setCell, Array.getElem?_modify, HB.out])
        have HL2 : Hid (Below w.heap.size w (wr.setCell ⟨w.heap.size, k, none⟩ (.string (nm (part1 1 k) k ++ ⟨#[108]⟩)))) := Lib.hid (HL.out.setCell (by simp) _)
        clear h4
        go_wp2
        go_roundw
        case rel => exact ⟨k + 1, by omega, by go_num, HB2, HL2⟩
        case measure => simp [intOf]; omega
    · obtain rfl : k = 8 := by omega
      have own0 : wr.ownsRow w.heap.size 9 1 (.slice (some ⟨w.heap.size, 0, none⟩) (8 + 0) 8) (8 + 0) (NV ((regsL 1).take (8 + 0))) := by
        refine ⟨rfl, .inr ⟨w.heap.size, 8, nmV (part1 1 8), rfl, Nat.le_refl _, HB.out, by omega, by unfold maxLen; omega, rfl, ?_⟩⟩
        rw [done1 1 (by omega)]; rfl
      have OW0 := Lib.hid own0
      clear own0 HB
      rw [show ((8 : Nat) : Int) = 8 from rfl]
      go_wp2
      go_loopw [3, 5] (fun v i wq => ∃ (j g' cap' : Nat), j ≤ 8 ∧ i = .int .i64 (8 + j : Nat) ∧ v = .slice (some ⟨g', 0, none⟩) (8 + j) cap' ∧ Hid (wq.ownsRow w.heap.size 9 1 (.slice (some ⟨g', 0, none⟩) (8 + j) cap') (8 + j) (NV ((regsL 1).take (8 + j)))) ∧ Hid (Below w.heap.size w wq)) (fun _ i _ => 16 - (intOf i).toNat)
      case atStart => exact ⟨0, w.heap.size, 8, by omega, rfl, rfl, OW0, HL⟩
      case round =>
        obtain ⟨j, g', cap', hj, rfl, rfl, OW, HL1⟩ := hrel
        by_cases hlt : j < 8
        · have hlt3 : ((8 + j : Nat) : Int) < 16 := by omega
          have hsd := dgs_size (8 + j)
          have C := Lib.hid (fun w => digitsC (8 + j) w (by omega))
          have HN := Lib.hid (name1 j hlt)
          go_wp2_with fail
          refine (C.out _).mono ?_
          rintro e w1 ⟨rfl, hb1⟩
          have hsz1 := HL1.out.size
          have OW1 := Lib.hid (own_belowR OW.out hb1)
          have HL2 := Lib.hid (HL1.out.trans (hb1.mono hsz1))
          have hsz2 : w.heap.size ≤ w1.heap.size := HL2.out.size
          clear OW hb1
          go_wp2_with (at_builtin; refine wpList_append_lies _ rfl _ _ _ rfl w.heap.size 9 i0 (.string ⟨#[]⟩) 1 16 Tryd.underlying55 hi hz0 hz1 hz2 rfl (by omega) _ (8 + j) (NV ((regsL 1).take (8 + j))) rfl (OW1.out.alloc _) ⟨w1.heap.size, 0, none⟩ 1 1 [.string (⟨#[114]⟩ ++ dgs (8 + j) ++ ⟨#[98]⟩)] rfl rfl (newsS _ _ _) (oneS _) (by omega) (by unfold maxLen; omega) (by omega) (by simp; omega) (w1.heap.size + 1) (by simp) ?_; intro g2 cap2 w2 hown2 hgrow hat hlt1)
          have HR : Hid (Below w.heap.size w w2) := Lib.hid ((HL2.out.alloc hsz2 _).grown hgrow (by simp; omega) (fun q hq => by have := (OW1.out.lt q hq).1; omega))
          rw [HN.out] at hown2
          have HO : Hid (w2.ownsRow w.heap.size 9 1 (.slice (some ⟨g2, 0, none⟩) (8 + (j + 1)) cap2) (8 + (j + 1)) (NV ((regsL 1).take (8 + (j + 1))))) := Lib.hid hown2
          clear hgrow hat hown2 OW1 HL2
          go_wp2
          go_roundw
          case rel => exact ⟨j + 1, g2, cap2, by omega, by go_num, rfl, HO, HR⟩
          case measure => simp [intOf]; omega
        · obtain rfl : j = 8 := by omega
          have ow := OW.out
          have hlw := HL1.out.size
          have HG := Lib.hid (ow.lt g' rfl)
          clear ow
          go_wp2_with (at_builtin; refine wpList_append_lies _ rfl _ _ _ rfl w.heap.size 9 i0 (.string ⟨#[]⟩) 1 16 Tryd.underlying55 hi hz0 hz1 hz2 rfl (by omega) _ (8 + 8) (NV ((regsL 1).take (8 + 8))) rfl (OW.out.alloc _) ⟨wr.heap.size, 0, none⟩ 4 4 (NV [[97, 104], [99, 104], [100, 104], [98, 104]]) rfl rfl (by exact newsN wr [[97, 104], [99, 104], [100, 104], [98, 104]] 9) (NV_one _) (by omega) (by unfold maxLen; omega) (by omega) (by simp; omega) (wr.heap.size + 1) (by simp) ?_; intro g2 cap2 w2 hown2 hgrow hat hlt1)
          have HR : Hid (Below w.heap.size w w2) := Lib.hid ((HL1.out.alloc hlw _).grown hgrow (by simp; omega) (fun q hq => by have := (OW.out.lt q hq).1; omega))
          have HO : Hid (w2.ownsRow w.heap.size 9 1 (.slice (some ⟨g2, 0, none⟩) 20 cap2) 20 (NV regs1)) := Lib.hid hown2
          clear hgrow hat hown2
          go_wp2
          go_ret
          exact ⟨g2, cap2, rfl, HO.out, HR.out⟩
end Go.Proofs.YtdfmchknpiodkaaDoor
