/-
  What slices.Chunk of bytes hands back: an iterator that yields so many pieces of 256 bytes, one behind the other; conditions: those in each head.
-/
import Derived.RangeFuncNested
import Derived.RangeFuncBound
import Derived.RangeFuncCalls
import Derived.RangeFuncLeaves
import Derived.RangeFuncBox
import Derived.Shelf.Abstract
import Derived.Shelf.RegionOpen
import Derived.WalkKit
import Derived.OwnWalkIn
import Derived.TacticsInMore
import Derived.LoopNIn
import Derived.LoopIn
import Derived.Maps.AppendAt
import Derived.Test.YtcchcinnjahghaaDoorProg
namespace Go.Proofs.YtcchcinnjahghaaDoor
open Go.RowKit Go.Shelf
attribute [local go_sem] Oper.semAt_some
set_option linter.unusedVariables false
set_option linter.unusedSimpArgs false
/-- the first k of n -/
def upF (n k : Nat) : List (Fin n) := (List.finRange n).take k
theorem upF_succ {n k : Nat} (h : k < n) : upF n (k + 1) = upF n k ++ [⟨k, h⟩] := by
  unfold upF
  rw [List.take_succ_eq_append_getElem (by simpa using h)]
  simp
theorem upF_len {n k : Nat} (h : k ≤ n) : (upF n k).length = k := by simp [upF, h]
theorem upF_all (n : Nat) : upF n n = List.finRange n := by unfold upF; rw [List.take_of_length_le (by simp)]
theorem slMid (W : World) (h n k : Nat) (hk : k < n) : (Instr.slice 97 (.slice (some ⟨h, 0, none⟩) (256 * n) (256 * n)) (some (.int .i64 (256 * (k : Int)))) (some (.int .i64 (256 * (k : Int) + 256))) (some (.int .i64 (256 * (k : Int) + 256)))).run Tryd.prog W = .ok (.slice (some ⟨h, 256 * k, none⟩) 256 256) W := by
  have ht' : Tryd.prog.underlying 97 = some (.slice (Tryd.prog.elem 97)) := by simp [Program.elem, Tryd.underlying97]
  have he : Tryd.prog.elem 97 = 5 := by simp [Program.elem, Tryd.underlying97]
  rw [run_slice_lhm W 97 _ _ _ ht' .i64 .i64 .i64 _ _ _ (by omega) (by omega) (by omega) (by omega), he, Tryd.sizeOf5]
  have e1 : (256 * (k : Int)).toNat = 256 * k := by omega
  have e2 : (256 * (k : Int) + 256).toNat = 256 * k + 256 := by omega
  simp [Result.andThen, sliced, Addr.add, e1, e2]
  omega
theorem slLo (W : World) (h n k : Nat) (hk : k < n) : (Instr.slice 97 (.slice (some ⟨h, 0, none⟩) (256 * n) (256 * n)) (some (.int .i64 (256 * (k : Int)))) none none).run Tryd.prog W = .ok (.slice (some ⟨h, 256 * k, none⟩) (256 * n - 256 * k) (256 * n - 256 * k)) W := by
  have ht' : Tryd.prog.underlying 97 = some (.slice (Tryd.prog.elem 97)) := by simp [Program.elem, Tryd.underlying97]
  have he : Tryd.prog.elem 97 = 5 := by simp [Program.elem, Tryd.underlying97]
  rw [run_slice_l W 97 _ _ _ ht' .i64 _ (by omega) (by omega), he, Tryd.sizeOf5]
  have e1 : (256 * (k : Int)).toNat = 256 * k := by omega
  have hne : ¬ 256 * n = 256 * k := by omega
  simp [Result.andThen, sliced, Addr.add, e1, hne]
  omega
/-- both boxes lie as they lay -/
def KpC (Bs Bn : Nat) (W W' : World) : Prop := W'.heap[Bs]? = W.heap[Bs]? ∧ W'.heap[Bn]? = W.heap[Bn]?
theorem KpC.t {Bs Bn : Nat} {A B C : World} (h : KpC Bs Bn A B) (k : KpC Bs Bn B C) : KpC Bs Bn A C := ⟨k.1.trans h.1, k.2.trans h.2⟩
theorem KpC.b {Bs Bn : Nat} {w : World} (h1 : Bs < w.heap.size) (h2 : Bn < w.heap.size) (W : World) (l : Nat) (o o' : Obj) (hl : w.heap.size ≤ l) (_ : W.heap[l]? = some o) (_ : o.isCells = false) (_ : o.isWalk = false) : KpC Bs Bn W (W.putObj l o') :=
  ⟨World.putObj_heap_other (by omega), World.putObj_heap_other (by omega)⟩
theorem KpC.of {Bs Bn n₀ : Nat} {A B : World} (h : Below n₀ A B) (h1 : Bs < n₀) (h2 : Bn < n₀) : KpC Bs Bn A B := ⟨h.block _ h1, h.block _ h2⟩
set_option maxRecDepth 100000 in
set_option maxHeartbeats 2000000 in
theorem chunkIn (F : Fence) (n : Nat) (hF : F.fn 99) (hro : F.round = none) (hn : 1 ≤ n) (l Bs Bn h np : Nat) (hnp : np ≤ 4096) (J Jx : List (Fin np) → World → Prop) (hJd : ∀ pre W, J pre W → J pre W.drew)
    (hY : ∀ pre x W, J pre W → pre.length < np → YieldAt F (n - 1) Tryd.prog l #[.slice (some ⟨h, 256 * x.val, none⟩) 256 256] W fun e W' =>
      (e = .returned (.bool true) ∧ J (pre ++ [x]) W' ∧ KpC Bs Bn W W') ∨ (e = .returned (.bool false) ∧ Jx (pre ++ [x]) W'))
    (W : World) (hBs : W.cell? ⟨Bs, 0, none⟩ = some (.slice (some ⟨h, 0, none⟩) (256 * np) (256 * np))) (hBn : W.cell? ⟨Bn, 0, none⟩ = some (.int .i64 256)) (h0 : J [] W) :
    CallsIn F n Tryd.prog 99 #[.func (.yield l) #[] #[], .pointer (some ⟨Bs, 0, none⟩), .pointer (some ⟨Bn, 0, none⟩)] W fun e W' => (∃ v, e = .returned v) ∧
      ((∃ ys, ys = List.finRange np ∧ J ys W') ∨ (∃ pre, True ∧ Jx pre W')) := by
  have sm := slMid
  have sl := slLo
  refine callsIn_of_wp Tryd.func99 rfl hF ?_ hro
  simp only [Tryd.ntmps99, List.size_toArray, List.length_cons, List.length_nil, Nat.reduceAdd, Nat.reduceSub, Array.replicate_succ, Array.replicate_zero, List.push_toArray, List.append_toArray, List.nil_append, List.cons_append]
  gi_wp2
  gi_loopw [4] (fun i wr => ∃ k : Nat, k ≤ np ∧ i = .int .i64 (256 * (k : Int)) ∧ J (upF np k) wr ∧ wr.cell? ⟨Bs, 0, none⟩ = some (.slice (some ⟨h, 0, none⟩) (256 * np) (256 * np)) ∧ wr.cell? ⟨Bn, 0, none⟩ = some (.int .i64 256))
    (fun i _ => 256 * np - (intOf i).toNat)
  case atStart => exact ⟨0, Nat.zero_le _, rfl, by simpa [upF] using h0, hBs, hBn⟩
  case round =>
    obtain ⟨k, hk, rfl, hJs, c1, c2⟩ := hrel
    by_cases hlt : k < np
    · have hlt2 : 256 * (k : Int) < 256 * (np : Int) := by omega
      have sm1 := fun W => slMid W h np k hlt
      have sl1 := fun W => slLo W h np k hlt
      have mn : ¬ (((256 * np - 256 * k : Nat) : Int) < 256) := by omega
      have hm : Tryd.prog.follows .mixedOrders = true := by kernel_rfl
      have e1 : IntKind.i64.wrap (256 * (k : Int) + 256) = 256 * (k : Int) + 256 := IntWalk.i64_in _ (by omega)
      obtain ⟨fn, tmps, assign, body, hy, hR⟩ := hY _ ⟨k, hlt⟩ wr.drew (hJd _ _ hJs) (by rw [upF_len hk]; exact hlt)
      dsimp only at hy
      have c1d : wr.drew.cell? ⟨Bs, 0, none⟩ = some (.slice (some ⟨h, 0, none⟩) (256 * np) (256 * np)) := c1
      have c2d : wr.drew.cell? ⟨Bn, 0, none⟩ = some (.int .i64 256) := c2
      gi_wp2_with fail
      gi_region_o
      all_goals gi_wp2
      all_goals refine hR.mono ?_
      all_goals
        rintro e W3 (⟨rfl, hJ3, hk3⟩ | ⟨rfl, hJx3⟩)
        · have c23 := (World.cell?_of_block (a := ⟨Bn, 0, none⟩) hk3.2).trans c2d
          have c13 := (World.cell?_of_block (a := ⟨Bs, 0, none⟩) hk3.1).trans c1d
          gi_wp2
          go_roundw
          case rel => exact ⟨k + 1, by omega, by go_num, by rw [upF_succ hlt]; exact hJ3, c13, c23⟩
          case measure => simp [intOf]; omega
        · gi_wp2
          refine bodyPost_ret (results_none rfl _ _ _) rfl ?_
          exact ⟨⟨_, rfl⟩, .inr ⟨_, trivial, hJx3⟩⟩
    · obtain rfl : k = np := by omega
      gi_wp2
      go_end0
      rw [upF_all] at hJs
      exact ⟨⟨_, rfl⟩, .inl ⟨_, rfl, hJs⟩⟩
/-- slices.Chunk(s, 256) yields the pieces of s, one behind the other -/
theorem chunkStops (F : Fence) (n : Nat) (hF : F.fn 99) (hro : F.round = none) (hn : 1 ≤ n) (Bs Bn h np : Nat) (hnp : np ≤ 4096) (w : World) (h1 : Bs < w.heap.size) (h2 : Bn < w.heap.size)
    (c1 : w.cell? ⟨Bs, 0, none⟩ = some (.slice (some ⟨h, 0, none⟩) (256 * np) (256 * np))) (c2 : w.cell? ⟨Bn, 0, none⟩ = some (.int .i64 256)) :
    SeqStopsK F n Tryd.prog 99 #[.pointer (some ⟨Bs, 0, none⟩), .pointer (some ⟨Bn, 0, none⟩)] (fun x : Fin np => #[Value.slice (some ⟨h, 256 * x.val, none⟩) 256 256]) (KpC Bs Bn) (fun ys => ys = List.finRange np) (fun _ => True) np w := fun l J Jx W hW hJ _ hY h0 =>
  chunkIn F n hF hro hn l Bs Bn h np hnp J Jx (fun pre W' hj => hJ pre W' W'.drew none hj ⟨rfl, rfl, rfl, Nat.le_refl _, fun _ _ _ => rfl⟩ (fun r e => by cases e)) hY W ((hW.cell (p := ⟨Bs, 0, none⟩) h1).trans c1) ((hW.cell (p := ⟨Bn, 0, none⟩) h2).trans c2) h0
set_option maxHeartbeats 400000 in
/-- slices.Chunk itself: both arguments are boxed -/
theorem chunkMk (a : Option Addr) (len cap : Nat) (w : World) : Calls Tryd.prog 85 #[.slice a len cap, .int .i64 256] w fun e w' => e = .returned (.func (.func 99) #[] #[.pointer (some ⟨w.heap.size, 0, none⟩), .pointer (some ⟨w.heap.size + 1, 0, none⟩)]) ∧ w' = (w.alloc (.cells #[.slice a len cap] 97)).alloc (.cells #[.int .i64 256] 3) := by
  go_enter Tryd.func85, Tryd.ntmps85
  go_wp2
  go_ret
  exact ⟨rfl, rfl⟩
end Go.Proofs.YtcchcinnjahghaaDoor
