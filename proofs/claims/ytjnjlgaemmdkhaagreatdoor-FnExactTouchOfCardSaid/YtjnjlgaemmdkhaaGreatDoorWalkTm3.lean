/-
  What touchesOf of impl makes: a map of what an instruction touches; conditions: those in each head.
-/
import Derived.Test.YtjnjlgaemmdkhaaGreatDoorWalkTm2
import Derived.Test.YtjnjlgaemmdkhaaGreatDoorWalkToI
import Derived.Deep.RegionHeld3
import Derived.Deep.RegionWith
import Derived.Deep.MidRow
namespace Go.Proofs.YtjnjlgaemmdkhaaGreatDoor
open Go.RowKit Go.Maps
set_option linter.unusedVariables false
set_option linter.unusedSimpArgs false
theorem load_int (u : World) (b o : Nat) (v : Int) (h : u.cell? ⟨b, o, none⟩ = some (.int .i64 v)) : (Instr.loadAt 3 (.pointer (some ⟨b, o, none⟩))).run Tryz.prog u = .ok (.int .i64 v) u := by
  simp [Instr.loadAt, Instr.sureAddr, loadVar, Tryz.underlying3, h]
theorem range7 {u : World} {b : Nat} {op sz cd fr : Int} {d s : Opd} {ln : Int} {T : TypeId} (h : u.heap[b]? = some (.cells (insV ⟨op, sz, cd, fr, d, s, ln⟩) T (0, 0))) : u.rangeAt b 4 [.int .i64 d.k, .int .i64 d.r, .int .i64 d.b, .int .i64 d.i, .int .i64 d.s, .int .i64 d.d, .int .i64 d.m] := by
  intro j v hj
  rw [cell_of_row _ _ _ _ _ _ h]
  rcases Nat.lt_or_ge j 7 with hl | hl
  · rcases (by omega : j = 0 ∨ j = 1 ∨ j = 2 ∨ j = 3 ∨ j = 4 ∨ j = 5 ∨ j = 6) with rfl | rfl | rfl | rfl | rfl | rfl | rfl
    all_goals exact hj
  · rw [List.getElem?_eq_none (by show 7 ≤ j; exact hl)] at hj; cases hj
theorem range7s {u : World} {b : Nat} {op sz cd fr : Int} {d s : Opd} {ln : Int} {T : TypeId} (h : u.heap[b]? = some (.cells (insV ⟨op, sz, cd, fr, d, s, ln⟩) T (0, 0))) : u.rangeAt b 11 [.int .i64 s.k, .int .i64 s.r, .int .i64 s.b, .int .i64 s.i, .int .i64 s.s, .int .i64 s.d, .int .i64 s.m] := by
  intro j v hj
  rw [cell_of_row _ _ _ _ _ _ h]
  rcases Nat.lt_or_ge j 7 with hl | hl
  · rcases (by omega : j = 0 ∨ j = 1 ∨ j = 2 ∨ j = 3 ∨ j = 4 ∨ j = 5 ∨ j = 6) with rfl | rfl | rfl | rfl | rfl | rfl | rfl
    all_goals exact hj
  · rw [List.getElem?_eq_none (by show 7 ≤ j; exact hl)] at hj; cases hj
/-- within touchesOf: the instruction's block, the map's block -/
structure TS (w W : World) (x : Ins) (n : Nat) (g : Int → Option (Bool × Bool)) : Prop where
  r : W.heap[w.heap.size]? = some (.cells (insV x) 33 (0, 0))
  t : TM W (w.heap.size + 1) n g
  be : Below w.heap.size w W
theorem TS.drew {w W : World} {x : Ins} {n : Nat} {g : Int → Option (Bool × Bool)} (h : TS w W x n g) : TS w W.drew x n g := ⟨h.r, h.t, h.be.drew⟩
theorem TS.step {w W W' : World} {x : Ins} {n n' : Nat} {g g' : Int → Option (Bool × Bool)} (h : TS w W x n g) (hT : TM W' (w.heap.size + 1) n' g') (hg : W.grownBy W' (some (w.heap.size + 1))) : TS w W' x n' g' :=
  ⟨(hg.block _ (lt_of_blk h.r) (by simp)).trans h.r, hT, h.be.grown hg h.be.size (fun k hk => by cases hk; omega)⟩
theorem TS.new (w : World) (x : Ins) : TS w ((w.alloc (.cells (insV x) 33)).alloc (.map #[] 0)) x 0 (fun _ => none) := by
  have h := TM.made (w.alloc (.cells (insV x) 33))
  rw [show (w.alloc (.cells (insV x) 33)).heap.size = w.heap.size + 1 from by simp] at h
  exact ⟨(Below.heap_alloc _ _ _ (by simp)).trans (heap_alloc_new w _), h, ((Below.refl _ _).alloc (Nat.le_refl _) _).alloc (by simp) _⟩
/-- what an instruction touches -/
def toG (x : Ins) : Int → Option (Bool × Bool) := topd x.s (srcQ x.op) (topd x.d (dstQ x.op) (if x.sz = 1 then tdel 2 (tun x.op (fun _ => none)) else tun x.op (fun _ => none)))
attribute [-go_sem] Instr.loadAt in
set_option maxRecDepth 100000 in
set_option maxHeartbeats 2000000 in
theorem touchesC (x : Ins) (w : World) : Calls Tryz.prog 14 #[.agg (insV x)] w fun e w' => e = .returned (.map (some (w.heap.size + 1))) ∧ TS w w' x 5 (toG x) := by
  have hmm := @run_makeMap Tryz.prog
  have N0 := Lib.hid (TS.new w x)
  obtain ⟨op, sz, cd, fr, d, s, ln⟩ := x
  have CU := Lib.hid (fun W (h : TS w W ⟨op, sz, cd, fr, d, s, ln⟩ 0 (fun _ => none)) => unnC op (w.heap.size + 1) 0 (fun _ => none) W h.t (by omega))
  have CD := Lib.hid (dstKindsC op)
  have CS := Lib.hid (srcKindsC op)
  obtain ⟨g1, hg1⟩ : ∃ g, g = (if sz = 1 then tdel 2 (tun op (fun _ => none)) else tun op (fun _ => none)) := ⟨_, rfl⟩
  have CA := Lib.hid (fun W (h : TS w W ⟨op, sz, cd, fr, d, s, ln⟩ 3 g1) => addOpdC d.k d.r d.b d.i d.s d.d d.m (dstQ op) _ rfl (w.heap.size + 1) 3 g1 W h.t (by omega))
  have CB := Lib.hid (fun W (h : TS w W ⟨op, sz, cd, fr, d, s, ln⟩ 4 (topd d (dstQ op) g1)) => addOpdC s.k s.r s.b s.i s.s s.d s.m (srcQ op) _ rfl (w.heap.size + 1) 4 (topd d (dstQ op) g1) W h.t (by omega))
  have LO : ∀ u n g, TS w u ⟨op, sz, cd, fr, d, s, ln⟩ n g → (Instr.loadAt 3 (.pointer (some ⟨w.heap.size, 0, none⟩))).run Tryz.prog u = .ok (.int .i64 op) u := fun u n g h => load_int u _ _ _ (cell_of_row _ _ 0 _ _ _ h.r)
  have LZ : ∀ u n g, TS w u ⟨op, sz, cd, fr, d, s, ln⟩ n g → (Instr.loadAt 3 (.pointer (some ⟨w.heap.size, 1, none⟩))).run Tryz.prog u = .ok (.int .i64 sz) u := fun u n g h => load_int u _ _ _ (cell_of_row _ _ 1 _ _ _ h.r)
  have LD : ∀ u n g, TS w u ⟨op, sz, cd, fr, d, s, ln⟩ n g → (Instr.loadAt 31 (.pointer (some ⟨w.heap.size, 4, none⟩))).run Tryz.prog u = .ok (.agg #[.int .i64 d.k, .int .i64 d.r, .int .i64 d.b, .int .i64 d.i, .int .i64 d.s, .int .i64 d.d, .int .i64 d.m]) u := fun u n g h => run_loadAt_mid u _ _ _ _ _ (range7 h.r) Tryz.underlying31 rfl (by kernel_rfl)
  have LS : ∀ u n g, TS w u ⟨op, sz, cd, fr, d, s, ln⟩ n g → (Instr.loadAt 31 (.pointer (some ⟨w.heap.size, 11, none⟩))).run Tryz.prog u = .ok (.agg #[.int .i64 s.k, .int .i64 s.r, .int .i64 s.b, .int .i64 s.i, .int .i64 s.s, .int .i64 s.d, .int .i64 s.m]) u := fun u n g h => run_loadAt_mid u _ _ _ _ _ (range7s h.r) Tryz.underlying31 rfl (by kernel_rfl)
  have HO := Lib.hid LO; have HZ := Lib.hid LZ; have HLD := Lib.hid LD; have HLS := Lib.hid LS
  clear LO LZ LD LS
  generalize hV : insV ⟨op, sz, cd, fr, d, s, ln⟩ = V at *
  go_enter Tryz.func14, Tryz.ntmps14
  have l0 := HO.out _ _ _ N0.out
  go_wp2_with fail
  refine (CU.out _ N0.out).mono ?_
  rintro e w1 ⟨rfl, t1, g1'⟩
  have S1 := Lib.hid (N0.out.step t1 g1')
  clear l0 t1 g1'
  have lz := HZ.out _ _ _ S1.out
  by_cases hz : sz = 1
  · have hz1 : (sz == 1) = true := beq_iff_eq.mpr hz
    rw [if_pos hz] at hg1
    have HG1 := Lib.hid (show g1 = (if sz = 1 then tdel 2 (tun op (fun _ => none)) else tun op (fun _ => none)) by rw [if_pos hz]; exact hg1)
    obtain ⟨D, hown, hD⟩ := S1.out.t
    have hkey : keyOf Tryz.prog 3 (.int .i64 2) = some (.int .i64 2) := keyOf_int_mk Tryz.underlying3 (by decide)
    go_wp2_with (first | (at_delete; refine wpList_delete_own _ rfl _ _ 42 3 rfl 3 tmLaw Tryz.underlying42 _ (w.heap.size + 1) _ D rfl hown _ _ rfl hkey ?_; intro w2 hown2 hturn2))
    have S2 := Lib.hid (show TS w w2 ⟨op, sz, cd, fr, d, s, ln⟩ 3 g1 from hg1.symm ▸ S1.out.step (n' := 3) ⟨_, hown2, tm_del hD⟩ hturn2.grown)
    clear hown hown2 hturn2 hD hz lz hg1
    have s2 := S2.out
    have HQ := HO.out _ _ _ s2.drew
    have HP := HLD.out _ _ _ s2.drew
    go_region_with (first | (go_at_call 38; (with_reducible refine Calls.mono (CD.out _) ?_); rintro e w3 ⟨rfl, rfl⟩) | (go_at_call 37; (with_reducible refine Calls.mono (CA.out _ (TS.drew (by assumption))) ?_); rintro e w3 ⟨rfl, h1, h2⟩; have j1 := TS.step (TS.drew (by assumption)) h1 h2; clear h1 h2))
    all_goals
      clear HQ HP
      have S3 := Lib.hid (by assumption : TS w _ ⟨op, sz, cd, fr, d, s, ln⟩ (3 + 1) (topd d (dstQ op) g1))
      have s3 : TS w _ ⟨op, sz, cd, fr, d, s, ln⟩ 4 (topd d (dstQ op) g1) := S3.out
      go_wp2_with fail
      have HQ := HO.out _ _ _ s3.drew
      have HP := HLS.out _ _ _ s3.drew
      go_region_with (first | (go_at_call 39; (with_reducible refine Calls.mono (CS.out _) ?_); rintro e w3 ⟨rfl, rfl⟩) | (go_at_call 37; (with_reducible refine Calls.mono (CB.out _ (TS.drew (by assumption))) ?_); rintro e w3 ⟨rfl, h1, h2⟩; have j1 := TS.step (TS.drew (by assumption)) h1 h2; clear h1 h2))
      all_goals
        clear HQ HP
        have S4 := Lib.hid (by assumption : TS w _ ⟨op, sz, cd, fr, d, s, ln⟩ (4 + 1) (topd s (srcQ op) (topd d (dstQ op) g1)))
        go_wp2
        go_ret
        exact ⟨rfl, by unfold toG; simp only; rw [← HG1.out]; exact S4.out⟩
  · have hz1 : (sz == 1) = false := beq_eq_false_iff_ne.mpr hz
    rw [if_neg hz] at hg1
    have HG1 := Lib.hid (show g1 = (if sz = 1 then tdel 2 (tun op (fun _ => none)) else tun op (fun _ => none)) by rw [if_neg hz]; exact hg1)
    have S2 := Lib.hid (show TS w w1 ⟨op, sz, cd, fr, d, s, ln⟩ 3 g1 from hg1.symm ▸ S1.out)
    clear hz hg1
    go_wp2_with fail
    clear lz
    have s2 := S2.out
    have HQ := HO.out _ _ _ s2.drew
    have HP := HLD.out _ _ _ s2.drew
    go_region_with (first | (go_at_call 38; (with_reducible refine Calls.mono (CD.out _) ?_); rintro e w3 ⟨rfl, rfl⟩) | (go_at_call 37; (with_reducible refine Calls.mono (CA.out _ (TS.drew (by assumption))) ?_); rintro e w3 ⟨rfl, h1, h2⟩; have j1 := TS.step (TS.drew (by assumption)) h1 h2; clear h1 h2))
    all_goals
      clear HQ HP
      have S3 := Lib.hid (by assumption : TS w _ ⟨op, sz, cd, fr, d, s, ln⟩ (3 + 1) (topd d (dstQ op) g1))
      have s3 : TS w _ ⟨op, sz, cd, fr, d, s, ln⟩ 4 (topd d (dstQ op) g1) := S3.out
      go_wp2_with fail
      have HQ := HO.out _ _ _ s3.drew
      have HP := HLS.out _ _ _ s3.drew
      go_region_with (first | (go_at_call 39; (with_reducible refine Calls.mono (CS.out _) ?_); rintro e w3 ⟨rfl, rfl⟩) | (go_at_call 37; (with_reducible refine Calls.mono (CB.out _ (TS.drew (by assumption))) ?_); rintro e w3 ⟨rfl, h1, h2⟩; have j1 := TS.step (TS.drew (by assumption)) h1 h2; clear h1 h2))
      all_goals
        clear HQ HP
        have S4 := Lib.hid (by assumption : TS w _ ⟨op, sz, cd, fr, d, s, ln⟩ (4 + 1) (topd s (srcQ op) (topd d (dstQ op) g1)))
        go_wp2
        go_ret
        exact ⟨rfl, by unfold toG; simp only; rw [← HG1.out]; exact S4.out⟩
end Go.Proofs.YtjnjlgaemmdkhaaGreatDoor
