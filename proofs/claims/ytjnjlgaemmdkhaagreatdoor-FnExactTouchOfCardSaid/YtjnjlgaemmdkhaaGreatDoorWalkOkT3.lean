/-
  What l05Two of spec does; conditions: those in each head.
-/
import Derived.Test.YtjnjlgaemmdkhaaGreatDoorWalkOkT2
import Derived.Test.YtjnjlgaemmdkhaaGreatDoorWalkOkT
import Derived.Shelf.SlSortCmp.QuietGrown
import Derived.BigQuiet
namespace Go.Proofs.YtjnjlgaemmdkhaaGreatDoor
open Go.RowKit Go.Sort
set_option linter.unusedVariables false
set_option linter.unusedSimpArgs false
def kin2 (l : List (UInt8 × UInt8)) (a b : Int) : Bool := l.any fun p => kl p.1 a && kl p.2 b
def Nm2 (w : World) (g : Nat) (l : List (UInt8 × UInt8)) : Prop := ∀ k p, l[k]? = some p → w.cell? ⟨g, k, none⟩ = some (.string ⟨#[p.1, p.2]⟩)
theorem Nm2.keep {w w' : World} {g : Nat} {l : List (UInt8 × UInt8)} (h : Nm2 w g l) (hg : g < w.heap.size) (hb : Below w.heap.size w w') : Nm2 w' g l := fun k p e => (hb.cell (p := ⟨g, k, none⟩) hg).trans (h k p e)
theorem kin2_at {l : List (UInt8 × UInt8)} {k : Nat} {p : UInt8 × UInt8} (e : l[k]? = some p) (a b : Int) : kin2 (l.drop k) a b = ((kl p.1 a && kl p.2 b) || kin2 (l.drop (k + 1)) a b) := by
  obtain ⟨h, rfl⟩ := List.getElem?_eq_some_iff.1 e
  unfold kin2
  rw [List.drop_eq_getElem_cons h, List.any_cons]
theorem ext01 (a b : UInt8) : (⟨#[a, b]⟩ : ByteArray).extract 0 1 = ⟨#[a]⟩ := rfl
theorem ext12 (a b : UInt8) : (⟨#[a, b]⟩ : ByteArray).extract 1 2 = ⟨#[b]⟩ := rfl
set_option maxRecDepth 100000 in
set_option maxHeartbeats 4000000 in
theorem twoS5 (x : Ins) (l : List (UInt8 × UInt8)) (g n cap : Nat) (w : World) (hn : l.length = n) (hn8 : n ≤ 8) (hg : g < w.heap.size) (hl : Nm2 w g l) :
    Calls Tryz.prog 43 #[.agg (insV x), .slice (some ⟨g, 0, none⟩) n cap] w fun e w' => e = .returned (.bool (kin2 l x.d.k x.s.k)) ∧ Below w.heap.size w w' := by
  have CD := Lib.hid (kindS5 x.d); have CS := Lib.hid (kindS5 x.s)
  unfold V7 at CD CS
  obtain ⟨op, sz, cd, fr, d, s, ln⟩ := x
  have R0 := Lib.hid (heap_alloc_new w (.cells #[.int .i64 op, .int .i64 sz, .int .i64 cd, .int .i64 fr, .int .i64 d.k, .int .i64 d.r, .int .i64 d.b, .int .i64 d.i, .int .i64 d.s, .int .i64 d.d, .int .i64 d.m, .int .i64 s.k, .int .i64 s.r, .int .i64 s.b, .int .i64 s.i, .int .i64 s.s, .int .i64 s.d, .int .i64 s.m, .int .i64 ln] 33))
  have B0 := Lib.hid (belA w (.cells #[.int .i64 op, .int .i64 sz, .int .i64 cd, .int .i64 fr, .int .i64 d.k, .int .i64 d.r, .int .i64 d.b, .int .i64 d.i, .int .i64 d.s, .int .i64 d.d, .int .i64 d.m, .int .i64 s.k, .int .i64 s.r, .int .i64 s.b, .int .i64 s.i, .int .i64 s.s, .int .i64 s.d, .int .i64 s.m, .int .i64 ln] 33))
  simp only at CD CS
  unfold insV insA
  simp only
  have HN := Lib.hid hn
  have HL := Lib.hid hl
  have HG := Lib.hid hg
  clear hn hl hg
  go_enter Tryz.func43, Tryz.ntmps43
  go_wp2
  go_loopw [5] (fun i wr => ∃ k : Nat, k ≤ n ∧ i = .int .i64 k ∧ Hid (kin2 (l.drop k) d.k s.k = kin2 l d.k s.k) ∧ Hid (Below w.heap.size w wr) ∧ Hid (wr.heap[w.heap.size]? = some (.cells #[.int .i64 op, .int .i64 sz, .int .i64 cd, .int .i64 fr, .int .i64 d.k, .int .i64 d.r, .int .i64 d.b, .int .i64 d.i, .int .i64 d.s, .int .i64 d.d, .int .i64 d.m, .int .i64 s.k, .int .i64 s.r, .int .i64 s.b, .int .i64 s.i, .int .i64 s.s, .int .i64 s.d, .int .i64 s.m, .int .i64 ln] 33 (0, 0)))) (fun i _ => n - (intOf i).toNat)
  case atStart => exact ⟨0, by omega, rfl, Lib.hid rfl, B0, R0⟩
  case round =>
    obtain ⟨k, hk, rfl, HK, HB, HR⟩ := hrel
    have hws : w.heap.size < wr.heap.size := lt_of_blk HR.out
    by_cases hlt : k < n
    · obtain ⟨p, hp⟩ : ∃ p, l[k]? = some p := ⟨_, List.getElem?_eq_getElem (by have := HN.out; omega)⟩
      have q0 := (HL.out.keep HG.out HB.out) k p hp
      have HG2 := Lib.hid (Nat.lt_of_lt_of_le HG.out HB.out.size)
      have HQ := Lib.hid ((kin2_at hp d.k s.k).symm.trans HK.out)
      obtain ⟨p1, p2⟩ := p
      have CD1 := Lib.hid (CD.out p1); have CS1 := Lib.hid (CS.out p2)
      rw [← ext01 p1 p2] at CD1; rw [← ext12 p1 p2] at CS1
      obtain ⟨b1, h1⟩ : ∃ v, v = kl p1 d.k := ⟨_, rfl⟩
      obtain ⟨b2, h2⟩ : ∃ v, v = kl p2 s.k := ⟨_, rfl⟩
      simp only at HQ q0
      rw [← h1] at CD1 HQ; rw [← h2] at CS1 HQ
      clear h1 h2 hp
      have hlt2 : (k : Int) < n := by omega
      have c4 := cell_of_row _ _ 4 _ _ _ HR.out
      have c5 := cell_of_row _ _ 5 _ _ _ HR.out
      have c6 := cell_of_row _ _ 6 _ _ _ HR.out
      have c7 := cell_of_row _ _ 7 _ _ _ HR.out
      have c8 := cell_of_row _ _ 8 _ _ _ HR.out
      have c9 := cell_of_row _ _ 9 _ _ _ HR.out
      have c10 := cell_of_row _ _ 10 _ _ _ HR.out
      have c11 := cell_of_row _ _ 11 _ _ _ HR.out
      have c12 := cell_of_row _ _ 12 _ _ _ HR.out
      have c13 := cell_of_row _ _ 13 _ _ _ HR.out
      have c14 := cell_of_row _ _ 14 _ _ _ HR.out
      have c15 := cell_of_row _ _ 15 _ _ _ HR.out
      have c16 := cell_of_row _ _ 16 _ _ _ HR.out
      have c17 := cell_of_row _ _ 17 _ _ _ HR.out
      simp only [List.getElem?_toArray, List.getElem?_cons_zero, List.getElem?_cons_succ] at c4 c5 c6 c7 c8 c9 c10 c11 c12 c13 c14 c15 c16 c17
      have c4 := cell_grown hws c4
      have c5 := cell_grown hws c5
      have c6 := cell_grown hws c6
      have c7 := cell_grown hws c7
      have c8 := cell_grown hws c8
      have c9 := cell_grown hws c9
      have c10 := cell_grown hws c10
      have c11 := cell_grown hws c11
      have c12 := cell_grown hws c12
      have c13 := cell_grown hws c13
      have c14 := cell_grown hws c14
      have c15 := cell_grown hws c15
      have c16 := cell_grown hws c16
      have c17 := cell_grown hws c17
      have q0 := cell_grown HG2.out q0
      have hm := mixedO
      have BQ := Lib.hid (fun q os => HB.out.trans ((below_growO (w := wr) q os).mono HB.out.size))
      cases b1
      case false =>
        go_wp2
        refine wp_region_quiet_grown (by assumption) (by kernel_rfl) ?_
        repeat (first | go_big_quiet_skip | quiet_step (first | (go_at_call 64; with_reducible refine Calls.grown_of (CD1.out _)) | (go_at_call 64; with_reducible refine Calls.grown_of (CS1.out _))))
        refine wpQuiet_nil ?_
        intro _ hw'
        obtain ⟨⟨nq, osq⟩, hw''⟩ := hw'
        subst hw''
        have BN := Lib.hid (BQ.out nq osq)
        have RN := Lib.hid (((below_growO (w := wr) nq osq).block _ hws).trans HR.out)
        clear c4 c5 c6 c7 c8 c9 c10 c11 c12 c13 c14 c15 c16 c17 q0
        go_wp2
        go_roundw
        case rel => exact ⟨k + 1, by omega, by go_num, Lib.hid (by simpa using HQ.out), BN, RN⟩
        case measure => simp [intOf]; omega
      case true =>
        cases b2
        case false =>
          go_wp2
          refine wp_region_quiet_grown (by assumption) (by kernel_rfl) ?_
          repeat (first | go_big_quiet_skip | quiet_step (first | (go_at_call 64; with_reducible refine Calls.grown_of (CD1.out _)) | (go_at_call 64; with_reducible refine Calls.grown_of (CS1.out _))))
          refine wpQuiet_nil ?_
          intro _ hw'
          obtain ⟨⟨nq, osq⟩, hw''⟩ := hw'
          subst hw''
          have BN := Lib.hid (BQ.out nq osq)
          have RN := Lib.hid (((below_growO (w := wr) nq osq).block _ hws).trans HR.out)
          clear c4 c5 c6 c7 c8 c9 c10 c11 c12 c13 c14 c15 c16 c17 q0
          go_wp2
          go_roundw
          case rel => exact ⟨k + 1, by omega, by go_num, Lib.hid (by simpa using HQ.out), BN, RN⟩
          case measure => simp [intOf]; omega
        case true =>
          go_wp2
          refine wp_region_quiet_grown (by assumption) (by kernel_rfl) ?_
          repeat (first | go_big_quiet_skip | quiet_step (first | (go_at_call 64; with_reducible refine Calls.grown_of (CD1.out _)) | (go_at_call 64; with_reducible refine Calls.grown_of (CS1.out _))))
          refine wpQuiet_nil ?_
          intro _ hw'
          obtain ⟨⟨nq, osq⟩, hw''⟩ := hw'
          subst hw''
          go_wp2
          go_ret
          exact ⟨ret_bo (by simpa using HQ.out), BQ.out nq osq⟩
    · have e : k = n := by omega
      have HF := HK.out
      rw [e, ← HN.out, List.drop_length] at HF
      have HF := Lib.hid HF
      have h2 : decide (k < n) = false := decide_eq_false hlt
      clear e hws hlt
      go_wp2
      go_ret
      exact ⟨ret_bo HF.out, HB.out⟩
end Go.Proofs.YtjnjlgaemmdkhaaGreatDoor
