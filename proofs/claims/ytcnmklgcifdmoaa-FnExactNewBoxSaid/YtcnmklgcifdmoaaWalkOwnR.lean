/-
  laws.toIntS and laws.toReport with what they own, marks of reports of any lists, and what is kept behind marks; conditions: those in each head.
-/
import Derived.Test.YtcnmklgcifdmoaaWalkRep
import Derived.Test.YtcnmklgcifdmoaaLawWrite
namespace Go.Proofs.Ytcnmklgcifdmoaa
open Go.RowKit Go.Sort
set_option linter.unusedVariables false
set_option linter.unusedSimpArgs false
/-- a list of ints of its own, in block g -/
def OwZ (B : Nat) (W : World) (g : Nat) (L : List Int) : Prop := W.ownsRow B 3 1 (.slice (some ⟨g, 0, none⟩) L.length L.length) L.length (L.map fun z => .int .i64 z)
theorem OwZ.kept {B g : Nat} {w w' : World} {L : List Int} (h : OwZ B w g L) (hb : w'.heap[g]? = w.heap[g]?) : OwZ B w' g L := by
  refine ⟨h.1, ?_⟩
  rcases h.2 with ⟨h', _⟩ | ⟨g', cap, cur, e1, e2, e3, e4⟩
  · cases h'
  · cases e1
    exact .inr ⟨_, _, cur, rfl, e2, hb.trans e3, e4⟩
theorem OwZ.lt {B g : Nat} {w : World} {L : List Int} (h : OwZ B w g L) : B ≤ g ∧ g < w.heap.size := by
  rcases h.2 with ⟨h', _⟩ | ⟨g', cap, cur, e1, e2, e3, e4⟩
  · cases h'
  · cases e1
    exact ⟨e2, (Array.getElem?_eq_some_iff.1 e3).1⟩
theorem OwZ.below {B g : Nat} {w w' : World} {L : List Int} (h : OwZ B w g L) (hb : Below w.heap.size w w') : OwZ B w' g L := h.kept (hb.block _ h.lt.2)
theorem OwZ.le {B B' g : Nat} {w : World} {L : List Int} (h : OwZ B w g L) (hb : B' ≤ B) : OwZ B' w g L := Joins.ownsRow_le h hb
theorem OwZ.rd {B g : Nat} {w : World} {L : List Int} (h : OwZ B w g L) : RdZ w (some ⟨g, 0, none⟩) L := rdZ_own h
theorem OwZ.kset {w W : World} {A : Array Value} {x0 x1 x2 x3 : Value} {a : Nat} {L : List Int} (h : OwZ w.heap.size W a L) (T : TR w W A x0 x1 x2 x3) (ha : w.heap.size + 1 + 1 < a) (j : Nat) (v : Value) : OwZ w.heap.size (W.setCell ⟨w.heap.size + 1 + 1, j, none⟩ v) a L :=
  h.kept (Below.heap_setCell _ _ _ _ (by simp; omega))
set_option maxHeartbeats 1000000 in
theorem toIntsW (p : Option Addr) (cap : Nat) (L : List Int) (w : World) (hr : RdA w p L) (hn : L.length ≤ 1048576) :
    Calls Try.prog 61 #[.slice p L.length cap] w fun e w' => e = .returned (.slice (some ⟨w.heap.size, 0, none⟩) L.length L.length) ∧ OwZ w.heap.size w' w.heap.size L ∧ Below w.heap.size w w' := by
  obtain ⟨i0, hi, hz0, hz1, hz2⟩ := info_parts infoZ
  have HR := Lib.hid hr
  clear hr
  go_enter Try.func61, Try.ntmps61
  go_wp2_with (at_make; refine wpList_make_full _ rfl _ _ 25 rfl w.heap.size 3 i0 _ 1 Try.underlying25 hi hz0 hz1 .i64 .i64 _ _ L.length rfl rfl rfl rfl (by rw [hz2]; omega) (by unfold maxLen; omega) (Nat.le_refl _) ?_; intro w0 hown0 hgrow0)
  have hb0 : Below w.heap.size w w0 := (Below.refl _ _).grown hgrow0 (Nat.le_refl _) (fun _ h => by cases h)
  clear hgrow0
  rw [mixZ_zero] at hown0
  go_loopw [4] (fun i wr => ∃ k : Nat, k ≤ L.length ∧ i = .int .i64 k ∧ Hid (wr.ownsRow w.heap.size 3 1 (.slice (some ⟨w.heap.size, 0, none⟩) L.length L.length) L.length (mixZ L k)) ∧ Hid (Below w.heap.size w wr)) (fun i _ => L.length - (intOf i).toNat)
  case atStart => exact ⟨0, Nat.zero_le _, rfl, Lib.hid hown0, Lib.hid hb0⟩
  case round =>
    obtain ⟨k, hk, rfl, HO, HB⟩ := hrel
    by_cases hlt : k < L.length
    · obtain ⟨z, hz⟩ : ∃ z, L[k]? = some z := ⟨_, List.getElem?_eq_getElem hlt⟩
      obtain ⟨b, o, rfl, hbl, hc⟩ : ∃ b o, p = some ⟨b, o, none⟩ ∧ b < w.heap.size ∧ ∀ k z, L[k]? = some z → w.cell? ⟨b, o + k, none⟩ = some (.int .i64 z) := by
        rcases HR.out.1 with h | h
        · rw [h] at hlt; simp at hlt
        · exact h
      have c0 := (HB.out.cell (p := ⟨b, o + k, none⟩) hbl).trans (hc k z hz)
      obtain ⟨u0, d0⟩ : ∃ u, wr.cell? ⟨w.heap.size, k, none⟩ = some u := by
        rw [HO.out.cellAt k (by omega)]; exact ⟨_, List.getElem?_eq_getElem (by rw [HO.out.1]; omega)⟩
      have f0 := HO.out.frozenAt k
      have HZ := Lib.hid hz
      clear hz hc
      go_wp2
      go_roundw
      case rel => exact ⟨k + 1, by omega, by go_num, Lib.hid (by rw [← mixZ_set L k z HZ.out]; exact (HO.out.stored k _).1), Lib.hid (HB.out.setCell (Nat.le_refl _) _)⟩
      case measure => simp [intOf]; omega
    · obtain rfl : k = L.length := by omega
      have hrz : OwZ w.heap.size wr w.heap.size L := by have := HO.out; rw [mixZ_all] at this; exact this
      go_wp2
      go_ret
      exact ⟨rfl, hrz, HB.out⟩
def IntsOw (L : List Int) (w : World) (e : Ending) (w' : World) : Prop := ∃ g : Nat, e = .returned (.slice (some ⟨g, 0, none⟩) L.length L.length) ∧ OwZ w.heap.size w' g L ∧ w.heap.size ≤ g ∧ g < w'.heap.size ∧ Below w.heap.size w w'
theorem toIntsV (p : Option Addr) (cap : Nat) (L : List Int) (w : World) (hr : RdA w p L) (hn : L.length ≤ 1048576) :
    Calls Try.prog 61 #[.slice p L.length cap] w (IntsOw L w) :=
  (toIntsW p cap L w hr hn).mono fun e w' ⟨h1, h2, h3⟩ => ⟨_, h1, h2, Nat.le_refl _, h2.lt.2, h3⟩
/-- a report of lists of its own -/
def RepOw (L0 L1 L2 : List Int) (n : Int) (w : World) (e : Ending) (w' : World) : Prop :=
  ∃ a0 a1 a2 : Nat, e = .returned (.agg #[.slice (some ⟨a0, 0, none⟩) L0.length L0.length, .slice (some ⟨a1, 0, none⟩) L1.length L1.length, .slice (some ⟨a2, 0, none⟩) L2.length L2.length, .int .i64 n]) ∧ OwZ w.heap.size w' a0 L0 ∧ OwZ w.heap.size w' a1 L1 ∧ OwZ w.heap.size w' a2 L2 ∧ w.heap.size ≤ a0 ∧ a0 < a1 ∧ a1 < a2 ∧ a2 < w'.heap.size ∧ Below w.heap.size w w'
set_option maxHeartbeats 2000000 in
theorem toRepW (q0 q1 q2 : Option Addr) (L0 L1 L2 : List Int) (p0 p1 p2 : Nat) (n : Int) (w : World) (r0 : RdA w q0 L0) (r1 : RdA w q1 L1) (r2 : RdA w q2 L2) (h : L0.length + L1.length + L2.length ≤ 1048576) :
    Calls Try.prog 32 #[.agg #[.slice q0 L0.length p0, .slice q1 L1.length p1, .slice q2 L2.length p2, .int .i64 n]] w (RepOw L0 L1 L2 n w) := by
  have T0 : TR w (((w.alloc (.cells #[.slice q0 L0.length p0, .slice q1 L1.length p1, .slice q2 L2.length p2, .int .i64 n] 27)).alloc (.cells #[.slice none 0 0, .slice none 0 0, .slice none 0 0, .int .i64 0] 41)).alloc (.cells #[.slice none 0 0, .slice none 0 0, .slice none 0 0, .int .i64 0] 41)) #[.slice q0 L0.length p0, .slice q1 L1.length p1, .slice q2 L2.length p2, .int .i64 n] (.slice none 0 0) (.slice none 0 0) (.slice none 0 0) (.int .i64 0) := by
    refine ⟨?_, ?_, ?_, (((Below.refl _ _).alloc (Nat.le_refl _) _).alloc (by simp) _).alloc (by simp; omega) _⟩
    · rw [Below.heap_alloc _ _ _ (by simp; omega), Below.heap_alloc _ _ _ (by simp)]; exact heap_alloc_new _ _
    · rw [Below.heap_alloc _ _ _ (by simp)]
      have := heap_alloc_new (w.alloc (.cells #[.slice q0 L0.length p0, .slice q1 L1.length p1, .slice q2 L2.length p2, .int .i64 n] 27)) (.cells #[.slice none 0 0, .slice none 0 0, .slice none 0 0, .int .i64 0] 41)
      simpa using this
    · have := heap_alloc_new ((w.alloc (.cells #[.slice q0 L0.length p0, .slice q1 L1.length p1, .slice q2 L2.length p2, .int .i64 n] 27)).alloc (.cells #[.slice none 0 0, .slice none 0 0, .slice none 0 0, .int .i64 0] 41)) (.cells #[.slice none 0 0, .slice none 0 0, .slice none 0 0, .int .i64 0] 41)
      simpa using this
  have R0 := Lib.hid r0; have R1 := Lib.hid r1; have R2 := Lib.hid r2; have T0 := Lib.hid T0
  have l0 : L0.length ≤ 1048576 := by omega
  have l1 : L1.length ≤ 1048576 := by omega
  have l2 : L2.length ≤ 1048576 := by omega
  clear r0 r1 r2 h
  go_enter Try.func32, Try.ntmps32
  go_wp2_with fail
  refine (toIntsV q0 p0 L0 _ (R0.out.below T0.out.be) l0).mono ?_
  rintro e w1 ⟨a0, rfl, z0, g0, y0, b1⟩
  have T1 := Lib.hid (T0.out.call b1)
  have G0 : w.heap.size + 1 + 1 < a0 := Nat.lt_of_lt_of_le (lt_of_heap T0.out.y) g0
  have c1 := cell_of_row _ _ 1 _ _ _ T1.out.a
  have d0 := cell_of_row _ _ 0 _ _ _ T1.out.y
  have f0 := T1.out.free 0
  simp only [List.getElem?_toArray, List.getElem?_cons_zero, List.getElem?_cons_succ] at c1 d0
  have S1 := Lib.hid (T1.out.set 0 (.slice (some ⟨a0, 0, none⟩) L0.length L0.length))
  have Z0 := Lib.hid ((z0.le T0.out.be.size).kset T1.out G0 0 (.slice (some ⟨a0, 0, none⟩) L0.length L0.length))
  have y0' : a0 < (w1.setCell ⟨w.heap.size + 1 + 1, 0, none⟩ (.slice (some ⟨a0, 0, none⟩) L0.length L0.length)).heap.size := by simpa using y0
  clear b1 z0 T0 g0 y0
  go_wp2_with fail
  refine (toIntsV q1 p1 L1 _ (R1.out.below S1.out.be) l1).mono ?_
  rintro e w2 ⟨a1, rfl, z1, g1, y1, b2⟩
  have T2 := Lib.hid (S1.out.call b2)
  have G1 : w.heap.size + 1 + 1 < a1 := Nat.lt_of_lt_of_le (lt_of_heap S1.out.y) g1
  have g1' : a0 < a1 := Nat.lt_of_lt_of_le y0' g1
  have y1' : a1 < (w2.setCell ⟨w.heap.size + 1 + 1, 1, none⟩ (.slice (some ⟨a1, 0, none⟩) L1.length L1.length)).heap.size := by simpa using y1
  have Z02 := Lib.hid ((Z0.out.below b2).kset T2.out G0 1 (.slice (some ⟨a1, 0, none⟩) L1.length L1.length))
  have Z12 := Lib.hid ((z1.le S1.out.be.size).kset T2.out G1 1 (.slice (some ⟨a1, 0, none⟩) L1.length L1.length))
  clear c1 d0 f0
  have c2 := cell_of_row _ _ 2 _ _ _ T2.out.a
  have d1 := cell_of_row _ _ 1 _ _ _ T2.out.y
  have f1 := T2.out.free 1
  simp only [List.getElem?_toArray, List.getElem?_cons_zero, List.getElem?_cons_succ] at c2 d1
  have S2 := Lib.hid (T2.out.set 1 (.slice (some ⟨a1, 0, none⟩) L1.length L1.length))
  have H01 := Lib.hid g1'
  clear b2 z1 Z0 S1 T1 g1 y1 y0' g1'
  go_wp2_with fail
  refine (toIntsV q2 p2 L2 _ (R2.out.below S2.out.be) l2).mono ?_
  rintro e w3 ⟨a2, rfl, z2, g2, y2, b3⟩
  have T3 := Lib.hid (S2.out.call b3)
  have G2 : w.heap.size + 1 + 1 < a2 := Nat.lt_of_lt_of_le (lt_of_heap S2.out.y) g2
  have H12 : Hid (a1 < a2) := Lib.hid (Nat.lt_of_lt_of_le y1' g2)
  have Z03 := (Z02.out.below b3).kset T3.out G0 2 (.slice (some ⟨a2, 0, none⟩) L2.length L2.length)
  have Z13 := (Z12.out.below b3).kset T3.out G1 2 (.slice (some ⟨a2, 0, none⟩) L2.length L2.length)
  have Z23 := (z2.le S2.out.be.size).kset T3.out G2 2 (.slice (some ⟨a2, 0, none⟩) L2.length L2.length)
  have S3 := T3.out.set 2 (.slice (some ⟨a2, 0, none⟩) L2.length L2.length)
  have Z04 := Lib.hid (Z03.kset S3 G0 3 (.int .i64 n)); have Z14 := Lib.hid (Z13.kset S3 G1 3 (.int .i64 n)); have Z24 := Lib.hid (Z23.kset S3 G2 3 (.int .i64 n))
  have S4 := Lib.hid (S3.set 3 (.int .i64 n))
  have S3 := Lib.hid S3
  have hs4 : w3.heap.size ≤ w3.heap.size := Nat.le_refl _
  have H2 := Lib.hid y2
  clear c2 d1 f1 b3 z2 Z03 Z13 Z23 g2 Z02 Z12 S2 T2 y2 y1' hs4
  have d2 := cell_of_row _ _ 2 _ _ _ T3.out.y
  have f2 := T3.out.free 2
  have c3 := cell_of_row _ _ 3 _ _ _ S3.out.a
  have d3 := cell_of_row _ _ 3 _ _ _ S3.out.y
  have f3 := S3.out.free 3
  simp only [List.getElem?_toArray, List.getElem?_cons_zero, List.getElem?_cons_succ] at d2 c3 d3
  have Y4 := S4.out.y; have Z4 := S4.out.z
  simp only [if_true, if_false, Nat.zero_ne_one, reduceIte, Nat.reduceEqDiff] at Y4
  have t1 : (#[.slice (some ⟨a0, 0, none⟩) L0.length L0.length, .slice (some ⟨a1, 0, none⟩) L1.length L1.length, .slice (some ⟨a2, 0, none⟩) L2.length L2.length, .int .i64 n] : Array Value).all (·.oneCell') = true := by kernel_rfl
  have t2 : (Try.prog.info? 41).map (·.size) = some (#[.slice (some ⟨a0, 0, none⟩) L0.length L0.length, .slice (some ⟨a1, 0, none⟩) L1.length L1.length, .slice (some ⟨a2, 0, none⟩) L2.length L2.length, .int .i64 n] : Array Value).size := by kernel_rfl
  go_wp2_with ((refine wpList_load_row rfl 41 (.tmp 3) rfl (w.heap.size + 1 + 1) rfl 41 _ (0, 0) _ Y4 Try.underlying41 rfl (by kernel_rfl) ?_); (refine wpList_store_row rfl 41 (.tmp 2) (.tmp 19) rfl (w.heap.size + 1) #[.slice (some ⟨a0, 0, none⟩) L0.length L0.length, .slice (some ⟨a1, 0, none⟩) L1.length L1.length, .slice (some ⟨a2, 0, none⟩) L2.length L2.length, .int .i64 n] rfl rfl 41 _ Z4 t2 rfl t1 ?_))
  refine bodyPost_ret (v := .agg #[.slice (some ⟨a0, 0, none⟩) L0.length L0.length, .slice (some ⟨a1, 0, none⟩) L1.length L1.length, .slice (some ⟨a2, 0, none⟩) L2.length L2.length, .int .i64 n]) (by exact results_cell_row Try.results32 _ _ (w.heap.size + 1) 41 _ (0, 0) _ rfl (setRow_heap _ _ _ _ _ _ Z4) Try.underlying41 rfl (by kernel_rfl)) (by rfl) ?_
  have k (V : World) (a : Nat) (L : List Int) (G : w.heap.size + 1 + 1 < a) (z : OwZ w.heap.size V a L) (c : Array Value) := z.kept (w' := World.setRow V (w.heap.size + 1) c) (setRow_other _ _ a _ (by omega))
  exact ⟨a0, a1, a2, rfl, k _ a0 L0 G0 Z04.out _, k _ a1 L1 G1 Z14.out _, k _ a2 L2 G2 Z24.out _, by omega, H01.out, H12.out, by simpa using H2.out, below_setRowR S4.out.be (by omega) (Nat.le_refl _) _⟩
/-- all is kept but blocks from lo on and below hi -/
structure Keep (lo hi : Nat) (w w' : World) : Prop where
  os : w'.os = w.os
  tape : w'.tape = w.tape
  output : w'.output = w.output
  size : w.heap.size ≤ w'.heap.size
  block : ∀ k, k < w.heap.size → (k < lo ∨ hi ≤ k) → w'.heap[k]? = w.heap[k]?
theorem Keep.of_grown {w w' : World} {g lo hi : Nat} (h : w.grownBy w' (some g)) (h1 : lo ≤ g) (h2 : g < hi) : Keep lo hi w w' :=
  ⟨h.os, h.tape, h.output, h.size, fun k hk hc => h.block k hk (by simp; omega)⟩
theorem Keep.of_grown' {w w' : World} {row : Option Nat} {lo hi : Nat} (h : w.grownBy w' row) (h1 : ∀ g, row = some g → lo ≤ g ∧ g < hi) : Keep lo hi w w' :=
  ⟨h.os, h.tape, h.output, h.size, fun k hk hc => h.block k hk (fun e => by have := h1 k e.symm; omega)⟩
theorem Keep.of_below {w w' : World} {lo hi : Nat} (h : Below w.heap.size w w') : Keep lo hi w w' := ⟨h.os, h.tape, h.output, h.size, fun k hk _ => h.block k hk⟩
theorem Keep.trans {w w' w'' : World} {lo hi : Nat} (h : Keep lo hi w w') (h' : Keep lo hi w' w'') : Keep lo hi w w'' :=
  ⟨h'.os.trans h.os, h'.tape.trans h.tape, h'.output.trans h.output, Nat.le_trans h.size h'.size, fun k hk hc => (h'.block k (Nat.lt_of_lt_of_le hk h.size) hc).trans (h.block k hk hc)⟩
theorem Keep.below {w W W' : World} {lo hi : Nat} (hb : Below w.heap.size w W) (h : Keep lo hi W W') (hl : w.heap.size ≤ lo) : Below w.heap.size w W' :=
  ⟨h.os.trans hb.os, h.tape.trans hb.tape, h.output.trans hb.output, Nat.le_trans hb.size h.size, fun k hk => (h.block k (Nat.lt_of_lt_of_le hk hb.size) (.inl (Nat.lt_of_lt_of_le hk hl))).trans (hb.block k hk)⟩
theorem OwZ.wz {B g : Nat} {w : World} {L : List Int} (h : OwZ B w g L) : Wz w g L.length := by
  refine ⟨h.lt.2, fun j hj => ⟨?_, World.ownsRow.frozenAt h j⟩⟩
  have e := World.ownsRow.cellAt h j (by omega)
  rw [e]
  exact ⟨L[j], by simp [List.getElem?_eq_getElem hj]⟩
set_option maxHeartbeats 2000000 in
theorem markIntsG (g n c K : Nat) (w : World) (hW : Wz w g n) (hn : n ≤ 1048576) (hK : K ≤ 1073741824) :
    Calls Try.prog 66 #[.slice (some ⟨g, 0, none⟩) n c, .int .i64 (K : Int)] w fun e w' => e = .returned (.int .i64 ((K + n : Nat) : Int)) ∧ w.grownBy w' (some g) ∧ w'.heap.size = w.heap.size := by
  have HW := Lib.hid hW
  clear hW
  go_enter Try.func66, Try.ntmps66
  go_wp2
  go_loopw [1, 5] (fun m i wr => ∃ k : Nat, i = .int .i64 (k : Int) ∧ m = .int .i64 ((K + k : Nat) : Int) ∧ k ≤ n ∧ Hid (Wz wr g n) ∧ Hid (w.grownBy wr (some g)) ∧ Hid (wr.heap.size = w.heap.size)) (fun _ i _ => n - (intOf i).toNat)
  case atStart => exact ⟨0, rfl, rfl, Nat.zero_le _, HW, Lib.hid (World.grownBy.refl _ _), Lib.hid rfl⟩
  case round =>
    obtain ⟨k, rfl, rfl, hk, HZ, HG, HS⟩ := hrel
    by_cases hlt : k < n
    · have hk' : (k : Int) < (n : Int) := by omega
      obtain ⟨⟨z, cz⟩, fz⟩ := HZ.out.2 k hlt
      have HZ2 := Lib.hid (HZ.out.set (k := k) (v := ((K + k : Nat) : Int)))
      have HG2 : Hid (w.grownBy (wr.setCell ⟨g, k, none⟩ (.int .i64 ((K + k : Nat) : Int))) (some g)) := Lib.hid (HG.out.andThen (World.grownBy_setCell wr ⟨g, k, none⟩ _) (fun j hj => Or.inr hj))
      have HS2 : Hid ((wr.setCell ⟨g, k, none⟩ (.int .i64 ((K + k : Nat) : Int))).heap.size = w.heap.size) := Lib.hid (by rw [← HS.out]; simp [World.setCell])
      obtain ⟨M, hM⟩ : ∃ M, M = K + k := ⟨_, rfl⟩
      rw [← hM] at HZ2 HG2 HS2 ⊢
      have hM2 : M ≤ 2147483648 := by omega
      have e1 : IntKind.i64.wrap ((M : Int) + 1) = ((K + (k + 1) : Nat) : Int) := by rw [IntWalk.i64_in _ (by omega)]; omega
      clear hM
      go_wp2
      go_roundw
      case rel => exact ⟨k + 1, by go_num, rfl, by omega, HZ2, HG2, HS2⟩
      case measure => simp [intOf]; omega
    · obtain rfl : k = n := by omega
      go_wp2
      go_ret
      exact ⟨rfl, HG.out, HS.out⟩
end Go.Proofs.Ytcnmklgcifdmoaa
