/-
  What l04Decode of the specification does; conditions: those in each head.
  What plain of the specification's decoder does, by the form; conditions: those in each head.
  What an instruction of the bytes at a place of a text is, for both decoders, and that the specification's steps lead to it; no condition but those in each head.
  What head of the specification's decoder does, whole: it reads what prefD and opcD tell; conditions: those in each head.
  What modrm, plain and l04Decode of the specification do, whole: the instruction that the bytes are, or a code; conditions: those in each head.
  What impl.Decode and spec.Decode answer, of any text and place; conditions: those in each head.
  What spec.Decode answers, of any text and place; conditions: those in each head.
  The tables and the two sentinels that a decoder reads, out of what a row lists; no condition but those in each head.
  The comparison of two instructions that are alike; no condition.
  What impl.LengthAt and spec.LengthAt answer, of any text and place; conditions: those in each head.
-/
import Derived.Test.YtinjpobepcenfaaDoorWalkIn7
import Derived.BigQuiet
import Derived.Test.YtinjpobepcenfaaDoorWalkDec
import Derived.Test.YtinjpobepcenfaaDoorWalkIn11
import Derived.Test.YtinjpobepcenfaaDoorWalkShape4
import Derived.Test.YtinjpobepcenfaaDoorWalkIn8
import Derived.Test.YtinjpobepcenfaaDoorWalkDecErr
import Derived.Test.YtinjpobepcenfaaDoorWalkMetA
import Derived.Test.YtinjpobepcenfaaDoorWalkGroup
import Derived.Test.YtinjpobepcenfaaDoorWalkErr
import Derived.Test.YtinjpobepcenfaaDoorWalkIn6
namespace Go.Proofs.YtinjpobepcenfaaDoor
open Go.RowKit Go.Sort
set_option linter.unusedVariables false
set_option linter.unusedSimpArgs false
/-- within l04Decode: the decoder and the result's block -/
structure Dc (w W : World) (I : In) : Prop where
  at' : IAt w W (w.heap.size + 1) I
  r : W.heap[w.heap.size]? = some (.cells zIns 29 (0, 0))
theorem keepB {W0 W W' : World} {g k : Nat} {I : In} {o : Obj} (hw : IWr W0 W W' g I) (hk : k ≠ g) (hb : W.heap[k]? = some o) : W'.heap[k]? = some o :=
  (hw.2.block k (lt_of_blk hb) (fun e => hk (Option.some.inj e))).trans hb
theorem Dc.wr {w W W' : World} {I I' : In} (h : Dc w W I) (hw : IWr w W W' (w.heap.size + 1) I') : Dc w W' I' := ⟨hw.1, keepB hw (by omega) h.r⟩
theorem Dc.below {w W W' : World} {I : In} (h : Dc w W I) (hb : Below W.heap.size W W') : Dc w W' I := h.wr (IWr.of_below h.at' hb)
theorem Dc.drew {w W : World} {I : In} (h : Dc w W I) : Dc w W.drew I := h.below ((Below.refl _ _).drew)
theorem Dc.row {w W : World} {I : In} {b : Nat} (h : Dc w W I) (hb : w.heap.size + 2 ≤ b) (cs : Array Value) : Dc w (W.setRow b cs) I := ⟨h.at'.setRow (by omega) (by omega), (setRow_heap_ne _ _ _ _ (by omega)).trans h.r⟩
theorem Dc.cell {w W : World} {I : In} {b : Nat} (h : Dc w W I) (hb : w.heap.size + 2 ≤ b) (i : Nat) (v : Value) : Dc w (W.setCell ⟨b, i, none⟩ v) I := by
  have hn (k : Nat) (hk : k ≠ b) : (W.setCell ⟨b, i, none⟩ v).heap[k]? = W.heap[k]? := Below.heap_setCell _ _ _ _ (by simpa using hk)
  exact ⟨⟨(hn _ (by omega)).trans h.at'.rb, h.at'.ge, h.at'.be.setCell (by show _ ≤ b; omega) _, h.at'.sz, h.at'.le, h.at'.x8⟩, (hn _ (by omega)).trans h.r⟩
theorem Dc.res {w W : World} {I : In} (h : Dc w W I) : Dc w (W.setRow w.heap.size zIns) I := ⟨h.at'.setRow (Nat.le_refl _) (by omega), setRow_heap _ _ _ _ _ _ h.r⟩
theorem Dc.fin {w W : World} {I : In} (h : Dc w W I) (cs : Array Value) : Below w.heap.size w (W.setRow w.heap.size cs) := below_setRowB h.at'.be (Nat.le_refl _)
theorem Dc.sz2 {w W : World} {I : In} (h : Dc w W I) : w.heap.size + 2 ≤ W.heap.size := by have := lt_of_blk h.at'.rb; omega
theorem Dc.new (s : ByteArray) (n : Nat) (w : World) (hs : s.size ≤ 65536) (hn : n ≤ s.size) : Dc w ((w.alloc (.cells zIns 29)).alloc (.cells (inA ⟨s, n, 0, false, 0⟩) 64)) ⟨s, n, 0, false, 0⟩ := by
  have e : (w.alloc (.cells zIns 29)).heap.size = w.heap.size + 1 := by simp
  refine ⟨⟨?_, by omega, ((Below.refl _ _).alloc (Nat.le_refl _) _).alloc (by omega) _, hs, hn, by show 0 < 80; omega⟩, (Below.heap_alloc _ _ _ (by simp)).trans (heap_alloc_new w _)⟩
  have := heap_alloc_new (w.alloc (.cells zIns 29)) (.cells (inA ⟨s, n, 0, false, 0⟩) 64)
  rw [e] at this
  exact this
theorem ZB.othC {W : World} {b k i : Nat} {z : Shp} {v : Value} (h : ZB W b z) (hk : b ≠ k) : ZB (W.setCell ⟨k, i, none⟩ v) b z := (Below.heap_setCell _ _ _ _ (by simpa using hk)).trans h
set_option maxRecDepth 100000 in
set_option maxHeartbeats 2000000 in
theorem dcErr (s : ByteArray) (n b : Nat) (z : Shp) (I : In) (w : World) (hs : s.size ≤ 65536) (hn : n ≤ s.size) (hc : I.c ≠ 0)
  (C : Hid (∀ W, IAt w W (w.heap.size + 1) ⟨s, n, 0, false, 0⟩ → Calls Tryd.prog 46 #[.pointer (some ⟨w.heap.size + 1, 0, none⟩)] W fun e w' => e = .returned (.tuple #[shpV z, .int .i64 (b : Int)]) ∧ IWr w W w' (w.heap.size + 1) I)) :
    Calls Tryd.prog 31 #[.string s, .int .i64 (n : Int)] w fun e w' => e = .returned (.tuple #[.agg zIns, .int .i64 I.c]) ∧ Below w.heap.size w w' := by
  have M0 := Lib.hid (Dc.new s n w hs hn)
  clear hs hn
  have hc' : (I.c != 0) = true := bne_iff_ne.mpr hc
  clear hc
  go_enter Tryd.func31, Tryd.ntmps31
  go_upto_region 2 with fail
  refine abs_world (T := fun W => Dc w W ⟨s, n, 0, false, 0⟩) (G := fun W => Code.wp _ _ _ _ W) _ (M0.out) ?_
  clear M0
  intro W M
  apply wp_region_list
  refine Great.wpList_runTo rfl (some 16) rfl (.pointer (some ⟨w.heap.size + 1, 0, none⟩)) W (by first | (go_simp; done) | rfl) ?_
  simp only [Act.put, List.setIfInBounds_toArray, List.set_cons_zero, List.set_cons_succ]
  have M0 := Lib.hid M
  clear M
  refine callStep rfl (some 17) rfl 46 #[.pointer (some ⟨w.heap.size + 1, 0, none⟩)] (by first | (go_simp; done) | rfl) (C.out _ M0.out.at') ?_
  rintro e W ⟨rfl, hw⟩
  refine ⟨.tuple #[shpV z, .int .i64 (b : Int)], rfl, ?_⟩
  simp only [Act.put, List.setIfInBounds_toArray, List.set_cons_zero, List.set_cons_succ]
  have M := M0.out.wr hw
  clear hw M0
  have l7 : w.heap.size + 2 ≤ W.heap.size := Dc.sz2 M
  refine Great.wpList_runTo rfl (some 15) rfl (.tuple #[shpV z, .int .i64 (b : Int)]) W (by first | (go_simp; done) | rfl) ?_
  simp only [Act.put, List.setIfInBounds_toArray, List.set_cons_zero, List.set_cons_succ]
  refine Great.wpList_runTo rfl (some 18) rfl (shpV z) W (by first | (go_simp; done) | rfl) ?_
  simp only [Act.put, List.setIfInBounds_toArray, List.set_cons_zero, List.set_cons_succ]
  refine Great.wpList_runTo rfl (some 19) rfl (.int .i64 (b : Int)) W (by first | (go_simp; done) | rfl) ?_
  simp only [Act.put, List.setIfInBounds_toArray, List.set_cons_zero, List.set_cons_succ]
  refine Great.wpList_runTo rfl (some 7) rfl (.pointer (some ⟨W.heap.size, 0, none⟩)) (W.alloc (.cells #[.int .i64 0, .int .i64 0, .int .i64 0, .bool false, .int .i64 0] 55)) (by first | (go_simp; done) | rfl) ?_
  simp only [Act.put, List.setIfInBounds_toArray, List.set_cons_zero, List.set_cons_succ]
  refine wpList_store_row rfl 55 (.tmp 7) (.tmp 18) rfl (W.heap.size) (shpA z) ?_ ?_ 55 _ (heap_alloc_new W _) (by kernel_rfl) rfl (shpA_one _) ?_
  · rfl
  · rfl
  go_upto_region 3 with fail
  refine abs_world (T := fun W => Dc w W I) (G := fun W => Code.wp _ _ _ _ W) _ ((M.below (bel_alloc _ _)).row l7 (shpA z)) ?_
  clear l7 M
  intro W M
  have c4 := M.at'.rb.cell 4
  simp only [inA, List.getElem?_toArray, List.getElem?_cons_zero, List.getElem?_cons_succ] at c4
  go_upto_region 4 with fail
  clear c4
  refine wp_region_held_drew (S := fun W' => Dc w W' I) (by kernel_rfl) M.drew (fun (hH : Dc w _ I) => ?_)
  refine takeTo 0 (v := ?_) rfl (some 25) rfl (by kernel_rfl) (by kernel_rfl) (by kernel_rfl) (fun _ _ _ h => h) (Or.inl ⟨by rfl, ?_⟩) hH ?_
  rotate_left
  · intro w' hS
    go_simp
    try (with_reducible rfl)
  simp only [Act.put, List.setIfInBounds_toArray, List.set_cons_zero, List.set_cons_succ]
  refine takeTo 1 (v := ?_) rfl (some 26) rfl (by kernel_rfl) (by kernel_rfl) (by kernel_rfl) (fun _ _ _ h => h) (Or.inl ⟨by rfl, ?_⟩) hH ?_
  rotate_left
  · intro w' hS
    go_simp
    try (with_reducible rfl)
  simp only [Act.put, List.setIfInBounds_toArray, List.set_cons_zero, List.set_cons_succ]
  refine takeTo 2 (v := ?_) rfl (some 27) rfl (by kernel_rfl) (by kernel_rfl) (by kernel_rfl) (fun _ _ _ h => h) (Or.inl ⟨by rfl, ?_⟩) hH ?_
  rotate_left
  · intro w' hS
    go_simp
    try (with_reducible rfl)
  simp only [Act.put, List.setIfInBounds_toArray, List.set_cons_zero, List.set_cons_succ]
  refine takeTo 3 (v := ?_) rfl (some 28) rfl (by kernel_rfl) (by kernel_rfl) (by kernel_rfl) (fun _ _ _ h => h) (Or.inl ⟨by rfl, ?_⟩) hH ?_
  rotate_left
  · intro w' hS
    go_simp
    try (with_reducible rfl)
  simp only [Act.put, List.setIfInBounds_toArray, List.set_cons_zero, List.set_cons_succ]
  refine takeTo 4 (v := ?_) rfl (some 29) rfl (by kernel_rfl) (by kernel_rfl) (by kernel_rfl) (fun _ _ _ h => h) (Or.inl ⟨by rfl, ?_⟩) hH ?_
  rotate_left
  · intro w' hS
    have c4 := hS.at'.rb.cell 4
    simp only [inA, List.getElem?_toArray, List.getElem?_cons_zero, List.getElem?_cons_succ] at c4
    go_simp
    try (with_reducible rfl)
  simp only [Act.put, List.setIfInBounds_toArray, List.set_cons_zero, List.set_cons_succ]
  refine wpAnyH_ready (rs := [5]) (by kernel_rfl) (by simp) ?_
  refine consRow rfl rfl 29 (.tmp 4) (.tmp 25) rfl rfl (w.heap.size) zIns ?_ ?_ 29 _ (hH.r) ?_ ?_ (ins_one _ _ _ _ _ _ _) (hH.res) ?_ ?_
  · rfl
  · rfl
  · kernel_rfl
  · rfl
  · have hH := hH.res
    refine takeTo 6 (v := ?_) rfl (some 5) rfl (by kernel_rfl) (by kernel_rfl) (by kernel_rfl) (fun _ _ _ h => h) (Or.inl ⟨by rfl, ?_⟩) hH ?_
    rotate_left
    · intro w' hS
      go_simp
      try (with_reducible rfl)
    simp only [Act.put, List.setIfInBounds_toArray, List.set_cons_zero, List.set_cons_succ]
    refine wpAnyH_done (by kernel_rfl) ?_ _
    have M := hH
    go_wp2_with fail
    refine bodyPost_ret (v := .tuple #[.agg (zIns), .int .i64 (I.c)]) (by exact results_cell_row2 Tryd.results31 _ _ w.heap.size 29 (zIns) (0, 0) _ rfl (M.r) Tryd.underlying29 rfl (by kernel_rfl)) (by rfl) (⟨rfl, M.at'.be⟩)
  exact AllReadyH.nil
theorem range_of_row {W : World} {b : Nat} {cs : List Value} {t : TypeId} {fr : Nat × Nat} (h : W.heap[b]? = some (.cells cs.toArray t fr)) : W.rangeAt b 0 cs := fun j v hv => by
  have := cell_of_row W b j _ _ fr h
  simp only [Nat.zero_add]
  rw [this]; simpa using hv
/-- what l04Decode answers, its parts being known -/
def l4Res (I2 I3 : In) (op sz cd fr ln : Int) (m : Nat) (d s : Opd) (suit : Bool) : Array Value × Int :=
  if I2.c ≠ 0 then (zIns, I2.c) else if suit = false then (zIns, 10) else if op = 25 ∧ m / 64 = 3 then (zIns, 12) else if I3.c ≠ 0 then (zIns, I3.c) else (insA op sz cd fr d s ln, 0)
theorem XI.othR {W : World} {b k : Nat} {x : Ins} (h : XI W b x) (hk : b ≠ k) (cs : Array Value) : XI (W.setRow k cs) b x := (setRow_heap_ne _ _ _ _ hk).trans h
theorem ZB.othR {W : World} {b k : Nat} {z : Shp} (h : ZB W b z) (hk : b ≠ k) (cs : Array Value) : ZB (W.setRow k cs) b z := (setRow_heap_ne _ _ _ _ hk).trans h
theorem XI.newR {W : World} {b : Nat} {x y : Ins} (h : XI W b x) : XI (W.setRow b (insV y)) b y := setRow_heap _ _ _ _ _ _ h
theorem l4a {I2 I3 : In} {op sz cd fr ln : Int} {m : Nat} {d s : Opd} {suit : Bool} (h : I2.c ≠ 0) : l4Res I2 I3 op sz cd fr ln m d s suit = (zIns, I2.c) := by unfold l4Res; rw [if_pos h]
theorem l4b {I2 I3 : In} {op sz cd fr ln : Int} {m : Nat} {d s : Opd} (h : I2.c = 0) : l4Res I2 I3 op sz cd fr ln m d s false = (zIns, 10) := by unfold l4Res; rw [if_neg (fun e => e h), if_pos rfl]
theorem l4c {I2 I3 : In} {op sz cd fr ln : Int} {m : Nat} {d s : Opd} (h : I2.c = 0) (h2 : op = 25 ∧ m / 64 = 3) : l4Res I2 I3 op sz cd fr ln m d s true = (zIns, 12) := by unfold l4Res; rw [if_neg (fun e => e h), if_neg (by decide), if_pos h2]
theorem l4d {I2 I3 : In} {op sz cd fr ln : Int} {m : Nat} {d s : Opd} (h : I2.c = 0) (h2 : ¬ (op = 25 ∧ m / 64 = 3)) (h3 : I3.c ≠ 0) : l4Res I2 I3 op sz cd fr ln m d s true = (zIns, I3.c) := by unfold l4Res; rw [if_neg (fun e => e h), if_neg (by decide), if_neg h2, if_pos h3]
theorem l4e {I2 I3 : In} {op sz cd fr ln : Int} {m : Nat} {d s : Opd} (h : I2.c = 0) (h2 : ¬ (op = 25 ∧ m / 64 = 3)) (h3 : I3.c = 0) : l4Res I2 I3 op sz cd fr ln m d s true = (insA op sz cd fr d s ln, 0) := by unfold l4Res; rw [if_neg (fun e => e h), if_neg (by decide), if_neg h2, if_neg (fun e => e h3)]
set_option maxRecDepth 100000 in
set_option maxHeartbeats 4000000 in
theorem dcBody (s : ByteArray) (n b m m8 : Nat) (z : Shp) (I1 Ib I2 I3 : In) (hM suit : Bool) (op sz cd : Int) (d sr : Opd) (w : World) (hs : s.size ≤ 65536) (hn : n ≤ s.size) (hc : I1.c = 0) (hm : m < 256) (hb : b < 256) (hm8 : m8 = m / 8 % 8) (hn3 : n ≤ I3.n) (hn65 : I3.n ≤ 65536)
  (C : Hid (∀ W, IAt w W (w.heap.size + 1) ⟨s, n, 0, false, 0⟩ → Calls Tryd.prog 46 #[.pointer (some ⟨w.heap.size + 1, 0, none⟩)] W fun e w' => e = .returned (.tuple #[shpV z, .int .i64 (b : Int)]) ∧ IWr w W w' (w.heap.size + 1) I1))
  (CH : Hid (∀ W, Calls Tryd.prog 47 #[.int .i64 z.f] W fun e w' => e = .returned (.bool hM) ∧ W = w'))
  (KB : hM = true → Hid (∀ W, IAt w W (w.heap.size + 1) I1 → Calls Tryd.prog 48 #[.pointer (some ⟨w.heap.size + 1, 0, none⟩)] W fun e w' => e = .returned (.int .i64 (m : Int)) ∧ IWr w W w' (w.heap.size + 1) Ib))
  (KG : hM = true → (Ib.c == 0) = true → z.g > 0 → Hid (∀ W, Calls Tryd.prog 49 #[.int .i64 z.g, .int .i64 (m8 : Int)] W fun e w' => e = .returned (.int .i64 op) ∧ Below W.heap.size W w'))
  (KF : hM = true → (Ib.c == 0) = true → decide (0 < z.g) = true → op = 0 → Hid (∀ W, IAt w W (w.heap.size + 1) Ib → Calls Tryd.prog 50 #[.pointer (some ⟨w.heap.size + 1, 0, none⟩), .int .i64 11] W fun e w' => e = .returned (.tuple #[]) ∧ IWr w W w' (w.heap.size + 1) I2))
  (HK : (hM = false ∧ m = 0 ∧ op = z.o ∧ I2 = I1) ∨ (hM = true ∧ (Ib.c == 0) = false ∧ op = z.o ∧ I2 = Ib) ∨ (hM = true ∧ (Ib.c == 0) = true ∧ decide (0 < z.g) = false ∧ op = z.o ∧ I2 = Ib) ∨ (hM = true ∧ (Ib.c == 0) = true ∧ decide (0 < z.g) = true ∧ (op == 0) = false ∧ I2 = Ib) ∨ (hM = true ∧ (Ib.c == 0) = true ∧ decide (0 < z.g) = true ∧ op = 0))
  (CS : Hid (∀ W, IAt w W (w.heap.size + 1) I2 → Calls Tryd.prog 51 #[.pointer (some ⟨w.heap.size + 1, 0, none⟩), shpV z, .int .i64 op] W fun e w' => e = .returned (.int .i64 sz) ∧ Below W.heap.size W w'))
  (CU : Hid (∀ W, Calls Tryd.prog 52 #[.agg (insV ⟨op, sz, 0, z.r, noOpd, noOpd, 0⟩), shpV z, .bool I2.w] W fun e w' => e = .returned (.bool suit) ∧ Below W.heap.size W w'))
  (HC : cd = if op = 33 ∨ op = 35 ∨ op = 36 then ((b : Nat) : Int) % 16 else 0)
  (KM : hM = true → I2.c = 0 → Hid (∀ W, IAt w W (w.heap.size + 1) I2 → Calls Tryd.prog 53 #[.pointer (some ⟨w.heap.size + 1, 0, none⟩), .agg (insV ⟨op, sz, cd, z.r, noOpd, noOpd, 0⟩), shpV z, .int .i64 (m : Int)] W fun e w' => e = .returned (.agg (insV ⟨op, sz, cd, z.r, d, sr, 0⟩)) ∧ IWr w W w' (w.heap.size + 1) I3))
  (KP : hM = false → I2.c = 0 → Hid (∀ W, IAt w W (w.heap.size + 1) I2 → Calls Tryd.prog 54 #[.pointer (some ⟨w.heap.size + 1, 0, none⟩), .agg (insV ⟨op, sz, cd, z.r, noOpd, noOpd, 0⟩), shpV z, .int .i64 (b : Int)] W fun e w' => e = .returned (.agg (insV ⟨op, sz, cd, z.r, d, sr, 0⟩)) ∧ IWr w W w' (w.heap.size + 1) I3)) :
    Calls Tryd.prog 31 #[.string s, .int .i64 (n : Int)] w fun e w' => e = .returned (.tuple #[.agg (l4Res I2 I3 op sz cd z.r ((I3.n : Int) - n) m d sr suit).1, .int .i64 (l4Res I2 I3 op sz cd z.r ((I3.n : Int) - n) m d sr suit).2]) ∧ Below w.heap.size w w' := by
  have M0 := Lib.hid (Dc.new s n w hs hn)
  clear hs hn
  have hc' : (I1.c != 0) = false := by rw [hc]; rfl
  clear hc
  obtain ⟨zo, zf, zg, zy, zr⟩ := z
  simp only at CH KG HK CU KM KP
  have hm' : (m : Int) < 256 := by omega
  have hb' : (b : Int) < 256 := by omega
  have q8 : (m8 : Int) = (m : Int) / 8 % 8 := by omega
  have hn3' : (n : Int) ≤ (I3.n : Int) := by omega
  have hn65' : (I3.n : Int) ≤ 65536 := by omega
  clear hm hb hm8 hn3 hn65
  have HCh := Lib.hid HC
  clear HC
  go_enter Tryd.func31, Tryd.ntmps31
  go_upto_region 2 with fail
  refine abs_world (T := fun W => Dc w W ⟨s, n, 0, false, 0⟩) (G := fun W => Code.wp _ _ _ _ W) _ (M0.out) ?_
  clear M0
  intro W M
  apply wp_region_list
  refine Great.wpList_runTo rfl (some 16) rfl (.pointer (some ⟨w.heap.size + 1, 0, none⟩)) W (by first | (go_simp; done) | rfl) ?_
  simp only [Act.put, List.setIfInBounds_toArray, List.set_cons_zero, List.set_cons_succ]
  have M0 := Lib.hid M
  clear M
  refine callStep rfl (some 17) rfl 46 #[.pointer (some ⟨w.heap.size + 1, 0, none⟩)] (by first | (go_simp; done) | rfl) (C.out _ M0.out.at') ?_
  rintro e W ⟨rfl, hw⟩
  refine ⟨.tuple #[shpV ⟨zo, zf, zg, zy, zr⟩, .int .i64 (b : Int)], rfl, ?_⟩
  simp only [Act.put, List.setIfInBounds_toArray, List.set_cons_zero, List.set_cons_succ]
  have M := M0.out.wr hw
  clear hw M0
  have l7 : w.heap.size + 2 ≤ W.heap.size := Dc.sz2 M
  obtain ⟨b7, h7⟩ : ∃ k, k = W.heap.size := ⟨_, rfl⟩
  refine Great.wpList_runTo rfl (some 15) rfl (.tuple #[shpV ⟨zo, zf, zg, zy, zr⟩, .int .i64 (b : Int)]) W (by first | (go_simp; done) | rfl) ?_
  simp only [Act.put, List.setIfInBounds_toArray, List.set_cons_zero, List.set_cons_succ]
  refine Great.wpList_runTo rfl (some 18) rfl (shpV ⟨zo, zf, zg, zy, zr⟩) W (by first | (go_simp; done) | rfl) ?_
  simp only [Act.put, List.setIfInBounds_toArray, List.set_cons_zero, List.set_cons_succ]
  refine Great.wpList_runTo rfl (some 19) rfl (.int .i64 (b : Int)) W (by first | (go_simp; done) | rfl) ?_
  simp only [Act.put, List.setIfInBounds_toArray, List.set_cons_zero, List.set_cons_succ]
  refine Great.wpList_runTo rfl (some 7) rfl (.pointer (some ⟨W.heap.size, 0, none⟩)) (W.alloc (.cells #[.int .i64 0, .int .i64 0, .int .i64 0, .bool false, .int .i64 0] 55)) (by first | (go_simp; done) | rfl) ?_
  simp only [Act.put, List.setIfInBounds_toArray, List.set_cons_zero, List.set_cons_succ]
  refine wpList_store_row rfl 55 (.tmp 7) (.tmp 18) rfl (W.heap.size) (shpA ⟨zo, zf, zg, zy, zr⟩) ?_ ?_ 55 _ (heap_alloc_new W _) (by kernel_rfl) rfl (shpA_one _) ?_
  · rfl
  · rfl
  go_upto_region 3 with fail
  refine abs_world (T := fun W => Dc w W I1 ∧ ZB W b7 ⟨zo, zf, zg, zy, zr⟩) (G := fun W => Code.wp _ _ _ _ W) _ (by rw [h7]; exact ⟨(M.below (bel_alloc _ _)).row l7 (shpA ⟨zo, zf, zg, zy, zr⟩), setRow_heap _ _ _ _ _ _ (heap_alloc_new W _)⟩) ?_
  rw [← h7]
  rw [← h7] at l7
  clear h7 M
  intro W ⟨M, z7⟩
  have c4 := M.at'.rb.cell 4
  simp only [inA, List.getElem?_toArray, List.getElem?_cons_zero, List.getElem?_cons_succ] at c4
  go_upto_region 5 with fail
  clear c4
  have l9 : b7 < W.heap.size := lt_of_blk z7
  obtain ⟨b9, h9⟩ : ∃ k, k = W.heap.size := ⟨_, rfl⟩
  apply wp_region_list
  refine Great.wpList_runTo rfl (some 30) rfl (.pointer (some ⟨b7, 0, none⟩)) W (by first | (go_simp; done) | rfl) ?_
  simp only [Act.put, List.setIfInBounds_toArray, List.set_cons_zero, List.set_cons_succ]
  have zz := z7.cell 0
  simp only [insV, insA, shpA, List.getElem?_toArray, List.getElem?_cons_zero, List.getElem?_cons_succ] at zz
  refine Great.wpList_runTo rfl (some 31) rfl (.int .i64 zo) W (by first | (go_simp; done) | rfl) ?_
  simp only [Act.put, List.setIfInBounds_toArray, List.set_cons_zero, List.set_cons_succ]
  clear zz
  refine Great.wpList_runTo rfl (some 32) rfl (.pointer (some ⟨b7, 4, none⟩)) W (by first | (go_simp; done) | rfl) ?_
  simp only [Act.put, List.setIfInBounds_toArray, List.set_cons_zero, List.set_cons_succ]
  have zz := z7.cell 4
  simp only [insV, insA, shpA, List.getElem?_toArray, List.getElem?_cons_zero, List.getElem?_cons_succ] at zz
  refine Great.wpList_runTo rfl (some 33) rfl (.int .i64 zr) W (by first | (go_simp; done) | rfl) ?_
  simp only [Act.put, List.setIfInBounds_toArray, List.set_cons_zero, List.set_cons_succ]
  clear zz
  refine wpList_buildTo rfl 29 #[(0, .tmp 31), (3, .tmp 33)] rfl (some 34) rfl (insV ⟨zo, 0, 0, zr, noOpd, noOpd, 0⟩) (by kernel_rfl) ?_
  simp only [Act.put, List.setIfInBounds_toArray, List.set_cons_zero, List.set_cons_succ]
  refine Great.wpList_runTo rfl (some 9) rfl (.pointer (some ⟨W.heap.size, 0, none⟩)) (W.alloc (.cells zIns 29)) (by first | (go_simp; done) | rfl) ?_
  simp only [Act.put, List.setIfInBounds_toArray, List.set_cons_zero, List.set_cons_succ]
  refine wpList_store_row rfl 29 (.tmp 9) (.tmp 34) rfl (W.heap.size) (insV ⟨zo, 0, 0, zr, noOpd, noOpd, 0⟩) ?_ ?_ 29 _ (heap_alloc_new W _) (by kernel_rfl) rfl (insV_one _) ?_
  · rfl
  · rfl
  go_upto_region 7 with fail
  refine abs_world (T := fun W => Dc w W I1 ∧ ZB W b7 ⟨zo, zf, zg, zy, zr⟩ ∧ XI W b9 ⟨zo, 0, 0, zr, noOpd, noOpd, 0⟩) (G := fun W => Code.wp _ _ _ _ W) _ (by rw [h9]; exact ⟨(M.below (bel_alloc _ _)).row (by omega) (insV ⟨zo, 0, 0, zr, noOpd, noOpd, 0⟩), ZB.othR (W := W.alloc (.cells zIns 29)) (z := ⟨zo, zf, zg, zy, zr⟩) (((bel_alloc W _).block _ l9).trans z7) (by omega) _, setRow_heap _ _ _ _ _ _ (heap_alloc_new W _)⟩) ?_
  rw [← h9]
  rw [← h9] at l9
  clear h9 M z7
  intro W ⟨M, z7, x9⟩
  have zz := z7.cell 1
  simp only [insV, insA, shpA, List.getElem?_toArray, List.getElem?_cons_zero, List.getElem?_cons_succ] at zz
  go_upto_if 37 with (go_at_call 47; refine (CH.out _).mono ?_; rintro e w9 ⟨rfl, rfl⟩)
  clear zz
  go_cut [10] from 37 to 61 (fun v W' => v = .int .i64 (m : Int) ∧ Dc w W' I2 ∧ ZB W' b7 ⟨zo, zf, zg, zy, zr⟩ ∧ XI W' b9 ⟨op, 0, 0, zr, noOpd, noOpd, 0⟩)
  case first =>
    rcases HK with ⟨rfl, rfl, rfl, rfl⟩ | ⟨rfl, kc, rfl, rfl⟩ | ⟨rfl, kc, kg, rfl, rfl⟩ | ⟨rfl, kc, kg, ko, rfl⟩ | ⟨rfl, kc, kg, rfl⟩
    · go_wp2
      go_meet
      case rel => exact ⟨rfl, M, z7, x9⟩
    · go_upto_region 8 with fail
      have M0 := Lib.hid M
      have Z7 := Lib.hid z7
      have X9 := Lib.hid x9
      clear M z7 x9
      apply wp_region_list
      refine Great.wpList_runTo rfl (some 38) rfl (.pointer (some ⟨w.heap.size + 1, 0, none⟩)) W (by first | (go_simp; done) | rfl) ?_
      simp only [Act.put, List.setIfInBounds_toArray, List.set_cons_zero, List.set_cons_succ]
      refine callStep rfl (some 39) rfl 48 #[.pointer (some ⟨w.heap.size + 1, 0, none⟩)] (by first | (go_simp; done) | rfl) ((KB rfl).out _ M0.out.at') ?_
      rintro e W ⟨rfl, hw⟩
      refine ⟨.int .i64 (m : Int), rfl, ?_⟩
      simp only [Act.put, List.setIfInBounds_toArray, List.set_cons_zero, List.set_cons_succ]
      have M := M0.out.wr hw
      have z7 : ZB W b7 _ := keepB hw (by omega) Z7.out
      have x9 : XI W b9 _ := keepB hw (by omega) X9.out
      clear hw M0 Z7 X9
      refine Great.wpList_runTo rfl (some 10) rfl (.int .i64 (m : Int)) W (by first | (go_simp; done) | rfl) ?_
      simp only [Act.put, List.setIfInBounds_toArray, List.set_cons_zero, List.set_cons_succ]
      go_upto_region 9 with fail
      have c4 := M.at'.rb.cell 4
      simp only [inA, List.getElem?_toArray, List.getElem?_cons_zero, List.getElem?_cons_succ] at c4
      go_wp2
      go_meet
      case rel => exact ⟨rfl, M, z7, x9⟩
    · go_upto_region 8 with fail
      have M0 := Lib.hid M
      have Z7 := Lib.hid z7
      have X9 := Lib.hid x9
      clear M z7 x9
      apply wp_region_list
      refine Great.wpList_runTo rfl (some 38) rfl (.pointer (some ⟨w.heap.size + 1, 0, none⟩)) W (by first | (go_simp; done) | rfl) ?_
      simp only [Act.put, List.setIfInBounds_toArray, List.set_cons_zero, List.set_cons_succ]
      refine callStep rfl (some 39) rfl 48 #[.pointer (some ⟨w.heap.size + 1, 0, none⟩)] (by first | (go_simp; done) | rfl) ((KB rfl).out _ M0.out.at') ?_
      rintro e W ⟨rfl, hw⟩
      refine ⟨.int .i64 (m : Int), rfl, ?_⟩
      simp only [Act.put, List.setIfInBounds_toArray, List.set_cons_zero, List.set_cons_succ]
      have M := M0.out.wr hw
      have z7 : ZB W b7 _ := keepB hw (by omega) Z7.out
      have x9 : XI W b9 _ := keepB hw (by omega) X9.out
      clear hw M0 Z7 X9
      refine Great.wpList_runTo rfl (some 10) rfl (.int .i64 (m : Int)) W (by first | (go_simp; done) | rfl) ?_
      simp only [Act.put, List.setIfInBounds_toArray, List.set_cons_zero, List.set_cons_succ]
      go_upto_region 9 with fail
      have c4 := M.at'.rb.cell 4
      simp only [inA, List.getElem?_toArray, List.getElem?_cons_zero, List.getElem?_cons_succ] at c4
      have zz := z7.cell 2
      simp only [insV, insA, shpA, List.getElem?_toArray, List.getElem?_cons_zero, List.getElem?_cons_succ] at zz
      go_wp2
      go_meet
      case rel => exact ⟨rfl, M, z7, x9⟩
    · go_upto_region 8 with fail
      have M0 := Lib.hid M
      have Z7 := Lib.hid z7
      have X9 := Lib.hid x9
      clear M z7 x9
      apply wp_region_list
      refine Great.wpList_runTo rfl (some 38) rfl (.pointer (some ⟨w.heap.size + 1, 0, none⟩)) W (by first | (go_simp; done) | rfl) ?_
      simp only [Act.put, List.setIfInBounds_toArray, List.set_cons_zero, List.set_cons_succ]
      refine callStep rfl (some 39) rfl 48 #[.pointer (some ⟨w.heap.size + 1, 0, none⟩)] (by first | (go_simp; done) | rfl) ((KB rfl).out _ M0.out.at') ?_
      rintro e W ⟨rfl, hw⟩
      refine ⟨.int .i64 (m : Int), rfl, ?_⟩
      simp only [Act.put, List.setIfInBounds_toArray, List.set_cons_zero, List.set_cons_succ]
      have M := M0.out.wr hw
      have z7 : ZB W b7 _ := keepB hw (by omega) Z7.out
      have x9 : XI W b9 _ := keepB hw (by omega) X9.out
      clear hw M0 Z7 X9
      refine Great.wpList_runTo rfl (some 10) rfl (.int .i64 (m : Int)) W (by first | (go_simp; done) | rfl) ?_
      simp only [Act.put, List.setIfInBounds_toArray, List.set_cons_zero, List.set_cons_succ]
      go_upto_region 9 with fail
      have c4 := M.at'.rb.cell 4
      simp only [inA, List.getElem?_toArray, List.getElem?_cons_zero, List.getElem?_cons_succ] at c4
      have zz := z7.cell 2
      simp only [insV, insA, shpA, List.getElem?_toArray, List.getElem?_cons_zero, List.getElem?_cons_succ] at zz
      go_upto_region 10 with fail
      clear c4 zz
      have M0 := Lib.hid M
      have Z7 := Lib.hid z7
      have X9 := Lib.hid x9
      clear M z7 x9
      apply wp_region_list
      refine Great.wpList_runTo rfl (some 50) rfl (.pointer (some ⟨b7, 2, none⟩)) W (by first | (go_simp; done) | rfl) ?_
      simp only [Act.put, List.setIfInBounds_toArray, List.set_cons_zero, List.set_cons_succ]
      have zz := Z7.out.cell 2
      simp only [insV, insA, shpA, List.getElem?_toArray, List.getElem?_cons_zero, List.getElem?_cons_succ] at zz
      refine Great.wpList_runTo rfl (some 51) rfl (.int .i64 zg) W (by first | (go_simp; done) | rfl) ?_
      simp only [Act.put, List.setIfInBounds_toArray, List.set_cons_zero, List.set_cons_succ]
      clear zz
      refine Great.wpList_runTo rfl (some 52) rfl (.int .i64 (m : Int)) W (by first | (go_simp; done) | rfl) ?_
      simp only [Act.put, List.setIfInBounds_toArray, List.set_cons_zero, List.set_cons_succ]
      refine Great.wpList_runTo rfl (some 53) rfl (.int .i64 ((m : Int) / 8)) W (by go_simp; exact IntWalk.i64_in _ (by omega)) ?_
      simp only [Act.put, List.setIfInBounds_toArray, List.set_cons_zero, List.set_cons_succ]
      refine Great.wpList_runTo rfl (some 54) rfl (.int .i64 (m8 : Int)) W (by rw [q8]; first | (go_simp; done) | rfl) ?_
      simp only [Act.put, List.setIfInBounds_toArray, List.set_cons_zero, List.set_cons_succ]
      refine callStep rfl (some 55) rfl 49 #[.int .i64 zg, .int .i64 (m8 : Int)] (by first | (go_simp; done) | rfl) ((KG rfl kc (of_decide_eq_true kg)).out _) ?_
      rintro e W ⟨rfl, hb⟩
      refine ⟨.int .i64 op, rfl, ?_⟩
      simp only [Act.put, List.setIfInBounds_toArray, List.set_cons_zero, List.set_cons_succ]
      have hw := IWr.of_below M0.out.at' hb
      clear hb
      have M := M0.out.wr hw
      have z7 : ZB W b7 _ := keepB hw (by omega) Z7.out
      have x9 : XI W b9 _ := keepB hw (by omega) X9.out
      clear hw M0 Z7 X9
      refine Great.wpList_runTo rfl (some 56) rfl (.pointer (some ⟨b9, 0, none⟩)) W (by first | (go_simp; done) | rfl) ?_
      simp only [Act.put, List.setIfInBounds_toArray, List.set_cons_zero, List.set_cons_succ]
      have x0 := x9.cell 0
      simp only [insV, insA, shpA, List.getElem?_toArray, List.getElem?_cons_zero, List.getElem?_cons_succ] at x0
      have f0 := x9.free 0
      go_upto_region 11 with fail
      clear x0 f0
      refine abs_world (T := fun W => Dc w W I2 ∧ ZB W b7 ⟨zo, zf, zg, zy, zr⟩ ∧ XI W b9 ⟨op, 0, 0, zr, noOpd, noOpd, 0⟩) (G := fun W => Code.wp _ _ _ _ W) _ (⟨M.cell (by omega) _ _, z7.othC (by omega), x9.set (y := ⟨op, 0, 0, zr, noOpd, noOpd, 0⟩) 0 (.int .i64 op) rfl⟩) ?_
      clear M z7 x9
      intro W ⟨M, z7, x9⟩
      have x0 := x9.cell 0
      simp only [insV, insA, shpA, List.getElem?_toArray, List.getElem?_cons_zero, List.getElem?_cons_succ] at x0
      go_wp2
      go_meet
      case rel => exact ⟨rfl, M, z7, x9⟩
    · go_upto_region 8 with fail
      have M0 := Lib.hid M
      have Z7 := Lib.hid z7
      have X9 := Lib.hid x9
      clear M z7 x9
      apply wp_region_list
      refine Great.wpList_runTo rfl (some 38) rfl (.pointer (some ⟨w.heap.size + 1, 0, none⟩)) W (by first | (go_simp; done) | rfl) ?_
      simp only [Act.put, List.setIfInBounds_toArray, List.set_cons_zero, List.set_cons_succ]
      refine callStep rfl (some 39) rfl 48 #[.pointer (some ⟨w.heap.size + 1, 0, none⟩)] (by first | (go_simp; done) | rfl) ((KB rfl).out _ M0.out.at') ?_
      rintro e W ⟨rfl, hw⟩
      refine ⟨.int .i64 (m : Int), rfl, ?_⟩
      simp only [Act.put, List.setIfInBounds_toArray, List.set_cons_zero, List.set_cons_succ]
      have M := M0.out.wr hw
      have z7 : ZB W b7 _ := keepB hw (by omega) Z7.out
      have x9 : XI W b9 _ := keepB hw (by omega) X9.out
      clear hw M0 Z7 X9
      refine Great.wpList_runTo rfl (some 10) rfl (.int .i64 (m : Int)) W (by first | (go_simp; done) | rfl) ?_
      simp only [Act.put, List.setIfInBounds_toArray, List.set_cons_zero, List.set_cons_succ]
      go_upto_region 9 with fail
      have c4 := M.at'.rb.cell 4
      simp only [inA, List.getElem?_toArray, List.getElem?_cons_zero, List.getElem?_cons_succ] at c4
      have zz := z7.cell 2
      simp only [insV, insA, shpA, List.getElem?_toArray, List.getElem?_cons_zero, List.getElem?_cons_succ] at zz
      go_upto_region 10 with fail
      clear c4 zz
      have M0 := Lib.hid M
      have Z7 := Lib.hid z7
      have X9 := Lib.hid x9
      clear M z7 x9
      apply wp_region_list
      refine Great.wpList_runTo rfl (some 50) rfl (.pointer (some ⟨b7, 2, none⟩)) W (by first | (go_simp; done) | rfl) ?_
      simp only [Act.put, List.setIfInBounds_toArray, List.set_cons_zero, List.set_cons_succ]
      have zz := Z7.out.cell 2
      simp only [insV, insA, shpA, List.getElem?_toArray, List.getElem?_cons_zero, List.getElem?_cons_succ] at zz
      refine Great.wpList_runTo rfl (some 51) rfl (.int .i64 zg) W (by first | (go_simp; done) | rfl) ?_
      simp only [Act.put, List.setIfInBounds_toArray, List.set_cons_zero, List.set_cons_succ]
      clear zz
      refine Great.wpList_runTo rfl (some 52) rfl (.int .i64 (m : Int)) W (by first | (go_simp; done) | rfl) ?_
      simp only [Act.put, List.setIfInBounds_toArray, List.set_cons_zero, List.set_cons_succ]
      refine Great.wpList_runTo rfl (some 53) rfl (.int .i64 ((m : Int) / 8)) W (by go_simp; exact IntWalk.i64_in _ (by omega)) ?_
      simp only [Act.put, List.setIfInBounds_toArray, List.set_cons_zero, List.set_cons_succ]
      refine Great.wpList_runTo rfl (some 54) rfl (.int .i64 (m8 : Int)) W (by rw [q8]; first | (go_simp; done) | rfl) ?_
      simp only [Act.put, List.setIfInBounds_toArray, List.set_cons_zero, List.set_cons_succ]
      refine callStep rfl (some 55) rfl 49 #[.int .i64 zg, .int .i64 (m8 : Int)] (by first | (go_simp; done) | rfl) ((KG rfl kc (of_decide_eq_true kg)).out _) ?_
      rintro e W ⟨rfl, hb⟩
      refine ⟨.int .i64 0, rfl, ?_⟩
      simp only [Act.put, List.setIfInBounds_toArray, List.set_cons_zero, List.set_cons_succ]
      have hw := IWr.of_below M0.out.at' hb
      clear hb
      have M := M0.out.wr hw
      have z7 : ZB W b7 _ := keepB hw (by omega) Z7.out
      have x9 : XI W b9 _ := keepB hw (by omega) X9.out
      clear hw M0 Z7 X9
      refine Great.wpList_runTo rfl (some 56) rfl (.pointer (some ⟨b9, 0, none⟩)) W (by first | (go_simp; done) | rfl) ?_
      simp only [Act.put, List.setIfInBounds_toArray, List.set_cons_zero, List.set_cons_succ]
      have x0 := x9.cell 0
      simp only [insV, insA, shpA, List.getElem?_toArray, List.getElem?_cons_zero, List.getElem?_cons_succ] at x0
      have f0 := x9.free 0
      go_upto_region 11 with fail
      clear x0 f0
      refine abs_world (T := fun W => Dc w W Ib ∧ ZB W b7 ⟨zo, zf, zg, zy, zr⟩ ∧ XI W b9 ⟨0, 0, 0, zr, noOpd, noOpd, 0⟩) (G := fun W => Code.wp _ _ _ _ W) _ (⟨M.cell (by omega) _ _, z7.othC (by omega), x9.set (y := ⟨0, 0, 0, zr, noOpd, noOpd, 0⟩) 0 (.int .i64 0) rfl⟩) ?_
      clear M z7 x9
      intro W ⟨M, z7, x9⟩
      have x0 := x9.cell 0
      simp only [insV, insA, shpA, List.getElem?_toArray, List.getElem?_cons_zero, List.getElem?_cons_succ] at x0
      go_upto_region 12 with fail
      clear x0
      have M0 := Lib.hid M
      have Z7 := Lib.hid z7
      have X9 := Lib.hid x9
      clear M z7 x9
      apply wp_region_list
      refine Great.wpList_runTo rfl (some 60) rfl (.pointer (some ⟨w.heap.size + 1, 0, none⟩)) W (by first | (go_simp; done) | rfl) ?_
      simp only [Act.put, List.setIfInBounds_toArray, List.set_cons_zero, List.set_cons_succ]
      refine callStep rfl (some 61) rfl 50 #[.pointer (some ⟨w.heap.size + 1, 0, none⟩), .int .i64 11] (by first | (go_simp; done) | rfl) ((KF rfl kc kg rfl).out _ M0.out.at') ?_
      rintro e W ⟨rfl, hw⟩
      refine ⟨.tuple #[], rfl, ?_⟩
      simp only [Act.put, List.setIfInBounds_toArray, List.set_cons_zero, List.set_cons_succ]
      have M := M0.out.wr hw
      have z7 : ZB W b7 _ := keepB hw (by omega) Z7.out
      have x9 : XI W b9 _ := keepB hw (by omega) X9.out
      clear hw M0 Z7 X9
      go_wp2
      go_meet
      case rel => exact ⟨rfl, M, z7, x9⟩
  case rest =>
    obtain ⟨rfl, M, z7, x9⟩ := hcut
    obtain ⟨W, rfl⟩ : ∃ W, W = wc := ⟨_, rfl⟩
    clear HK KB KG KF
    by_cases hc2 : I2.c = 0
    · have k2 : (I2.c != 0) = false := by rw [hc2]; rfl
      have c4 := M.at'.rb.cell 4
      simp only [inA, List.getElem?_toArray, List.getElem?_cons_zero, List.getElem?_cons_succ] at c4
      go_upto_region 15 with fail
      clear c4
      apply wp_region_list
      refine Great.wpList_runTo rfl (some 72) rfl (.pointer (some ⟨w.heap.size + 1, 0, none⟩)) W (by first | (go_simp; done) | rfl) ?_
      simp only [Act.put, List.setIfInBounds_toArray, List.set_cons_zero, List.set_cons_succ]
      refine wpList_load_row rfl 55 (.tmp 7) rfl (b7) rfl 55 (shpA ⟨zo, zf, zg, zy, zr⟩) (0, 0) _ (z7) Tryd.underlying55 rfl (by kernel_rfl) ?_
      simp only [Act.put, List.setIfInBounds_toArray, List.set_cons_zero, List.set_cons_succ]
      refine Great.wpList_runTo rfl (some 74) rfl (.pointer (some ⟨b9, 0, none⟩)) W (by first | (go_simp; done) | rfl) ?_
      simp only [Act.put, List.setIfInBounds_toArray, List.set_cons_zero, List.set_cons_succ]
      have x0 := x9.cell 0
      simp only [insV, insA, shpA, List.getElem?_toArray, List.getElem?_cons_zero, List.getElem?_cons_succ] at x0
      refine Great.wpList_runTo rfl (some 75) rfl (.int .i64 op) W (by first | (go_simp; done) | rfl) ?_
      simp only [Act.put, List.setIfInBounds_toArray, List.set_cons_zero, List.set_cons_succ]
      clear x0
      have M0 := Lib.hid M
      have Z7 := Lib.hid z7
      have X9 := Lib.hid x9
      clear M z7 x9
      refine callStep rfl (some 76) rfl 51 #[.pointer (some ⟨w.heap.size + 1, 0, none⟩), .agg (shpA ⟨zo, zf, zg, zy, zr⟩), .int .i64 op] (by first | (go_simp; done) | rfl) (CS.out _ M0.out.at') ?_
      rintro e W ⟨rfl, hb⟩
      refine ⟨.int .i64 sz, rfl, ?_⟩
      simp only [Act.put, List.setIfInBounds_toArray, List.set_cons_zero, List.set_cons_succ]
      have hw := IWr.of_below M0.out.at' hb
      clear hb
      have M := M0.out.wr hw
      have z7 : ZB W b7 _ := keepB hw (by omega) Z7.out
      have x9 : XI W b9 _ := keepB hw (by omega) X9.out
      clear hw M0 Z7 X9
      refine Great.wpList_runTo rfl (some 77) rfl (.pointer (some ⟨b9, 1, none⟩)) W (by first | (go_simp; done) | rfl) ?_
      simp only [Act.put, List.setIfInBounds_toArray, List.set_cons_zero, List.set_cons_succ]
      have x1 := x9.cell 1
      simp only [insV, insA, shpA, List.getElem?_toArray, List.getElem?_cons_zero, List.getElem?_cons_succ] at x1
      have f1 := x9.free 1
      go_upto_region 16 with fail
      clear x1 f1
      refine abs_world (T := fun W => Dc w W I2 ∧ ZB W b7 ⟨zo, zf, zg, zy, zr⟩ ∧ XI W b9 ⟨op, sz, 0, zr, noOpd, noOpd, 0⟩) (G := fun W => Code.wp _ _ _ _ W) _ (⟨M.cell (by omega) _ _, z7.othC (by omega), x9.set (y := ⟨op, sz, 0, zr, noOpd, noOpd, 0⟩) 1 (.int .i64 sz) rfl⟩) ?_
      clear M z7 x9
      intro W ⟨M, z7, x9⟩
      cases suit
      · go_upto_region 16 with fail
        refine wp_region_held_drew (S := fun W' => Dc w W' I2 ∧ ZB W' b7 ⟨zo, zf, zg, zy, zr⟩ ∧ XI W' b9 ⟨op, sz, 0, zr, noOpd, noOpd, 0⟩) (by kernel_rfl) ⟨M.drew, z7, x9⟩ (fun (hH : Dc w W.drew I2 ∧ ZB W.drew b7 ⟨zo, zf, zg, zy, zr⟩ ∧ XI W.drew b9 ⟨op, sz, 0, zr, noOpd, noOpd, 0⟩) => ?_)
        refine takeTo 0 (v := .agg (insV ⟨op, sz, 0, zr, noOpd, noOpd, 0⟩)) rfl (some 78) rfl (by kernel_rfl) (by kernel_rfl) (by kernel_rfl) (fun _ _ _ h => h) (yieldsIf_load_mid (by rfl) 29 (.tmp 9) rfl b9 0 rfl ((insV ⟨op, sz, 0, zr, noOpd, noOpd, 0⟩)).toList _ (fun W' hS => range_of_row (t := 29) (fr := (0, 0)) hS.2.2) Tryd.underlying29 rfl (by kernel_rfl)) hH ?_
        simp only [Act.put, List.setIfInBounds_toArray, List.set_cons_zero, List.set_cons_succ]
        refine takeTo 1 (v := .agg (shpA ⟨zo, zf, zg, zy, zr⟩)) rfl (some 79) rfl (by kernel_rfl) (by kernel_rfl) (by kernel_rfl) (fun _ _ _ h => h) (yieldsIf_load_mid (by rfl) 55 (.tmp 7) rfl b7 0 rfl ((shpA ⟨zo, zf, zg, zy, zr⟩)).toList _ (fun W' hS => range_of_row (t := 55) (fr := (0, 0)) hS.2.1) Tryd.underlying55 rfl (by kernel_rfl)) hH ?_
        simp only [Act.put, List.setIfInBounds_toArray, List.set_cons_zero, List.set_cons_succ]
        refine takeTo 2 (v := ?_) rfl (some 80) rfl (by kernel_rfl) (by kernel_rfl) (by kernel_rfl) (fun _ _ _ h => h) (Or.inl ⟨by rfl, ?_⟩) hH ?_
        rotate_left
        · intro w' hS
          go_simp
          try (with_reducible rfl)
        simp only [Act.put, List.setIfInBounds_toArray, List.set_cons_zero, List.set_cons_succ]
        refine takeTo 3 (v := ?_) rfl (some 81) rfl (by kernel_rfl) (by kernel_rfl) (by kernel_rfl) (fun _ _ _ h => h) (Or.inl ⟨by rfl, ?_⟩) hH ?_
        rotate_left
        · intro w' hS
          go_simp
          try (with_reducible rfl)
        simp only [Act.put, List.setIfInBounds_toArray, List.set_cons_zero, List.set_cons_succ]
        refine takeTo 4 (v := ?_) rfl (some 82) rfl (by kernel_rfl) (by kernel_rfl) (by kernel_rfl) (fun _ _ _ h => h) (Or.inl ⟨by rfl, ?_⟩) hH ?_
        rotate_left
        · intro w' hS
          go_simp
          try (with_reducible rfl)
        simp only [Act.put, List.setIfInBounds_toArray, List.set_cons_zero, List.set_cons_succ]
        refine takeTo 5 (v := ?_) rfl (some 83) rfl (by kernel_rfl) (by kernel_rfl) (by kernel_rfl) (fun _ _ _ h => h) (Or.inl ⟨by rfl, ?_⟩) hH ?_
        rotate_left
        · intro w' hS
          have c3 := hS.1.at'.rb.cell 3
          simp only [inA, List.getElem?_toArray, List.getElem?_cons_zero, List.getElem?_cons_succ] at c3
          go_simp
          try (with_reducible rfl)
        simp only [Act.put, List.setIfInBounds_toArray, List.set_cons_zero, List.set_cons_succ]
        refine wpAnyH_ready (rs := [6]) (by kernel_rfl) (by simp) ?_
        refine consCall rfl rfl (some 84) rfl 52 #[.agg (insV ⟨op, sz, 0, zr, noOpd, noOpd, 0⟩), .agg (shpA ⟨zo, zf, zg, zy, zr⟩), .bool I2.w] (by first | (go_simp; done) | rfl) (CU.out _) ?_ ?_
        · rintro e w1 ⟨rfl, hb⟩
          have hH : Dc w w1 I2 ∧ ZB w1 b7 ⟨zo, zf, zg, zy, zr⟩ ∧ XI w1 b9 ⟨op, sz, 0, zr, noOpd, noOpd, 0⟩ := ⟨hH.1.below hb, keepB (IWr.of_below hH.1.at' hb) (by omega) hH.2.1, keepB (IWr.of_below hH.1.at' hb) (by omega) hH.2.2⟩
          refine ⟨_, rfl, hH, ?_⟩
          simp only [Act.put, List.setIfInBounds_toArray, List.set_cons_zero, List.set_cons_succ]
          refine takeTo 7 (v := ?_) rfl (some 85) rfl (by kernel_rfl) (by kernel_rfl) (by kernel_rfl) (fun _ _ _ h => h) (Or.inl ⟨by rfl, ?_⟩) hH ?_
          rotate_left
          · intro w' hS
            go_simp
            try (with_reducible rfl)
          simp only [Act.put, List.setIfInBounds_toArray, List.set_cons_zero, List.set_cons_succ]
          refine wpAnyH_done (by kernel_rfl) ?_ _
          obtain ⟨M, z7, x9⟩ := hH
          obtain ⟨W, rfl⟩ : ∃ V, V = w1 := ⟨_, rfl⟩
          go_upto_region 17 with fail
          apply wp_region_list
          refine wpList_buildTo rfl 29 #[] rfl (some 86) rfl zIns (by kernel_rfl) ?_
          simp only [Act.put, List.setIfInBounds_toArray, List.set_cons_zero, List.set_cons_succ]
          refine wpList_store_row rfl 29 (.tmp 4) (.tmp 86) rfl (w.heap.size) zIns ?_ ?_ 29 _ (M.r) (by kernel_rfl) rfl (ins_one _ _ _ _ _ _ _) ?_
          · rfl
          · rfl
          refine Great.wpList_runTo rfl (some 5) rfl (.int .i64 10) (W.setRow w.heap.size zIns) (by first | (go_simp; done) | rfl) ?_
          simp only [Act.put, List.setIfInBounds_toArray, List.set_cons_zero, List.set_cons_succ]
          have M := M.res
          go_wp2_with fail
          refine bodyPost_ret (v := .tuple #[.agg (zIns), .int .i64 (10)]) (by exact results_cell_row2 Tryd.results31 _ _ w.heap.size 29 (zIns) (0, 0) _ rfl (M.r) Tryd.underlying29 rfl (by kernel_rfl)) (by rfl) (⟨by rw [l4b hc2], M.at'.be⟩)
        exact AllReadyH.nil
      · go_upto_region 16 with fail
        refine wp_region_held_drew (S := fun W' => Dc w W' I2 ∧ ZB W' b7 ⟨zo, zf, zg, zy, zr⟩ ∧ XI W' b9 ⟨op, sz, 0, zr, noOpd, noOpd, 0⟩) (by kernel_rfl) ⟨M.drew, z7, x9⟩ (fun (hH : Dc w W.drew I2 ∧ ZB W.drew b7 ⟨zo, zf, zg, zy, zr⟩ ∧ XI W.drew b9 ⟨op, sz, 0, zr, noOpd, noOpd, 0⟩) => ?_)
        refine takeTo 0 (v := .agg (insV ⟨op, sz, 0, zr, noOpd, noOpd, 0⟩)) rfl (some 78) rfl (by kernel_rfl) (by kernel_rfl) (by kernel_rfl) (fun _ _ _ h => h) (yieldsIf_load_mid (by rfl) 29 (.tmp 9) rfl b9 0 rfl ((insV ⟨op, sz, 0, zr, noOpd, noOpd, 0⟩)).toList _ (fun W' hS => range_of_row (t := 29) (fr := (0, 0)) hS.2.2) Tryd.underlying29 rfl (by kernel_rfl)) hH ?_
        simp only [Act.put, List.setIfInBounds_toArray, List.set_cons_zero, List.set_cons_succ]
        refine takeTo 1 (v := .agg (shpA ⟨zo, zf, zg, zy, zr⟩)) rfl (some 79) rfl (by kernel_rfl) (by kernel_rfl) (by kernel_rfl) (fun _ _ _ h => h) (yieldsIf_load_mid (by rfl) 55 (.tmp 7) rfl b7 0 rfl ((shpA ⟨zo, zf, zg, zy, zr⟩)).toList _ (fun W' hS => range_of_row (t := 55) (fr := (0, 0)) hS.2.1) Tryd.underlying55 rfl (by kernel_rfl)) hH ?_
        simp only [Act.put, List.setIfInBounds_toArray, List.set_cons_zero, List.set_cons_succ]
        refine takeTo 2 (v := ?_) rfl (some 80) rfl (by kernel_rfl) (by kernel_rfl) (by kernel_rfl) (fun _ _ _ h => h) (Or.inl ⟨by rfl, ?_⟩) hH ?_
        rotate_left
        · intro w' hS
          go_simp
          try (with_reducible rfl)
        simp only [Act.put, List.setIfInBounds_toArray, List.set_cons_zero, List.set_cons_succ]
        refine takeTo 3 (v := ?_) rfl (some 81) rfl (by kernel_rfl) (by kernel_rfl) (by kernel_rfl) (fun _ _ _ h => h) (Or.inl ⟨by rfl, ?_⟩) hH ?_
        rotate_left
        · intro w' hS
          go_simp
          try (with_reducible rfl)
        simp only [Act.put, List.setIfInBounds_toArray, List.set_cons_zero, List.set_cons_succ]
        refine takeTo 4 (v := ?_) rfl (some 82) rfl (by kernel_rfl) (by kernel_rfl) (by kernel_rfl) (fun _ _ _ h => h) (Or.inl ⟨by rfl, ?_⟩) hH ?_
        rotate_left
        · intro w' hS
          go_simp
          try (with_reducible rfl)
        simp only [Act.put, List.setIfInBounds_toArray, List.set_cons_zero, List.set_cons_succ]
        refine takeTo 5 (v := ?_) rfl (some 83) rfl (by kernel_rfl) (by kernel_rfl) (by kernel_rfl) (fun _ _ _ h => h) (Or.inl ⟨by rfl, ?_⟩) hH ?_
        rotate_left
        · intro w' hS
          have c3 := hS.1.at'.rb.cell 3
          simp only [inA, List.getElem?_toArray, List.getElem?_cons_zero, List.getElem?_cons_succ] at c3
          go_simp
          try (with_reducible rfl)
        simp only [Act.put, List.setIfInBounds_toArray, List.set_cons_zero, List.set_cons_succ]
        refine wpAnyH_ready (rs := [6]) (by kernel_rfl) (by simp) ?_
        refine consCall rfl rfl (some 84) rfl 52 #[.agg (insV ⟨op, sz, 0, zr, noOpd, noOpd, 0⟩), .agg (shpA ⟨zo, zf, zg, zy, zr⟩), .bool I2.w] (by first | (go_simp; done) | rfl) (CU.out _) ?_ ?_
        · rintro e w1 ⟨rfl, hb⟩
          have hH : Dc w w1 I2 ∧ ZB w1 b7 ⟨zo, zf, zg, zy, zr⟩ ∧ XI w1 b9 ⟨op, sz, 0, zr, noOpd, noOpd, 0⟩ := ⟨hH.1.below hb, keepB (IWr.of_below hH.1.at' hb) (by omega) hH.2.1, keepB (IWr.of_below hH.1.at' hb) (by omega) hH.2.2⟩
          refine ⟨_, rfl, hH, ?_⟩
          simp only [Act.put, List.setIfInBounds_toArray, List.set_cons_zero, List.set_cons_succ]
          refine takeTo 7 (v := ?_) rfl (some 85) rfl (by kernel_rfl) (by kernel_rfl) (by kernel_rfl) (fun _ _ _ h => h) (Or.inl ⟨by rfl, ?_⟩) hH ?_
          rotate_left
          · intro w' hS
            go_simp
            try (with_reducible rfl)
          simp only [Act.put, List.setIfInBounds_toArray, List.set_cons_zero, List.set_cons_succ]
          refine wpAnyH_done (by kernel_rfl) ?_ _
          obtain ⟨M, z7, x9⟩ := hH
          obtain ⟨W, rfl⟩ : ∃ V, V = w1 := ⟨_, rfl⟩
          go_upto_region 18 with fail
          have x0 := x9.cell 0
          simp only [insV, insA, shpA, List.getElem?_toArray, List.getElem?_cons_zero, List.getElem?_cons_succ] at x0
          go_cut [94] from 87 to 94 (fun v W' => v = .bool (decide (op = 25 ∧ m / 64 = 3)) ∧ Dc w W' I2 ∧ ZB W' b7 ⟨zo, zf, zg, zy, zr⟩ ∧ XI W' b9 ⟨op, sz, 0, zr, noOpd, noOpd, 0⟩)
          case first =>
            by_cases o25 : op = 25
            · have e25 : (op == 25) = true := by rw [o25]; rfl
              by_cases m3 : m / 64 = 3
              · have e3 : ((m : Int) / 64 == 3) = true := by simp; omega
                go_wp2
                go_meet
                case rel => exact ⟨congrArg Value.bool (decide_eq_true (p := op = 25 ∧ m / 64 = 3) ⟨o25, m3⟩).symm, M, z7, x9⟩
              · have e3 : ((m : Int) / 64 == 3) = false := beq_eq_false_iff_ne.mpr (by omega)
                go_wp2
                go_meet
                case rel => exact ⟨congrArg Value.bool (decide_eq_false (p := op = 25 ∧ m / 64 = 3) (fun e => m3 e.2)).symm, M, z7, x9⟩
            · have e25 : (op == 25) = false := beq_eq_false_iff_ne.mpr o25
              go_wp2
              go_meet
              case rel => exact ⟨congrArg Value.bool (decide_eq_false (p := op = 25 ∧ m / 64 = 3) (fun e => o25 e.1)).symm, M, z7, x9⟩
          case rest =>
            obtain ⟨rfl, M, z7, x9⟩ := hcut
            obtain ⟨W, rfl⟩ : ∃ W, W = wc := ⟨_, rfl⟩
            by_cases hlea : op = 25 ∧ m / 64 = 3
            · have elea : decide (op = 25 ∧ m / 64 = 3) = true := decide_eq_true hlea
              go_upto_region 19 with fail
              apply wp_region_list
              refine wpList_buildTo rfl 29 #[] rfl (some 95) rfl zIns (by kernel_rfl) ?_
              simp only [Act.put, List.setIfInBounds_toArray, List.set_cons_zero, List.set_cons_succ]
              refine wpList_store_row rfl 29 (.tmp 4) (.tmp 95) rfl (w.heap.size) zIns ?_ ?_ 29 _ (M.r) (by kernel_rfl) rfl (ins_one _ _ _ _ _ _ _) ?_
              · rfl
              · rfl
              refine Great.wpList_runTo rfl (some 5) rfl (.int .i64 12) (W.setRow w.heap.size zIns) (by first | (go_simp; done) | rfl) ?_
              simp only [Act.put, List.setIfInBounds_toArray, List.set_cons_zero, List.set_cons_succ]
              have M := M.res
              go_wp2_with fail
              refine bodyPost_ret (v := .tuple #[.agg (zIns), .int .i64 (12)]) (by exact results_cell_row2 Tryd.results31 _ _ w.heap.size 29 (zIns) (0, 0) _ rfl (M.r) Tryd.underlying29 rfl (by kernel_rfl)) (by rfl) (⟨by rw [l4c hc2 hlea], M.at'.be⟩)
            · have elea : decide (op = 25 ∧ m / 64 = 3) = false := decide_eq_false hlea
              go_upto_region 20 with fail
              have x0 := x9.cell 0
              simp only [insV, insA, shpA, List.getElem?_toArray, List.getElem?_cons_zero, List.getElem?_cons_succ] at x0
              go_cut [108] from 95 to 108 (fun v W' => v = .bool (decide (op = 33 ∨ op = 35 ∨ op = 36)) ∧ Dc w W' I2 ∧ ZB W' b7 ⟨zo, zf, zg, zy, zr⟩ ∧ XI W' b9 ⟨op, sz, 0, zr, noOpd, noOpd, 0⟩)
              case first =>
                by_cases o33 : op = 33
                · have e33 : (op == 33) = true := by rw [o33]; rfl
                  go_wp2
                  go_meet
                  case rel => exact ⟨congrArg Value.bool (decide_eq_true (p := op = 33 ∨ op = 35 ∨ op = 36) (.inl o33)).symm, M, z7, x9⟩
                · have e33 : (op == 33) = false := beq_eq_false_iff_ne.mpr o33
                  by_cases o35 : op = 35
                  · have e35 : (op == 35) = true := by rw [o35]; rfl
                    go_wp2
                    go_meet
                    case rel => exact ⟨congrArg Value.bool (decide_eq_true (p := op = 33 ∨ op = 35 ∨ op = 36) (.inr (.inl o35))).symm, M, z7, x9⟩
                  · have e35 : (op == 35) = false := beq_eq_false_iff_ne.mpr o35
                    by_cases o36 : op = 36
                    · have e36 : (op == 36) = true := by rw [o36]; rfl
                      go_wp2
                      go_meet
                      case rel => exact ⟨congrArg Value.bool (decide_eq_true (p := op = 33 ∨ op = 35 ∨ op = 36) (.inr (.inr o36))).symm, M, z7, x9⟩
                    · have e36 : (op == 36) = false := beq_eq_false_iff_ne.mpr o36
                      go_wp2
                      go_meet
                      case rel => exact ⟨congrArg Value.bool (decide_eq_false (p := op = 33 ∨ op = 35 ∨ op = 36) (by omega)).symm, M, z7, x9⟩
              case rest =>
                obtain ⟨rfl, M, z7, x9⟩ := hcut
                obtain ⟨W, rfl⟩ : ∃ W, W = wc := ⟨_, rfl⟩
                go_upto_if 108 with fail
                go_cut [9] from 109 to 111 (fun v W' => v = .pointer (some ⟨b9, 0, none⟩) ∧ Dc w W' I2 ∧ ZB W' b7 ⟨zo, zf, zg, zy, zr⟩ ∧ XI W' b9 ⟨op, sz, cd, zr, noOpd, noOpd, 0⟩)
                case first =>
                  by_cases hcn : op = 33 ∨ op = 35 ∨ op = 36
                  · have ecn : decide (op = 33 ∨ op = 35 ∨ op = 36) = true := decide_eq_true hcn
                    have x2 := x9.cell 2
                    simp only [insV, insA, shpA, List.getElem?_toArray, List.getElem?_cons_zero, List.getElem?_cons_succ] at x2
                    have f2 := x9.free 2
                    go_upto_region 21 with fail
                    apply wp_region_list
                    refine Great.wpList_runTo rfl (some 109) rfl (.int .i64 (b : Int)) W (by first | (go_simp; done) | rfl) ?_
                    simp only [Act.put, List.setIfInBounds_toArray, List.set_cons_zero, List.set_cons_succ]
                    refine Great.wpList_runTo rfl (some 110) rfl (.int .i64 ((b : Int) % 16)) W (by first | (go_simp; done) | rfl) ?_
                    simp only [Act.put, List.setIfInBounds_toArray, List.set_cons_zero, List.set_cons_succ]
                    refine Great.wpList_runTo rfl (some 111) rfl (.pointer (some ⟨b9, 2, none⟩)) W (by first | (go_simp; done) | rfl) ?_
                    simp only [Act.put, List.setIfInBounds_toArray, List.set_cons_zero, List.set_cons_succ]
                    go_wp2
                    go_meet
                    case rel => exact ⟨rfl, M.cell (by omega) _ _, z7.othC (by omega), x9.set (y := ⟨op, sz, cd, zr, noOpd, noOpd, 0⟩) 2 (.int .i64 ((b : Int) % 16)) (by rw [HCh.out, if_pos hcn]; rfl)⟩
                  · have HC := HCh.out
                    rw [if_neg hcn] at HC
                    clear HCh
                    have ecn : decide (op = 33 ∨ op = 35 ∨ op = 36) = false := decide_eq_false hcn
                    subst HC
                    go_wp2
                    go_meet
                    case rel => exact ⟨rfl, M, z7, x9⟩
                case rest =>
                  obtain ⟨rfl, M, z7, x9⟩ := hcut
                  obtain ⟨W, rfl⟩ : ∃ W, W = wc := ⟨_, rfl⟩
                  have zz := z7.cell 1
                  simp only [insV, insA, shpA, List.getElem?_toArray, List.getElem?_cons_zero, List.getElem?_cons_succ] at zz
                  go_upto_if 114 with (go_at_call 47; refine (CH.out _).mono ?_; rintro e w9 ⟨rfl, rfl⟩)
                  clear zz
                  go_cut [9] from 115 to 124 (fun v W' => v = .pointer (some ⟨b9, 0, none⟩) ∧ Dc w W' I3 ∧ ZB W' b7 ⟨zo, zf, zg, zy, zr⟩ ∧ XI W' b9 ⟨op, sz, cd, zr, d, sr, 0⟩)
                  case first =>
                    cases hM
                    · go_upto_region 24 with fail
                      apply wp_region_list
                      refine Great.wpList_runTo rfl (some 120) rfl (.pointer (some ⟨w.heap.size + 1, 0, none⟩)) W (by first | (go_simp; done) | rfl) ?_
                      simp only [Act.put, List.setIfInBounds_toArray, List.set_cons_zero, List.set_cons_succ]
                      refine wpList_load_row rfl 29 (.tmp 9) rfl (b9) rfl 29 (insV ⟨op, sz, cd, zr, noOpd, noOpd, 0⟩) (0, 0) _ (x9) Tryd.underlying29 rfl (by kernel_rfl) ?_
                      simp only [Act.put, List.setIfInBounds_toArray, List.set_cons_zero, List.set_cons_succ]
                      refine wpList_load_row rfl 55 (.tmp 7) rfl (b7) rfl 55 (shpA ⟨zo, zf, zg, zy, zr⟩) (0, 0) _ (z7) Tryd.underlying55 rfl (by kernel_rfl) ?_
                      simp only [Act.put, List.setIfInBounds_toArray, List.set_cons_zero, List.set_cons_succ]
                      refine Great.wpList_runTo rfl (some 123) rfl (.int .i64 (b : Int)) W (by first | (go_simp; done) | rfl) ?_
                      simp only [Act.put, List.setIfInBounds_toArray, List.set_cons_zero, List.set_cons_succ]
                      have M0 := Lib.hid M
                      have Z7 := Lib.hid z7
                      have X9 := Lib.hid x9
                      clear M z7 x9
                      refine callStep rfl (some 124) rfl 54 #[.pointer (some ⟨w.heap.size + 1, 0, none⟩), .agg (insV ⟨op, sz, cd, zr, noOpd, noOpd, 0⟩), .agg (shpA ⟨zo, zf, zg, zy, zr⟩), .int .i64 (b : Int)] (by first | (go_simp; done) | rfl) ((KP rfl hc2).out _ M0.out.at') ?_
                      rintro e W ⟨rfl, hw⟩
                      refine ⟨.agg (insV ⟨op, sz, cd, zr, d, sr, 0⟩), rfl, ?_⟩
                      simp only [Act.put, List.setIfInBounds_toArray, List.set_cons_zero, List.set_cons_succ]
                      have M := M0.out.wr hw
                      have z7 : ZB W b7 _ := keepB hw (by omega) Z7.out
                      have x9 : XI W b9 _ := keepB hw (by omega) X9.out
                      clear hw M0 Z7 X9
                      refine wpList_store_row rfl 29 (.tmp 9) (.tmp 124) rfl (b9) (insV ⟨op, sz, cd, zr, d, sr, 0⟩) ?_ ?_ 29 _ (x9) (by kernel_rfl) rfl (insV_one _) ?_
                      · rfl
                      · rfl
                      go_wp2
                      go_meet
                      case rel => exact ⟨rfl, M.row (by omega) _, z7.othR (by omega) _, x9.newR⟩
                    · go_upto_region 23 with fail
                      apply wp_region_list
                      refine Great.wpList_runTo rfl (some 115) rfl (.pointer (some ⟨w.heap.size + 1, 0, none⟩)) W (by first | (go_simp; done) | rfl) ?_
                      simp only [Act.put, List.setIfInBounds_toArray, List.set_cons_zero, List.set_cons_succ]
                      refine wpList_load_row rfl 29 (.tmp 9) rfl (b9) rfl 29 (insV ⟨op, sz, cd, zr, noOpd, noOpd, 0⟩) (0, 0) _ (x9) Tryd.underlying29 rfl (by kernel_rfl) ?_
                      simp only [Act.put, List.setIfInBounds_toArray, List.set_cons_zero, List.set_cons_succ]
                      refine wpList_load_row rfl 55 (.tmp 7) rfl (b7) rfl 55 (shpA ⟨zo, zf, zg, zy, zr⟩) (0, 0) _ (z7) Tryd.underlying55 rfl (by kernel_rfl) ?_
                      simp only [Act.put, List.setIfInBounds_toArray, List.set_cons_zero, List.set_cons_succ]
                      refine Great.wpList_runTo rfl (some 118) rfl (.int .i64 (m : Int)) W (by first | (go_simp; done) | rfl) ?_
                      simp only [Act.put, List.setIfInBounds_toArray, List.set_cons_zero, List.set_cons_succ]
                      have M0 := Lib.hid M
                      have Z7 := Lib.hid z7
                      have X9 := Lib.hid x9
                      clear M z7 x9
                      refine callStep rfl (some 119) rfl 53 #[.pointer (some ⟨w.heap.size + 1, 0, none⟩), .agg (insV ⟨op, sz, cd, zr, noOpd, noOpd, 0⟩), .agg (shpA ⟨zo, zf, zg, zy, zr⟩), .int .i64 (m : Int)] (by first | (go_simp; done) | rfl) ((KM rfl hc2).out _ M0.out.at') ?_
                      rintro e W ⟨rfl, hw⟩
                      refine ⟨.agg (insV ⟨op, sz, cd, zr, d, sr, 0⟩), rfl, ?_⟩
                      simp only [Act.put, List.setIfInBounds_toArray, List.set_cons_zero, List.set_cons_succ]
                      have M := M0.out.wr hw
                      have z7 : ZB W b7 _ := keepB hw (by omega) Z7.out
                      have x9 : XI W b9 _ := keepB hw (by omega) X9.out
                      clear hw M0 Z7 X9
                      refine wpList_store_row rfl 29 (.tmp 9) (.tmp 119) rfl (b9) (insV ⟨op, sz, cd, zr, d, sr, 0⟩) ?_ ?_ 29 _ (x9) (by kernel_rfl) rfl (insV_one _) ?_
                      · rfl
                      · rfl
                      go_wp2
                      go_meet
                      case rel => exact ⟨rfl, M.row (by omega) _, z7.othR (by omega) _, x9.newR⟩
                  case rest =>
                    obtain ⟨rfl, M, z7, x9⟩ := hcut
                    obtain ⟨W, rfl⟩ : ∃ W, W = wc := ⟨_, rfl⟩
                    have c4 := M.at'.rb.cell 4
                    simp only [inA, List.getElem?_toArray, List.getElem?_cons_zero, List.getElem?_cons_succ] at c4
                    by_cases hc3 : I3.c = 0
                    · have k3 : (I3.c != 0) = false := by rw [hc3]; rfl
                      have c1 := M.at'.rb.cell 1
                      simp only [inA, List.getElem?_toArray, List.getElem?_cons_zero, List.getElem?_cons_succ] at c1
                      have x18 := x9.cell 18
                      simp only [insV, insA, shpA, List.getElem?_toArray, List.getElem?_cons_zero, List.getElem?_cons_succ] at x18
                      have f18 := x9.free 18
                      go_upto_region 28 with fail
                      clear c4 c1 x18 f18
                      refine abs_world (T := fun W => Dc w W I3 ∧ ZB W b7 ⟨zo, zf, zg, zy, zr⟩ ∧ XI W b9 ⟨op, sz, cd, zr, d, sr, ((I3.n : Int) - n)⟩) (G := fun W => Code.wp _ _ _ _ W) _ (⟨M.cell (by omega) _ _, z7.othC (by omega), x9.set (y := ⟨op, sz, cd, zr, d, sr, ((I3.n : Int) - n)⟩) 18 (.int .i64 ((I3.n : Int) - n)) rfl⟩) ?_
                      clear M z7 x9
                      intro W ⟨M, z7, x9⟩
                      apply wp_region_list
                      refine wpList_load_row rfl 29 (.tmp 9) rfl (b9) rfl 29 (insV ⟨op, sz, cd, zr, d, sr, ((I3.n : Int) - n)⟩) (0, 0) _ (x9) Tryd.underlying29 rfl (by kernel_rfl) ?_
                      simp only [Act.put, List.setIfInBounds_toArray, List.set_cons_zero, List.set_cons_succ]
                      refine wpList_store_row rfl 29 (.tmp 4) (.tmp 142) rfl (w.heap.size) (insV ⟨op, sz, cd, zr, d, sr, ((I3.n : Int) - n)⟩) ?_ ?_ 29 _ (M.r) (by kernel_rfl) rfl (insV_one _) ?_
                      · rfl
                      · rfl
                      refine Great.wpList_runTo rfl (some 5) rfl (.int .i64 0) (W.setRow w.heap.size (insV ⟨op, sz, cd, zr, d, sr, ((I3.n : Int) - n)⟩)) (by first | (go_simp; done) | rfl) ?_
                      simp only [Act.put, List.setIfInBounds_toArray, List.set_cons_zero, List.set_cons_succ]
                      go_wp2_with fail
                      refine bodyPost_ret (v := .tuple #[.agg (insV ⟨op, sz, cd, zr, d, sr, ((I3.n : Int) - n)⟩), .int .i64 (0)]) (by exact results_cell_row2 Tryd.results31 _ _ w.heap.size 29 (insV ⟨op, sz, cd, zr, d, sr, ((I3.n : Int) - n)⟩) (0, 0) _ rfl (setRow_heap _ _ _ _ _ _ M.r) Tryd.underlying29 rfl (by kernel_rfl)) (by rfl) (⟨by rw [l4e hc2 hlea hc3]; rfl, M.fin _⟩)
                    · have k3 : (I3.c != 0) = true := bne_iff_ne.mpr hc3
                      go_upto_region 26 with fail
                      refine wp_region_held_drew (S := fun W' => Dc w W' I3) (by kernel_rfl) M.drew (fun (hH : Dc w _ I3) => ?_)
                      refine takeTo 0 (v := ?_) rfl (some 130) rfl (by kernel_rfl) (by kernel_rfl) (by kernel_rfl) (fun _ _ _ h => h) (Or.inl ⟨by rfl, ?_⟩) hH ?_
                      rotate_left
                      · intro w' hS
                        go_simp
                        try (with_reducible rfl)
                      simp only [Act.put, List.setIfInBounds_toArray, List.set_cons_zero, List.set_cons_succ]
                      refine takeTo 1 (v := ?_) rfl (some 131) rfl (by kernel_rfl) (by kernel_rfl) (by kernel_rfl) (fun _ _ _ h => h) (Or.inl ⟨by rfl, ?_⟩) hH ?_
                      rotate_left
                      · intro w' hS
                        go_simp
                        try (with_reducible rfl)
                      simp only [Act.put, List.setIfInBounds_toArray, List.set_cons_zero, List.set_cons_succ]
                      refine takeTo 2 (v := ?_) rfl (some 132) rfl (by kernel_rfl) (by kernel_rfl) (by kernel_rfl) (fun _ _ _ h => h) (Or.inl ⟨by rfl, ?_⟩) hH ?_
                      rotate_left
                      · intro w' hS
                        go_simp
                        try (with_reducible rfl)
                      simp only [Act.put, List.setIfInBounds_toArray, List.set_cons_zero, List.set_cons_succ]
                      refine takeTo 3 (v := ?_) rfl (some 133) rfl (by kernel_rfl) (by kernel_rfl) (by kernel_rfl) (fun _ _ _ h => h) (Or.inl ⟨by rfl, ?_⟩) hH ?_
                      rotate_left
                      · intro w' hS
                        go_simp
                        try (with_reducible rfl)
                      simp only [Act.put, List.setIfInBounds_toArray, List.set_cons_zero, List.set_cons_succ]
                      refine takeTo 4 (v := ?_) rfl (some 134) rfl (by kernel_rfl) (by kernel_rfl) (by kernel_rfl) (fun _ _ _ h => h) (Or.inl ⟨by rfl, ?_⟩) hH ?_
                      rotate_left
                      · intro w' hS
                        have c4 := hS.at'.rb.cell 4
                        simp only [inA, List.getElem?_toArray, List.getElem?_cons_zero, List.getElem?_cons_succ] at c4
                        go_simp
                        try (with_reducible rfl)
                      simp only [Act.put, List.setIfInBounds_toArray, List.set_cons_zero, List.set_cons_succ]
                      refine wpAnyH_ready (rs := [5]) (by kernel_rfl) (by simp) ?_
                      refine consRow rfl rfl 29 (.tmp 4) (.tmp 130) rfl rfl (w.heap.size) zIns ?_ ?_ 29 _ (hH.r) ?_ ?_ (ins_one _ _ _ _ _ _ _) (hH.res) ?_ ?_
                      · rfl
                      · rfl
                      · kernel_rfl
                      · rfl
                      · have hH := hH.res
                        refine takeTo 6 (v := ?_) rfl (some 5) rfl (by kernel_rfl) (by kernel_rfl) (by kernel_rfl) (fun _ _ _ h => h) (Or.inl ⟨by rfl, ?_⟩) hH ?_
                        rotate_left
                        · intro w' hS
                          go_simp
                          try (with_reducible rfl)
                        simp only [Act.put, List.setIfInBounds_toArray, List.set_cons_zero, List.set_cons_succ]
                        refine wpAnyH_done (by kernel_rfl) ?_ _
                        have M := hH
                        go_wp2_with fail
                        refine bodyPost_ret (v := .tuple #[.agg (zIns), .int .i64 (I3.c)]) (by exact results_cell_row2 Tryd.results31 _ _ w.heap.size 29 (zIns) (0, 0) _ rfl (M.r) Tryd.underlying29 rfl (by kernel_rfl)) (by rfl) (⟨by rw [l4d hc2 hlea hc3], M.at'.be⟩)
                      exact AllReadyH.nil
        exact AllReadyH.nil
    · have k2 : (I2.c != 0) = true := bne_iff_ne.mpr hc2
      have c4 := M.at'.rb.cell 4
      simp only [inA, List.getElem?_toArray, List.getElem?_cons_zero, List.getElem?_cons_succ] at c4
      go_upto_region 14 with fail
      refine wp_region_held_drew (S := fun W' => Dc w W' I2) (by kernel_rfl) M.drew (fun (hH : Dc w _ I2) => ?_)
      refine takeTo 0 (v := ?_) rfl (some 67) rfl (by kernel_rfl) (by kernel_rfl) (by kernel_rfl) (fun _ _ _ h => h) (Or.inl ⟨by rfl, ?_⟩) hH ?_
      rotate_left
      · intro w' hS
        go_simp
        try (with_reducible rfl)
      simp only [Act.put, List.setIfInBounds_toArray, List.set_cons_zero, List.set_cons_succ]
      refine takeTo 1 (v := ?_) rfl (some 68) rfl (by kernel_rfl) (by kernel_rfl) (by kernel_rfl) (fun _ _ _ h => h) (Or.inl ⟨by rfl, ?_⟩) hH ?_
      rotate_left
      · intro w' hS
        go_simp
        try (with_reducible rfl)
      simp only [Act.put, List.setIfInBounds_toArray, List.set_cons_zero, List.set_cons_succ]
      refine takeTo 2 (v := ?_) rfl (some 69) rfl (by kernel_rfl) (by kernel_rfl) (by kernel_rfl) (fun _ _ _ h => h) (Or.inl ⟨by rfl, ?_⟩) hH ?_
      rotate_left
      · intro w' hS
        go_simp
        try (with_reducible rfl)
      simp only [Act.put, List.setIfInBounds_toArray, List.set_cons_zero, List.set_cons_succ]
      refine takeTo 3 (v := ?_) rfl (some 70) rfl (by kernel_rfl) (by kernel_rfl) (by kernel_rfl) (fun _ _ _ h => h) (Or.inl ⟨by rfl, ?_⟩) hH ?_
      rotate_left
      · intro w' hS
        go_simp
        try (with_reducible rfl)
      simp only [Act.put, List.setIfInBounds_toArray, List.set_cons_zero, List.set_cons_succ]
      refine takeTo 4 (v := ?_) rfl (some 71) rfl (by kernel_rfl) (by kernel_rfl) (by kernel_rfl) (fun _ _ _ h => h) (Or.inl ⟨by rfl, ?_⟩) hH ?_
      rotate_left
      · intro w' hS
        have c4 := hS.at'.rb.cell 4
        simp only [inA, List.getElem?_toArray, List.getElem?_cons_zero, List.getElem?_cons_succ] at c4
        go_simp
        try (with_reducible rfl)
      simp only [Act.put, List.setIfInBounds_toArray, List.set_cons_zero, List.set_cons_succ]
      refine wpAnyH_ready (rs := [5]) (by kernel_rfl) (by simp) ?_
      refine consRow rfl rfl 29 (.tmp 4) (.tmp 67) rfl rfl (w.heap.size) zIns ?_ ?_ 29 _ (hH.r) ?_ ?_ (ins_one _ _ _ _ _ _ _) (hH.res) ?_ ?_
      · rfl
      · rfl
      · kernel_rfl
      · rfl
      · have hH := hH.res
        refine takeTo 6 (v := ?_) rfl (some 5) rfl (by kernel_rfl) (by kernel_rfl) (by kernel_rfl) (fun _ _ _ h => h) (Or.inl ⟨by rfl, ?_⟩) hH ?_
        rotate_left
        · intro w' hS
          go_simp
          try (with_reducible rfl)
        simp only [Act.put, List.setIfInBounds_toArray, List.set_cons_zero, List.set_cons_succ]
        refine wpAnyH_done (by kernel_rfl) ?_ _
        have M := hH
        go_wp2_with fail
        refine bodyPost_ret (v := .tuple #[.agg (zIns), .int .i64 (I2.c)]) (by exact results_cell_row2 Tryd.results31 _ _ w.heap.size 29 (zIns) (0, 0) _ rfl (M.r) Tryd.underlying29 rfl (by kernel_rfl)) (by rfl) (⟨by rw [l4a hc2], M.at'.be⟩)
      exact AllReadyH.nil
end Go.Proofs.YtinjpobepcenfaaDoor
namespace Go.Proofs.YtinjpobepcenfaaDoor
open Go.RowKit Go.Sort
set_option linter.unusedVariables false
set_option linter.unusedSimpArgs false
theorem plS_3 {I : In} {op sz : Int} {b : Nat} : plS I 3 op sz b = ((regOpd 0, (immS I (minK sz)).1), (immS I (minK sz)).2) := by simp [plS]
theorem plS_7a {I : In} {op sz : Int} {b y : Nat} (hy : y = b % 8 + extB I.x 0) (h : op = 29) : plS I 7 op sz b = ((noOpd, regOpd (y : Int)), I) := by subst hy; simp [plS, h]
theorem plS_7b {I : In} {op sz : Int} {b y : Nat} (hy : y = b % 8 + extB I.x 0) (h : op ≠ 29) : plS I 7 op sz b = ((regOpd (y : Int), noOpd), I) := by subst hy; simp [plS, h]
theorem plS_8 {I : In} {op sz : Int} {b y : Nat} (hy : y = b % 8 + extB I.x 0) : plS I 8 op sz b = ((bReg y sz I.x, (immS I sz.toNat).1), (immS I sz.toNat).2) := by subst hy; simp [plS]
theorem plS_9 {I : In} {op sz : Int} {b : Nat} : plS I 9 op sz b = ((noOpd, (immS I 1).1), (immS I 1).2) := by simp [plS]
theorem plS_10 {I : In} {op sz : Int} {b : Nat} : plS I 10 op sz b = ((noOpd, (immS I 4).1), (immS I 4).2) := by simp [plS]
theorem plS_16 {I : In} {op sz : Int} {b : Nat} : plS I 16 op sz b = ((noOpd, (immS I 4).1), (immS I 4).2) := by simp [plS]
theorem plS_14 {I : In} {op sz : Int} {b : Nat} : plS I 14 op sz b = ((noOpd, noOpd), I) := by simp [plS]
theorem plS_15a {I : In} {op sz : Int} {b : Nat} (h : op = 44) : plS I 15 op sz b = ((noOpd, (immU I).1), (immU I).2) := by simp [plS, h]
theorem plS_15b {I : In} {op sz : Int} {b : Nat} (h : op ≠ 44) : plS I 15 op sz b = ((noOpd, (immS I 1).1), (immS I 1).2) := by simp [plS, h]
theorem Md.set17 {W0 w W : World} {g : Nat} {J : In} {z : Shp} {op sz cd fr ln v v2 : Int} (h : Md W0 w W g J ⟨op, sz, cd, fr, noOpd, immOpd v, ln⟩ z) : Md W0 w (W.setCell ⟨w.heap.size, 17, none⟩ (.int .i64 v2)) g J ⟨op, sz, cd, fr, noOpd, immOpd v2, ln⟩ z := by
  have hn := h.ne; have hg := h.ge
  have hb (k : Nat) (hk : k ≠ w.heap.size) : (W.setCell ⟨w.heap.size, 17, none⟩ (.int .i64 v2)).heap[k]? = W.heap[k]? := Below.heap_setCell _ _ _ _ (by simpa using hk)
  exact ⟨⟨(hb g (by omega)).trans h.at'.rb, h.at'.ge, h.at'.be.setCell (by show _ ≤ w.heap.size; omega) _, h.at'.sz, h.at'.le, h.at'.x8⟩, h.x.set 17 _ rfl, (hb _ (by omega)).trans h.z, (hb _ (by omega)).trans h.r, ⟨h.ch.os, h.ch.tape, h.ch.output, by simp; exact h.ch.size, fun k hk hn => (hb k (by omega)).trans (h.ch.block k hk hn)⟩, hn, hg⟩
set_option maxRecDepth 100000 in
set_option maxHeartbeats 4000000 in
theorem pl_x (g b y0 E0 : Nat) (I : In) (op sz cd fr ln : Int) (z : Shp) (W0 w : World) (h : IAt W0 w g I) (hb : b < 256) (hE0 : E0 = extB I.x 0) (hy0 : y0 = b % 8 + E0) (hf1 : z.f = 3 ∨ z.f = 7 ∨ z.f = 8 ∨ z.f = 9 ∨ z.f = 10 ∨ z.f = 14 ∨ z.f = 15 ∨ z.f = 16)
  (C0 : Hid (∀ W, IAt W0 W g I → Calls Tryd.prog 87 #[.pointer (some ⟨g, 0, none⟩), .int .i64 0] W fun e w' => e = .returned (.int .i64 (E0 : Int)) ∧ W = w'))
  (CR : Hid (∀ W, IAt W0 W g I → Calls Tryd.prog 86 #[.pointer (some ⟨g, 0, none⟩), .int .i64 (y0 : Int), .int .i64 sz] W fun e w' => e = .returned (V7 (bReg y0 sz I.x)) ∧ Below W.heap.size W w'))
  (CN : z.f = 8 → Hid (∀ W, IAt W0 W g I → Calls Tryd.prog 83 #[.pointer (some ⟨g, 0, none⟩), .int .i64 sz] W fun e w' => e = .returned (.int .i64 (numV I sz.toNat)) ∧ IWr W0 W w' g (immS I sz.toNat).2))
  (CIS : z.f = 3 ∨ z.f = 5 → Hid (∀ W, IAt W0 W g I → Calls Tryd.prog 89 #[.pointer (some ⟨g, 0, none⟩), .int .i64 sz] W fun e w' => e = .returned (V7 (immS I (minK sz)).1) ∧ IWr W0 W w' g (immS I (minK sz)).2))
  (CI1 : Hid (∀ W, IAt W0 W g I → Calls Tryd.prog 89 #[.pointer (some ⟨g, 0, none⟩), .int .i64 1] W fun e w' => e = .returned (V7 (immS I 1).1) ∧ IWr W0 W w' g (immS I 1).2))
  (CI4 : Hid (∀ W, IAt W0 W g I → Calls Tryd.prog 89 #[.pointer (some ⟨g, 0, none⟩), .int .i64 4] W fun e w' => e = .returned (V7 (immS I 4).1) ∧ IWr W0 W w' g (immS I 4).2))
  (CZ : Hid (∀ W, Calls Tryd.prog 82 #[.int .i64 (numV I 1), .int .i64 1] W fun e w' => e = .returned (.int .i64 (byteV I : Int)) ∧ W = w')) :
    Calls Tryd.prog 54 #[.pointer (some ⟨g, 0, none⟩), .agg (insV ⟨op, sz, cd, fr, noOpd, noOpd, ln⟩), shpV z, .int .i64 (b : Int)] w fun e w' => e = .returned (.agg (insV ⟨op, sz, cd, fr, (plS I z.f op sz b).1.1, (plS I z.f op sz b).1.2, ln⟩)) ∧ IWr W0 w w' g (plS I z.f op sz b).2 := by
  have M0 := Lib.hid (Md.new h ⟨op, sz, cd, fr, noOpd, noOpd, ln⟩ z)
  obtain ⟨zo, zf, zg, zy, zr⟩ := z
  simp only at hf1 CN CIS
  have HY := Lib.hid (show y0 = b % 8 + extB I.x 0 by omega)
  have hE := extB_le I.x 0
  have q1 : (y0 : Int) = (b : Int) % 8 + (E0 : Int) := by omega
  have hE0' : (E0 : Int) ≤ 8 := by omega
  have ew : IntKind.i64.wrap ((b : Int).tmod 8 + (E0 : Int)) = (y0 : Int) := by
    rw [Int.tmod_eq_emod_of_nonneg (by omega), IntWalk.i64_in _ (by omega)]
    omega
  have hb' : (b : Int) < 256 := by omega
  clear h hb hE hE0 hy0
  go_enter Tryd.func54, Tryd.ntmps54
  go_upto_region 1 with fail
  refine abs_world (T := fun W => Md W0 w W g I ⟨op, sz, cd, fr, noOpd, noOpd, ln⟩ ⟨zo, zf, zg, zy, zr⟩) (G := fun W => Code.wp _ _ _ _ W) _ (M0.out) ?_
  clear M0
  intro W M
  rcases hf1 with rfl | rfl | rfl | rfl | rfl | rfl | rfl | rfl
  · have z1 := M.z.cell 1
    simp only [insV, insA, shpA, List.getElem?_toArray, List.getElem?_cons_zero, List.getElem?_cons_succ] at z1
    go_upto_region 3 with fail
    apply wp_region_list
    refine wpList_buildTo rfl 25 #[(0, .const (.int .i64 1))] rfl (some 14) rfl (opdL (regOpd 0)).toArray (by kernel_rfl) ?_
    simp only [Act.put, List.setIfInBounds_toArray, List.set_cons_zero, List.set_cons_succ]
    refine Great.wpList_runTo rfl (some 15) rfl (.pointer (some ⟨w.heap.size, 4, none⟩)) W (by first | (go_simp; done) | rfl) ?_
    simp only [Act.put, List.setIfInBounds_toArray, List.set_cons_zero, List.set_cons_succ]
    refine wpList_store_mid rfl 25 (.tmp 15) (.tmp 14) rfl (w.heap.size) 4 (opdL (regOpd 0)).toArray ?_ ?_ (M.x.there 4 7 (by decide)) (by kernel_rfl) (opd_one _) ?_
    · rfl
    · rfl
    go_upto_region 4 with fail
    refine abs_world (T := fun W => Md W0 w W g I ⟨op, sz, cd, fr, (regOpd 0), (noOpd), ln⟩ ⟨zo, 3, zg, zy, zr⟩) (G := fun W => Code.wp _ _ _ _ W) _ (M.dst (regOpd 0)) ?_
    clear M
    intro W M
    go_upto_region 4 with fail
    apply wp_region_list
    have M0 := Lib.hid M
    refine Great.wpList_runTo rfl (some 16) rfl (.pointer (some ⟨g, 0, none⟩)) W (by first | (go_simp; done) | rfl) ?_
    simp only [Act.put, List.setIfInBounds_toArray, List.set_cons_zero, List.set_cons_succ]
    refine Great.wpList_runTo rfl (some 17) rfl (.pointer (some ⟨w.heap.size, 1, none⟩)) W (by first | (go_simp; done) | rfl) ?_
    simp only [Act.put, List.setIfInBounds_toArray, List.set_cons_zero, List.set_cons_succ]
    have c1 := M.x.cell 1
    simp only [insV, insA, shpA, List.getElem?_toArray, List.getElem?_cons_zero, List.getElem?_cons_succ] at c1
    refine Great.wpList_runTo rfl (some 18) rfl (.int .i64 sz) W (by first | (go_simp; done) | rfl) ?_
    simp only [Act.put, List.setIfInBounds_toArray, List.set_cons_zero, List.set_cons_succ]
    clear c1
    clear M
    refine callStep rfl (some 19) rfl 89 #[.pointer (some ⟨g, 0, none⟩), .int .i64 sz] (by first | (go_simp; done) | rfl) ((CIS (.inl rfl)).out _ M0.out.at') ?_
    rintro e W ⟨rfl, hw⟩
    refine ⟨V7 (immS I (minK sz)).1, rfl, ?_⟩
    simp only [Act.put, List.setIfInBounds_toArray, List.set_cons_zero, List.set_cons_succ]
    have M := M0.out.wr hw
    clear hw M0
    refine Great.wpList_runTo rfl (some 20) rfl (.pointer (some ⟨w.heap.size, 11, none⟩)) W (by first | (go_simp; done) | rfl) ?_
    simp only [Act.put, List.setIfInBounds_toArray, List.set_cons_zero, List.set_cons_succ]
    refine wpList_store_mid rfl 25 (.tmp 20) (.tmp 19) rfl (w.heap.size) 11 (opdL ((immS I (minK sz)).1)).toArray ?_ ?_ (M.x.there 11 7 (by decide)) (by kernel_rfl) (opd_one _) ?_
    · rfl
    · rfl
    go_upto_region 22 with fail
    refine abs_world (T := fun W => Md W0 w W g (immS I (minK sz)).2 ⟨op, sz, cd, fr, ((regOpd 0)), ((immS I (minK sz)).1), ln⟩ ⟨zo, 3, zg, zy, zr⟩) (G := fun W => Code.wp _ _ _ _ W) _ (M.src ((immS I (minK sz)).1)) ?_
    clear M
    intro W M
    go_upto_region 22 with fail
    apply wp_region_list
    refine wpList_load_row rfl 29 (.tmp 5) rfl (w.heap.size) rfl 29 (insV ⟨op, sz, cd, fr, (regOpd 0), (immS I (minK sz)).1, ln⟩) (0, 0) _ (M.x) Tryd.underlying29 rfl (by kernel_rfl) ?_
    simp only [Act.put, List.setIfInBounds_toArray, List.set_cons_zero, List.set_cons_succ]
    refine wpList_store_row rfl 29 (.tmp 8) (.tmp 79) rfl (w.heap.size + 2) (insV ⟨op, sz, cd, fr, (regOpd 0), (immS I (minK sz)).1, ln⟩) ?_ ?_ 29 _ (M.r) (by kernel_rfl) rfl (insV_one _) ?_
    · rfl
    · rfl
    go_wp2_with fail
    refine bodyPost_ret (v := .agg (insV ⟨op, sz, cd, fr, (regOpd 0), (immS I (minK sz)).1, ln⟩)) (by exact results_cell_row Tryd.results54 _ _ (w.heap.size + 2) 29 (insV ⟨op, sz, cd, fr, (regOpd 0), (immS I (minK sz)).1, ln⟩) (0, 0) _ rfl (setRow_heap _ _ _ _ _ _ M.r) Tryd.underlying29 rfl (by kernel_rfl)) (by rfl) ⟨by simp only [plS_3], by simp only [plS_3]; exact M.fin _⟩
  · have z1 := M.z.cell 1
    simp only [insV, insA, shpA, List.getElem?_toArray, List.getElem?_cons_zero, List.getElem?_cons_succ] at z1
    go_upto_region 6 with fail
    have l9 : w.heap.size + 3 ≤ W.heap.size := Md.sz3 M
    obtain ⟨W9, hW9⟩ : ∃ n, n = W.heap.size := ⟨_, rfl⟩
    apply wp_region_list
    refine Great.wpList_runTo rfl (some 23) rfl (.int .i64 (b : Int)) W (by first | (go_simp; done) | rfl) ?_
    simp only [Act.put, List.setIfInBounds_toArray, List.set_cons_zero, List.set_cons_succ]
    refine Great.wpList_runTo rfl (some 24) rfl (.int .i64 ((b : Int) % 8)) W (by first | (go_simp; done) | rfl) ?_
    simp only [Act.put, List.setIfInBounds_toArray, List.set_cons_zero, List.set_cons_succ]
    refine Great.wpList_runTo rfl (some 25) rfl (.pointer (some ⟨g, 0, none⟩)) W (by first | (go_simp; done) | rfl) ?_
    simp only [Act.put, List.setIfInBounds_toArray, List.set_cons_zero, List.set_cons_succ]
    refine callStep rfl (some 26) rfl 87 #[.pointer (some ⟨g, 0, none⟩), .int .i64 0] (by first | (go_simp; done) | rfl) (C0.out _ M.at') ?_
    rintro e w1 ⟨rfl, rfl⟩
    refine ⟨.int .i64 (E0 : Int), rfl, ?_⟩
    simp only [Act.put, List.setIfInBounds_toArray, List.set_cons_zero, List.set_cons_succ]
    refine Great.wpList_runTo rfl (some 27) rfl (.int .i64 (y0 : Int)) W (by rw [q1]; go_simp; exact IntWalk.i64_in _ (by omega)) ?_
    simp only [Act.put, List.setIfInBounds_toArray, List.set_cons_zero, List.set_cons_succ]
    refine wpList_buildTo rfl 25 #[(0, .const (.int .i64 1)), (1, .tmp 27)] rfl (some 28) rfl (opdL (regOpd (y0 : Int))).toArray (by kernel_rfl) ?_
    simp only [Act.put, List.setIfInBounds_toArray, List.set_cons_zero, List.set_cons_succ]
    refine Great.wpList_runTo rfl (some 9) rfl (.pointer (some ⟨W.heap.size, 0, none⟩)) (W.alloc (.cells #[.int .i64 0, .int .i64 0, .int .i64 0, .int .i64 0, .int .i64 0, .int .i64 0, .int .i64 0] 25)) (by first | (go_simp; done) | rfl) ?_
    simp only [Act.put, List.setIfInBounds_toArray, List.set_cons_zero, List.set_cons_succ]
    refine wpList_store_row rfl 25 (.tmp 9) (.tmp 28) rfl (W.heap.size) (opdL (regOpd (y0 : Int))).toArray ?_ ?_ 25 _ (heap_alloc_new W _) (by kernel_rfl) rfl (opd_one _) ?_
    · rfl
    · rfl
    go_upto_region 7 with fail
    refine abs_world (T := fun W => Md W0 w W g I ⟨op, sz, cd, fr, noOpd, noOpd, ln⟩ ⟨zo, 7, zg, zy, zr⟩ ∧ XB W W9 (regOpd (y0 : Int))) (G := fun W => Code.wp _ _ _ _ W) _ (by rw [hW9]; exact ⟨(M.alloc (.cells #[.int .i64 0, .int .i64 0, .int .i64 0, .int .i64 0, .int .i64 0, .int .i64 0, .int .i64 0] 25)).row l9 (opdL (regOpd (y0 : Int))).toArray, XB.newRow (q := noOpd) (heap_alloc_new W _)⟩) ?_
    rw [← hW9]
    clear hW9 l9 M
    intro W ⟨M, x9⟩
    have c0 := M.x.cell 0
    simp only [insV, insA, shpA, List.getElem?_toArray, List.getElem?_cons_zero, List.getElem?_cons_succ] at c0
    by_cases h29 : op = 29
    · have o29 : (op == 29) = true := by rw [h29]; rfl
      go_upto_region 8 with fail
      clear c0
      apply wp_region_list
      refine wpList_load_row rfl 25 (.tmp 9) rfl (W9) rfl 25 (opdL (regOpd (y0 : Int))).toArray (0, 0) _ (x9) Tryd.underlying25 rfl (by kernel_rfl) ?_
      simp only [Act.put, List.setIfInBounds_toArray, List.set_cons_zero, List.set_cons_succ]
      refine Great.wpList_runTo rfl (some 33) rfl (.pointer (some ⟨w.heap.size, 11, none⟩)) W (by first | (go_simp; done) | rfl) ?_
      simp only [Act.put, List.setIfInBounds_toArray, List.set_cons_zero, List.set_cons_succ]
      refine wpList_store_mid rfl 25 (.tmp 33) (.tmp 32) rfl (w.heap.size) 11 (opdL (regOpd (y0 : Int))).toArray ?_ ?_ (M.x.there 11 7 (by decide)) (by kernel_rfl) (opd_one _) ?_
      · rfl
      · rfl
      go_upto_region 22 with fail
      clear x9
      refine abs_world (T := fun W => Md W0 w W g I ⟨op, sz, cd, fr, noOpd, (regOpd (y0 : Int)), ln⟩ ⟨zo, 7, zg, zy, zr⟩) (G := fun W => Code.wp _ _ _ _ W) _ (M.src (regOpd (y0 : Int))) ?_
      clear M
      intro W M
      go_upto_region 22 with fail
      apply wp_region_list
      refine wpList_load_row rfl 29 (.tmp 5) rfl (w.heap.size) rfl 29 (insV ⟨op, sz, cd, fr, noOpd, (regOpd (y0 : Int)), ln⟩) (0, 0) _ (M.x) Tryd.underlying29 rfl (by kernel_rfl) ?_
      simp only [Act.put, List.setIfInBounds_toArray, List.set_cons_zero, List.set_cons_succ]
      refine wpList_store_row rfl 29 (.tmp 8) (.tmp 79) rfl (w.heap.size + 2) (insV ⟨op, sz, cd, fr, noOpd, (regOpd (y0 : Int)), ln⟩) ?_ ?_ 29 _ (M.r) (by kernel_rfl) rfl (insV_one _) ?_
      · rfl
      · rfl
      go_wp2_with fail
      refine bodyPost_ret (v := .agg (insV ⟨op, sz, cd, fr, noOpd, (regOpd (y0 : Int)), ln⟩)) (by exact results_cell_row Tryd.results54 _ _ (w.heap.size + 2) 29 (insV ⟨op, sz, cd, fr, noOpd, (regOpd (y0 : Int)), ln⟩) (0, 0) _ rfl (setRow_heap _ _ _ _ _ _ M.r) Tryd.underlying29 rfl (by kernel_rfl)) (by rfl) ⟨by simp only [plS_7a HY.out h29], by simp only [plS_7a HY.out h29]; exact M.fin _⟩
    · have o29 : (op == 29) = false := beq_eq_false_iff_ne.mpr h29
      go_upto_region 9 with fail
      clear c0
      apply wp_region_list
      refine wpList_load_row rfl 25 (.tmp 9) rfl (W9) rfl 25 (opdL (regOpd (y0 : Int))).toArray (0, 0) _ (x9) Tryd.underlying25 rfl (by kernel_rfl) ?_
      simp only [Act.put, List.setIfInBounds_toArray, List.set_cons_zero, List.set_cons_succ]
      refine Great.wpList_runTo rfl (some 35) rfl (.pointer (some ⟨w.heap.size, 4, none⟩)) W (by first | (go_simp; done) | rfl) ?_
      simp only [Act.put, List.setIfInBounds_toArray, List.set_cons_zero, List.set_cons_succ]
      refine wpList_store_mid rfl 25 (.tmp 35) (.tmp 34) rfl (w.heap.size) 4 (opdL (regOpd (y0 : Int))).toArray ?_ ?_ (M.x.there 4 7 (by decide)) (by kernel_rfl) (opd_one _) ?_
      · rfl
      · rfl
      go_upto_region 22 with fail
      clear x9
      refine abs_world (T := fun W => Md W0 w W g I ⟨op, sz, cd, fr, (regOpd (y0 : Int)), noOpd, ln⟩ ⟨zo, 7, zg, zy, zr⟩) (G := fun W => Code.wp _ _ _ _ W) _ (M.dst (regOpd (y0 : Int))) ?_
      clear M
      intro W M
      go_upto_region 22 with fail
      apply wp_region_list
      refine wpList_load_row rfl 29 (.tmp 5) rfl (w.heap.size) rfl 29 (insV ⟨op, sz, cd, fr, (regOpd (y0 : Int)), noOpd, ln⟩) (0, 0) _ (M.x) Tryd.underlying29 rfl (by kernel_rfl) ?_
      simp only [Act.put, List.setIfInBounds_toArray, List.set_cons_zero, List.set_cons_succ]
      refine wpList_store_row rfl 29 (.tmp 8) (.tmp 79) rfl (w.heap.size + 2) (insV ⟨op, sz, cd, fr, (regOpd (y0 : Int)), noOpd, ln⟩) ?_ ?_ 29 _ (M.r) (by kernel_rfl) rfl (insV_one _) ?_
      · rfl
      · rfl
      go_wp2_with fail
      refine bodyPost_ret (v := .agg (insV ⟨op, sz, cd, fr, (regOpd (y0 : Int)), noOpd, ln⟩)) (by exact results_cell_row Tryd.results54 _ _ (w.heap.size + 2) 29 (insV ⟨op, sz, cd, fr, (regOpd (y0 : Int)), noOpd, ln⟩) (0, 0) _ rfl (setRow_heap _ _ _ _ _ _ M.r) Tryd.underlying29 rfl (by kernel_rfl)) (by rfl) ⟨by simp only [plS_7b HY.out h29], by simp only [plS_7b HY.out h29]; exact M.fin _⟩
  · have z1 := M.z.cell 1
    simp only [insV, insA, shpA, List.getElem?_toArray, List.getElem?_cons_zero, List.getElem?_cons_succ] at z1
    go_upto_region 11 with fail
    refine wp_region_held_drew (S := fun W' => ∃ d, Md W0 w W' g I ⟨op, sz, cd, fr, d, noOpd, ln⟩ ⟨zo, 8, zg, zy, zr⟩) (by kernel_rfl) ⟨_, M.drew⟩ (fun (hH : ∃ d, Md W0 w _ g I ⟨op, sz, cd, fr, d, noOpd, ln⟩ ⟨zo, 8, zg, zy, zr⟩) => ?_)
    refine takeTo 0 (v := ?_) rfl (some 38) rfl (by kernel_rfl) (by kernel_rfl) (by kernel_rfl) (fun _ _ _ h => h) (Or.inl ⟨by rfl, ?_⟩) hH ?_
    rotate_left
    · intro w' hS
      go_simp
      try (with_reducible rfl)
    simp only [Act.put, List.setIfInBounds_toArray, List.set_cons_zero, List.set_cons_succ]
    refine takeTo 1 (v := ?_) rfl (some 39) rfl (by kernel_rfl) (by kernel_rfl) (by kernel_rfl) (fun _ _ _ h => h) (Or.inl ⟨by rfl, ?_⟩) hH ?_
    rotate_left
    · intro w' hS
      go_simp
      try (with_reducible rfl)
    simp only [Act.put, List.setIfInBounds_toArray, List.set_cons_zero, List.set_cons_succ]
    refine takeTo 2 (v := ?_) rfl (some 40) rfl (by kernel_rfl) (by kernel_rfl) (by kernel_rfl) (fun _ _ _ h => h) (Or.inl ⟨by rfl, ?_⟩) hH ?_
    rotate_left
    · intro w' hS
      go_simp
      try (with_reducible rfl)
    simp only [Act.put, List.setIfInBounds_toArray, List.set_cons_zero, List.set_cons_succ]
    refine takeTo 3 (v := ?_) rfl (some 41) rfl (by kernel_rfl) (by kernel_rfl) (by kernel_rfl) (fun _ _ _ h => h) (Or.inl ⟨by rfl, ?_⟩) hH ?_
    rotate_left
    · intro w' hS
      go_simp
      try (with_reducible rfl)
    simp only [Act.put, List.setIfInBounds_toArray, List.set_cons_zero, List.set_cons_succ]
    refine takeTo 6 (v := ?_) rfl (some 44) rfl (by kernel_rfl) (by kernel_rfl) (by kernel_rfl) (fun _ _ _ h => h) (Or.inl ⟨by rfl, ?_⟩) hH ?_
    rotate_left
    · intro w' hS
      go_simp
      try (with_reducible rfl)
    simp only [Act.put, List.setIfInBounds_toArray, List.set_cons_zero, List.set_cons_succ]
    refine takeTo 7 (v := ?_) rfl (some 45) rfl (by kernel_rfl) (by kernel_rfl) (by kernel_rfl) (fun _ _ _ h => h) (Or.inl ⟨by rfl, ?_⟩) hH ?_
    rotate_left
    · intro w' hS
      have c1 := hS.choose_spec.x.cell 1
      simp only [insV, insA, shpA, List.getElem?_toArray, List.getElem?_cons_zero, List.getElem?_cons_succ] at c1
      go_simp
      try (with_reducible rfl)
    simp only [Act.put, List.setIfInBounds_toArray, List.set_cons_zero, List.set_cons_succ]
    refine wpAnyH_ready (rs := [4]) (by kernel_rfl) (by simp) ?_
    refine consCall rfl rfl (some 42) rfl 87 #[.pointer (some ⟨g, 0, none⟩), .int .i64 0] (by first | (go_simp; done) | rfl) (C0.out _ hH.choose_spec.at') ?_ ?_
    · rintro e w1 ⟨rfl, rfl⟩
      have hH : ∃ d, Md W0 w _ g I ⟨op, sz, cd, fr, d, noOpd, ln⟩ ⟨zo, 8, zg, zy, zr⟩ := hH
      refine ⟨_, rfl, hH, ?_⟩
      simp only [Act.put, List.setIfInBounds_toArray, List.set_cons_zero, List.set_cons_succ]
      refine takeTo 5 (v := ?_) rfl (some 43) rfl (by kernel_rfl) (by kernel_rfl) (by kernel_rfl) (fun _ _ _ h => h) (Or.inl ⟨by rfl, ?_⟩) hH ?_
      rotate_left
      · intro w' hS
        go_simp
        try (with_reducible rfl)
      simp only [Act.put, List.setIfInBounds_toArray, List.set_cons_zero, List.set_cons_succ]
      refine wpAnyH_ready (rs := [8]) (by kernel_rfl) (by simp) ?_
      refine consCall rfl rfl (some 46) rfl 86 #[.pointer (some ⟨g, 0, none⟩), .int .i64 (y0 : Int), .int .i64 sz] (by first | (go_simp; done) | rfl) (CR.out _ hH.choose_spec.at') ?_ ?_
      · rintro e w2 ⟨rfl, hb⟩
        have hH : ∃ d, Md W0 w _ g I ⟨op, sz, cd, fr, d, noOpd, ln⟩ ⟨zo, 8, zg, zy, zr⟩ := ⟨_, hH.choose_spec.below hb⟩
        refine ⟨V7 (bReg y0 sz I.x), rfl, hH, ?_⟩
        simp only [Act.put, List.setIfInBounds_toArray, List.set_cons_zero, List.set_cons_succ]
        refine takeTo 9 (v := ?_) rfl (some 47) rfl (by kernel_rfl) (by kernel_rfl) (by kernel_rfl) (fun _ _ _ h => h) (Or.inl ⟨by rfl, ?_⟩) hH ?_
        rotate_left
        · intro w' hS
          go_simp
          try (with_reducible rfl)
        simp only [Act.put, List.setIfInBounds_toArray, List.set_cons_zero, List.set_cons_succ]
        refine wpAnyH_ready (rs := [10]) (by kernel_rfl) (by simp) ?_
        refine consMid rfl rfl 25 (.tmp 47) (.tmp 46) rfl rfl (w.heap.size) 4 (opdL (bReg y0 sz I.x)).toArray ?_ ?_ (hH.choose_spec.x.there 4 7 (by decide)) ?_ (opd_one _) ⟨_, hH.choose_spec.dst (bReg y0 sz I.x)⟩ ?_ ?_
        · rfl
        · rfl
        · kernel_rfl
        · refine wpAnyH_done (by kernel_rfl) ?_ _
          have M := hH.choose_spec.dst (bReg y0 sz I.x)
          go_upto_region 12 with fail
          refine abs_world (T := fun W => Md W0 w W g I ⟨op, sz, cd, fr, (bReg y0 sz I.x), noOpd, ln⟩ ⟨zo, 8, zg, zy, zr⟩) (G := fun W => Code.wp _ _ _ _ W) _ (M) ?_
          clear M
          intro W M
          go_upto_region 12 with fail
          apply wp_region_list
          have M0 := Lib.hid M
          refine Great.wpList_runTo rfl (some 48) rfl (.pointer (some ⟨g, 0, none⟩)) W (by first | (go_simp; done) | rfl) ?_
          simp only [Act.put, List.setIfInBounds_toArray, List.set_cons_zero, List.set_cons_succ]
          refine Great.wpList_runTo rfl (some 49) rfl (.pointer (some ⟨w.heap.size, 1, none⟩)) W (by first | (go_simp; done) | rfl) ?_
          simp only [Act.put, List.setIfInBounds_toArray, List.set_cons_zero, List.set_cons_succ]
          have c1 := M.x.cell 1
          simp only [insV, insA, shpA, List.getElem?_toArray, List.getElem?_cons_zero, List.getElem?_cons_succ] at c1
          refine Great.wpList_runTo rfl (some 50) rfl (.int .i64 sz) W (by first | (go_simp; done) | rfl) ?_
          simp only [Act.put, List.setIfInBounds_toArray, List.set_cons_zero, List.set_cons_succ]
          clear c1
          clear M
          refine callStep rfl (some 51) rfl 83 #[.pointer (some ⟨g, 0, none⟩), .int .i64 sz] (by first | (go_simp; done) | rfl) ((CN rfl).out _ M0.out.at') ?_
          rintro e W ⟨rfl, hw⟩
          refine ⟨.int .i64 (numV I sz.toNat), rfl, ?_⟩
          simp only [Act.put, List.setIfInBounds_toArray, List.set_cons_zero, List.set_cons_succ]
          have M := M0.out.wr hw
          clear hw M0
          refine wpList_buildTo rfl 25 #[(0, .const (.int .i64 3)), (6, .tmp 51)] rfl (some 52) rfl (opdL (immS I sz.toNat).1).toArray (by kernel_rfl) ?_
          simp only [Act.put, List.setIfInBounds_toArray, List.set_cons_zero, List.set_cons_succ]
          refine Great.wpList_runTo rfl (some 53) rfl (.pointer (some ⟨w.heap.size, 11, none⟩)) W (by first | (go_simp; done) | rfl) ?_
          simp only [Act.put, List.setIfInBounds_toArray, List.set_cons_zero, List.set_cons_succ]
          refine wpList_store_mid rfl 25 (.tmp 53) (.tmp 52) rfl (w.heap.size) 11 (opdL ((immS I sz.toNat).1)).toArray ?_ ?_ (M.x.there 11 7 (by decide)) (by kernel_rfl) (opd_one _) ?_
          · rfl
          · rfl
          go_upto_region 22 with fail
          refine abs_world (T := fun W => Md W0 w W g (immS I sz.toNat).2 ⟨op, sz, cd, fr, ((bReg y0 sz I.x)), ((immS I sz.toNat).1), ln⟩ ⟨zo, 8, zg, zy, zr⟩) (G := fun W => Code.wp _ _ _ _ W) _ (M.src ((immS I sz.toNat).1)) ?_
          clear M
          intro W M
          go_upto_region 22 with fail
          apply wp_region_list
          refine wpList_load_row rfl 29 (.tmp 5) rfl (w.heap.size) rfl 29 (insV ⟨op, sz, cd, fr, (bReg y0 sz I.x), (immS I sz.toNat).1, ln⟩) (0, 0) _ (M.x) Tryd.underlying29 rfl (by kernel_rfl) ?_
          simp only [Act.put, List.setIfInBounds_toArray, List.set_cons_zero, List.set_cons_succ]
          refine wpList_store_row rfl 29 (.tmp 8) (.tmp 79) rfl (w.heap.size + 2) (insV ⟨op, sz, cd, fr, (bReg y0 sz I.x), (immS I sz.toNat).1, ln⟩) ?_ ?_ 29 _ (M.r) (by kernel_rfl) rfl (insV_one _) ?_
          · rfl
          · rfl
          go_wp2_with fail
          refine bodyPost_ret (v := .agg (insV ⟨op, sz, cd, fr, (bReg y0 sz I.x), (immS I sz.toNat).1, ln⟩)) (by exact results_cell_row Tryd.results54 _ _ (w.heap.size + 2) 29 (insV ⟨op, sz, cd, fr, (bReg y0 sz I.x), (immS I sz.toNat).1, ln⟩) (0, 0) _ rfl (setRow_heap _ _ _ _ _ _ M.r) Tryd.underlying29 rfl (by kernel_rfl)) (by rfl) ⟨by simp only [plS_8 HY.out], by simp only [plS_8 HY.out]; exact M.fin _⟩
        exact AllReadyH.nil
      exact AllReadyH.nil
    exact AllReadyH.nil
  · have z1 := M.z.cell 1
    simp only [insV, insA, shpA, List.getElem?_toArray, List.getElem?_cons_zero, List.getElem?_cons_succ] at z1
    go_upto_region 14 with fail
    apply wp_region_list
    have M0 := Lib.hid M
    refine Great.wpList_runTo rfl (some 56) rfl (.pointer (some ⟨g, 0, none⟩)) W (by first | (go_simp; done) | rfl) ?_
    simp only [Act.put, List.setIfInBounds_toArray, List.set_cons_zero, List.set_cons_succ]
    clear M
    refine callStep rfl (some 57) rfl 89 #[.pointer (some ⟨g, 0, none⟩), .int .i64 1] (by first | (go_simp; done) | rfl) (CI1.out _ M0.out.at') ?_
    rintro e W ⟨rfl, hw⟩
    refine ⟨V7 (immS I 1).1, rfl, ?_⟩
    simp only [Act.put, List.setIfInBounds_toArray, List.set_cons_zero, List.set_cons_succ]
    have M := M0.out.wr hw
    clear hw M0
    refine Great.wpList_runTo rfl (some 58) rfl (.pointer (some ⟨w.heap.size, 11, none⟩)) W (by first | (go_simp; done) | rfl) ?_
    simp only [Act.put, List.setIfInBounds_toArray, List.set_cons_zero, List.set_cons_succ]
    refine wpList_store_mid rfl 25 (.tmp 58) (.tmp 57) rfl (w.heap.size) 11 (opdL ((immS I 1).1)).toArray ?_ ?_ (M.x.there 11 7 (by decide)) (by kernel_rfl) (opd_one _) ?_
    · rfl
    · rfl
    go_upto_region 22 with fail
    refine abs_world (T := fun W => Md W0 w W g (immS I 1).2 ⟨op, sz, cd, fr, (noOpd), ((immS I 1).1), ln⟩ ⟨zo, 9, zg, zy, zr⟩) (G := fun W => Code.wp _ _ _ _ W) _ (M.src ((immS I 1).1)) ?_
    clear M
    intro W M
    go_upto_region 22 with fail
    apply wp_region_list
    refine wpList_load_row rfl 29 (.tmp 5) rfl (w.heap.size) rfl 29 (insV ⟨op, sz, cd, fr, noOpd, (immS I 1).1, ln⟩) (0, 0) _ (M.x) Tryd.underlying29 rfl (by kernel_rfl) ?_
    simp only [Act.put, List.setIfInBounds_toArray, List.set_cons_zero, List.set_cons_succ]
    refine wpList_store_row rfl 29 (.tmp 8) (.tmp 79) rfl (w.heap.size + 2) (insV ⟨op, sz, cd, fr, noOpd, (immS I 1).1, ln⟩) ?_ ?_ 29 _ (M.r) (by kernel_rfl) rfl (insV_one _) ?_
    · rfl
    · rfl
    go_wp2_with fail
    refine bodyPost_ret (v := .agg (insV ⟨op, sz, cd, fr, noOpd, (immS I 1).1, ln⟩)) (by exact results_cell_row Tryd.results54 _ _ (w.heap.size + 2) 29 (insV ⟨op, sz, cd, fr, noOpd, (immS I 1).1, ln⟩) (0, 0) _ rfl (setRow_heap _ _ _ _ _ _ M.r) Tryd.underlying29 rfl (by kernel_rfl)) (by rfl) ⟨by simp only [plS_9], by simp only [plS_9]; exact M.fin _⟩
  · have z1 := M.z.cell 1
    simp only [insV, insA, shpA, List.getElem?_toArray, List.getElem?_cons_zero, List.getElem?_cons_succ] at z1
    go_upto_region 17 with fail
    apply wp_region_list
    have M0 := Lib.hid M
    refine Great.wpList_runTo rfl (some 62) rfl (.pointer (some ⟨g, 0, none⟩)) W (by first | (go_simp; done) | rfl) ?_
    simp only [Act.put, List.setIfInBounds_toArray, List.set_cons_zero, List.set_cons_succ]
    clear M
    refine callStep rfl (some 63) rfl 89 #[.pointer (some ⟨g, 0, none⟩), .int .i64 4] (by first | (go_simp; done) | rfl) (CI4.out _ M0.out.at') ?_
    rintro e W ⟨rfl, hw⟩
    refine ⟨V7 (immS I 4).1, rfl, ?_⟩
    simp only [Act.put, List.setIfInBounds_toArray, List.set_cons_zero, List.set_cons_succ]
    have M := M0.out.wr hw
    clear hw M0
    refine Great.wpList_runTo rfl (some 64) rfl (.pointer (some ⟨w.heap.size, 11, none⟩)) W (by first | (go_simp; done) | rfl) ?_
    simp only [Act.put, List.setIfInBounds_toArray, List.set_cons_zero, List.set_cons_succ]
    refine wpList_store_mid rfl 25 (.tmp 64) (.tmp 63) rfl (w.heap.size) 11 (opdL ((immS I 4).1)).toArray ?_ ?_ (M.x.there 11 7 (by decide)) (by kernel_rfl) (opd_one _) ?_
    · rfl
    · rfl
    go_upto_region 22 with fail
    refine abs_world (T := fun W => Md W0 w W g (immS I 4).2 ⟨op, sz, cd, fr, (noOpd), ((immS I 4).1), ln⟩ ⟨zo, 10, zg, zy, zr⟩) (G := fun W => Code.wp _ _ _ _ W) _ (M.src ((immS I 4).1)) ?_
    clear M
    intro W M
    go_upto_region 22 with fail
    apply wp_region_list
    refine wpList_load_row rfl 29 (.tmp 5) rfl (w.heap.size) rfl 29 (insV ⟨op, sz, cd, fr, noOpd, (immS I 4).1, ln⟩) (0, 0) _ (M.x) Tryd.underlying29 rfl (by kernel_rfl) ?_
    simp only [Act.put, List.setIfInBounds_toArray, List.set_cons_zero, List.set_cons_succ]
    refine wpList_store_row rfl 29 (.tmp 8) (.tmp 79) rfl (w.heap.size + 2) (insV ⟨op, sz, cd, fr, noOpd, (immS I 4).1, ln⟩) ?_ ?_ 29 _ (M.r) (by kernel_rfl) rfl (insV_one _) ?_
    · rfl
    · rfl
    go_wp2_with fail
    refine bodyPost_ret (v := .agg (insV ⟨op, sz, cd, fr, noOpd, (immS I 4).1, ln⟩)) (by exact results_cell_row Tryd.results54 _ _ (w.heap.size + 2) 29 (insV ⟨op, sz, cd, fr, noOpd, (immS I 4).1, ln⟩) (0, 0) _ rfl (setRow_heap _ _ _ _ _ _ M.r) Tryd.underlying29 rfl (by kernel_rfl)) (by rfl) ⟨by simp only [plS_10], by simp only [plS_10]; exact M.fin _⟩
  · have z1 := M.z.cell 1
    simp only [insV, insA, shpA, List.getElem?_toArray, List.getElem?_cons_zero, List.getElem?_cons_succ] at z1
    go_upto_region 22 with fail
    apply wp_region_list
    refine wpList_load_row rfl 29 (.tmp 5) rfl (w.heap.size) rfl 29 (insV ⟨op, sz, cd, fr, noOpd, noOpd, ln⟩) (0, 0) _ (M.x) Tryd.underlying29 rfl (by kernel_rfl) ?_
    simp only [Act.put, List.setIfInBounds_toArray, List.set_cons_zero, List.set_cons_succ]
    refine wpList_store_row rfl 29 (.tmp 8) (.tmp 79) rfl (w.heap.size + 2) (insV ⟨op, sz, cd, fr, noOpd, noOpd, ln⟩) ?_ ?_ 29 _ (M.r) (by kernel_rfl) rfl (insV_one _) ?_
    · rfl
    · rfl
    go_wp2_with fail
    refine bodyPost_ret (v := .agg (insV ⟨op, sz, cd, fr, noOpd, noOpd, ln⟩)) (by exact results_cell_row Tryd.results54 _ _ (w.heap.size + 2) 29 (insV ⟨op, sz, cd, fr, noOpd, noOpd, ln⟩) (0, 0) _ rfl (setRow_heap _ _ _ _ _ _ M.r) Tryd.underlying29 rfl (by kernel_rfl)) (by rfl) ⟨by simp only [plS_14], by simp only [plS_14]; exact M.fin _⟩
  · have z1 := M.z.cell 1
    simp only [insV, insA, shpA, List.getElem?_toArray, List.getElem?_cons_zero, List.getElem?_cons_succ] at z1
    go_upto_region 19 with fail
    apply wp_region_list
    have M0 := Lib.hid M
    refine Great.wpList_runTo rfl (some 67) rfl (.pointer (some ⟨g, 0, none⟩)) W (by first | (go_simp; done) | rfl) ?_
    simp only [Act.put, List.setIfInBounds_toArray, List.set_cons_zero, List.set_cons_succ]
    clear M
    refine callStep rfl (some 68) rfl 89 #[.pointer (some ⟨g, 0, none⟩), .int .i64 1] (by first | (go_simp; done) | rfl) (CI1.out _ M0.out.at') ?_
    rintro e W ⟨rfl, hw⟩
    refine ⟨V7 (immS I 1).1, rfl, ?_⟩
    simp only [Act.put, List.setIfInBounds_toArray, List.set_cons_zero, List.set_cons_succ]
    have M := M0.out.wr hw
    clear hw M0
    refine Great.wpList_runTo rfl (some 69) rfl (.pointer (some ⟨w.heap.size, 11, none⟩)) W (by first | (go_simp; done) | rfl) ?_
    simp only [Act.put, List.setIfInBounds_toArray, List.set_cons_zero, List.set_cons_succ]
    refine wpList_store_mid rfl 25 (.tmp 69) (.tmp 68) rfl (w.heap.size) 11 (opdL ((immS I 1).1)).toArray ?_ ?_ (M.x.there 11 7 (by decide)) (by kernel_rfl) (opd_one _) ?_
    · rfl
    · rfl
    go_upto_region 20 with fail
    refine abs_world (T := fun W => Md W0 w W g (immS I 1).2 ⟨op, sz, cd, fr, (noOpd), ((immS I 1).1), ln⟩ ⟨zo, 15, zg, zy, zr⟩) (G := fun W => Code.wp _ _ _ _ W) _ (M.src ((immS I 1).1)) ?_
    clear M
    intro W M
    have c0 := M.x.cell 0
    have c17 := M.x.cell 17
    simp only [insV, insA, immS, immOpd, List.getElem?_toArray, List.getElem?_cons_zero, List.getElem?_cons_succ] at c0 c17
    have f17 := M.x.free 17
    by_cases h44 : op = 44
    · have o44 : (op == 44) = true := by rw [h44]; rfl
      go_upto_region 21 with fail
      clear c0
      go_upto_region 22 with (go_at_call 82; refine (CZ.out _).mono ?_; rintro e w9 ⟨rfl, rfl⟩)
      clear c17 f17
      refine abs_world (T := fun W => Md W0 w W g (immU I).2 ⟨op, sz, cd, fr, noOpd, (immU I).1, ln⟩ ⟨zo, 15, zg, zy, zr⟩) (G := fun W => Code.wp _ _ _ _ W) _ (M.set17) ?_
      clear M
      intro W M
      go_upto_region 22 with fail
      apply wp_region_list
      refine wpList_load_row rfl 29 (.tmp 5) rfl (w.heap.size) rfl 29 (insV ⟨op, sz, cd, fr, noOpd, (immU I).1, ln⟩) (0, 0) _ (M.x) Tryd.underlying29 rfl (by kernel_rfl) ?_
      simp only [Act.put, List.setIfInBounds_toArray, List.set_cons_zero, List.set_cons_succ]
      refine wpList_store_row rfl 29 (.tmp 8) (.tmp 79) rfl (w.heap.size + 2) (insV ⟨op, sz, cd, fr, noOpd, (immU I).1, ln⟩) ?_ ?_ 29 _ (M.r) (by kernel_rfl) rfl (insV_one _) ?_
      · rfl
      · rfl
      go_wp2_with fail
      refine bodyPost_ret (v := .agg (insV ⟨op, sz, cd, fr, noOpd, (immU I).1, ln⟩)) (by exact results_cell_row Tryd.results54 _ _ (w.heap.size + 2) 29 (insV ⟨op, sz, cd, fr, noOpd, (immU I).1, ln⟩) (0, 0) _ rfl (setRow_heap _ _ _ _ _ _ M.r) Tryd.underlying29 rfl (by kernel_rfl)) (by rfl) ⟨by simp only [plS_15a h44], by simp only [plS_15a h44]; exact M.fin _⟩
    · have o44 : (op == 44) = false := beq_eq_false_iff_ne.mpr h44
      go_upto_region 22 with fail
      clear c0 c17 f17
      go_upto_region 22 with fail
      apply wp_region_list
      refine wpList_load_row rfl 29 (.tmp 5) rfl (w.heap.size) rfl 29 (insV ⟨op, sz, cd, fr, noOpd, (immS I 1).1, ln⟩) (0, 0) _ (M.x) Tryd.underlying29 rfl (by kernel_rfl) ?_
      simp only [Act.put, List.setIfInBounds_toArray, List.set_cons_zero, List.set_cons_succ]
      refine wpList_store_row rfl 29 (.tmp 8) (.tmp 79) rfl (w.heap.size + 2) (insV ⟨op, sz, cd, fr, noOpd, (immS I 1).1, ln⟩) ?_ ?_ 29 _ (M.r) (by kernel_rfl) rfl (insV_one _) ?_
      · rfl
      · rfl
      go_wp2_with fail
      refine bodyPost_ret (v := .agg (insV ⟨op, sz, cd, fr, noOpd, (immS I 1).1, ln⟩)) (by exact results_cell_row Tryd.results54 _ _ (w.heap.size + 2) 29 (insV ⟨op, sz, cd, fr, noOpd, (immS I 1).1, ln⟩) (0, 0) _ rfl (setRow_heap _ _ _ _ _ _ M.r) Tryd.underlying29 rfl (by kernel_rfl)) (by rfl) ⟨by simp only [plS_15b h44], by simp only [plS_15b h44]; exact M.fin _⟩
  · have z1 := M.z.cell 1
    simp only [insV, insA, shpA, List.getElem?_toArray, List.getElem?_cons_zero, List.getElem?_cons_succ] at z1
    go_upto_region 17 with fail
    apply wp_region_list
    have M0 := Lib.hid M
    refine Great.wpList_runTo rfl (some 62) rfl (.pointer (some ⟨g, 0, none⟩)) W (by first | (go_simp; done) | rfl) ?_
    simp only [Act.put, List.setIfInBounds_toArray, List.set_cons_zero, List.set_cons_succ]
    clear M
    refine callStep rfl (some 63) rfl 89 #[.pointer (some ⟨g, 0, none⟩), .int .i64 4] (by first | (go_simp; done) | rfl) (CI4.out _ M0.out.at') ?_
    rintro e W ⟨rfl, hw⟩
    refine ⟨V7 (immS I 4).1, rfl, ?_⟩
    simp only [Act.put, List.setIfInBounds_toArray, List.set_cons_zero, List.set_cons_succ]
    have M := M0.out.wr hw
    clear hw M0
    refine Great.wpList_runTo rfl (some 64) rfl (.pointer (some ⟨w.heap.size, 11, none⟩)) W (by first | (go_simp; done) | rfl) ?_
    simp only [Act.put, List.setIfInBounds_toArray, List.set_cons_zero, List.set_cons_succ]
    refine wpList_store_mid rfl 25 (.tmp 64) (.tmp 63) rfl (w.heap.size) 11 (opdL ((immS I 4).1)).toArray ?_ ?_ (M.x.there 11 7 (by decide)) (by kernel_rfl) (opd_one _) ?_
    · rfl
    · rfl
    go_upto_region 22 with fail
    refine abs_world (T := fun W => Md W0 w W g (immS I 4).2 ⟨op, sz, cd, fr, (noOpd), ((immS I 4).1), ln⟩ ⟨zo, 16, zg, zy, zr⟩) (G := fun W => Code.wp _ _ _ _ W) _ (M.src ((immS I 4).1)) ?_
    clear M
    intro W M
    go_upto_region 22 with fail
    apply wp_region_list
    refine wpList_load_row rfl 29 (.tmp 5) rfl (w.heap.size) rfl 29 (insV ⟨op, sz, cd, fr, noOpd, (immS I 4).1, ln⟩) (0, 0) _ (M.x) Tryd.underlying29 rfl (by kernel_rfl) ?_
    simp only [Act.put, List.setIfInBounds_toArray, List.set_cons_zero, List.set_cons_succ]
    refine wpList_store_row rfl 29 (.tmp 8) (.tmp 79) rfl (w.heap.size + 2) (insV ⟨op, sz, cd, fr, noOpd, (immS I 4).1, ln⟩) ?_ ?_ 29 _ (M.r) (by kernel_rfl) rfl (insV_one _) ?_
    · rfl
    · rfl
    go_wp2_with fail
    refine bodyPost_ret (v := .agg (insV ⟨op, sz, cd, fr, noOpd, (immS I 4).1, ln⟩)) (by exact results_cell_row Tryd.results54 _ _ (w.heap.size + 2) 29 (insV ⟨op, sz, cd, fr, noOpd, (immS I 4).1, ln⟩) (0, 0) _ rfl (setRow_heap _ _ _ _ _ _ M.r) Tryd.underlying29 rfl (by kernel_rfl)) (by rfl) ⟨by simp only [plS_16], by simp only [plS_16]; exact M.fin _⟩
end Go.Proofs.YtinjpobepcenfaaDoor
namespace Go.Proofs.YtinjpobepcenfaaDoor
open Go.RowKit
set_option linter.unusedVariables false
set_option linter.unusedSimpArgs false
/-- the instruction, or a code -/
def decD (s : ByteArray) (n : Nat) : Array Value × Int :=
  match readD (start s n) with
  | .error c => (zIns, c)
  | .ok R => (insA R.op R.sz R.cd R.fr R.d R.s ((R.n : Int) - n), 0)
/-- what follows ModRM -/
def tailD (R3 : Rd) : Except Int Rd :=
  match stS R3 with
  | .error c => .error c
  | .ok R4 => match stA R4 with
    | .error c => .error c
    | .ok R5 => match stD R5 with
      | none => .error 9
      | some R6 => .ok { R6 with cd := condD R6.op R6.ob }
def resD (n : Nat) (r : Except Int Rd) : Array Value × Int :=
  match r with
  | .error c => (zIns, c)
  | .ok R => (insA R.op R.sz R.cd R.fr R.d R.s ((R.n : Int) - n), 0)
theorem decD_eq (s : ByteArray) (n : Nat) : decD s n = resD n (readD (start s n)) := rfl
theorem readD_p {R : Rd} {c : Int} (h : stP R = .error c) : readD R = .error c := by unfold readD; rw [h]
theorem readD_o {R R1 : Rd} {c : Int} (h : stP R = .ok R1) (h2 : stO R1 = .error c) : readD R = .error c := by unfold readD; rw [h]; simp only; rw [h2]
theorem readD_m {R R1 R2 : Rd} {c : Int} (h : stP R = .ok R1) (h2 : stO R1 = .ok R2) (h3 : stM R2 = .error c) : readD R = .error c := by unfold readD; rw [h]; simp only; rw [h2]; simp only; rw [h3]
theorem readD_t {R R1 R2 R3 : Rd} (h : stP R = .ok R1) (h2 : stO R1 = .ok R2) (h3 : stM R2 = .ok R3) : readD R = tailD R3 := by
  unfold readD tailD; rw [h]; simp only; rw [h2]; simp only; rw [h3]; rfl
theorem sizeV_in (R : Rd) : sizeV R = 8 ∨ sizeV R = 0 ∨ sizeV R = 1 ∨ sizeV R = 2 ∨ sizeV R = 4 := by
  unfold sizeV
  split
  · rename_i h
    unfold fixD at h ⊢
    split
    · exact .inl rfl
    · split
      · exact .inr (.inl rfl)
      · exact .inr (.inr (.inl rfl))
  · split
    · exact .inl rfl
    · split
      · exact .inr (.inr (.inr (.inl rfl)))
      · exact .inr (.inr (.inr (.inr rfl)))
theorem suit_st (R : Rd) : stS R = if suitB R.z R.op (sizeV R) R.w = true then .ok { R with sz := sizeV R, fr := R.z.r } else .error 10 := by
  have hs := sizeV_in R
  unfold stS suitB
  generalize sizeV R = sz at *
  by_cases h1 : (fixD R.op R.z.y).2 = true ∧ R.w = true
  · rw [if_pos h1, h1.1, h1.2]; simp
  · rw [if_neg h1]
    have e1 : (!(R.w && (fixD R.op R.z.y).2)) = true := by
      cases hw : R.w
      · rfl
      · cases hf : (fixD R.op R.z.y).2
        · rfl
        · exact absurd ⟨hf, hw⟩ h1
    rw [e1, Bool.true_and]
    by_cases h4 : R.z.r = 4
    · rw [if_pos h4]
      by_cases h8 : sz = 8
      · subst h8; rw [if_neg (by omega), if_pos (by decide)]
      · rw [if_pos (by omega), if_neg (by simpa using h8)]
    · rw [if_neg h4]
      by_cases h0 : R.z.r = 0
      · rw [if_pos h0, if_neg (by omega), if_pos rfl]
      · rw [if_neg h0]
        by_cases hl : sz ≤ R.z.r
        · rw [if_pos ⟨h0, hl⟩, if_neg (by simpa using hl)]
        · rw [if_neg (fun e => hl e.2), if_pos (by simpa using (by omega : R.z.r < sz))]
theorem tail_eq (R : Rd) (n m : Nat) (I2 I3 : In) (d sr : Opd) (hI : I2.c = 0) (hmd : R.md = m / 64)
    (hO : Ok2 (operD R.t R.n R.z.f R.op (sizeV R) R.z.r R.md R.rg R.rm R.rex R.ob) I2 ((d, sr), I3)) :
    l4Res I2 I3 R.op (sizeV R) (condD R.op R.ob) R.z.r ((I3.n : Int) - n) m d sr (suitB R.z R.op (sizeV R) R.w) = resD n (tailD R) := by
  unfold tailD
  rw [suit_st]
  cases hb : suitB R.z R.op (sizeV R) R.w with
  | false => rw [if_neg (by decide), l4b hI]; rfl
  | true =>
    rw [if_pos rfl]
    simp only
    by_cases h25 : R.op = 25 ∧ R.md = 3
    · have e : stA { R with sz := sizeV R, fr := R.z.r } = .error 12 := by unfold stA; rw [if_pos h25]
      rw [e, l4c hI ⟨h25.1, by rw [← hmd]; exact h25.2⟩]; rfl
    · have e : stA { R with sz := sizeV R, fr := R.z.r } = .ok { R with sz := sizeV R, fr := R.z.r } := by unfold stA; rw [if_neg h25]
      have h25' : ¬ (R.op = 25 ∧ m / 64 = 3) := by rw [← hmd]; exact h25
      rw [e]
      simp only
      cases hq : operD R.t R.n R.z.f R.op (sizeV R) R.z.r R.md R.rg R.rm R.rex R.ob with
      | none =>
        rw [hq] at hO
        have e2 : stD { R with sz := sizeV R, fr := R.z.r } = none := by unfold stD; simp only; rw [hq]
        have hc : I3.c = 9 := hO
        rw [e2, l4d hI h25' (by rw [hc]; decide), hc]; rfl
      | some q =>
        obtain ⟨⟨d', s'⟩, n'⟩ := q
        rw [hq] at hO
        have e2 : stD { R with sz := sizeV R, fr := R.z.r } = some { R with sz := sizeV R, fr := R.z.r, n := n', d := d', s := s' } := by unfold stD; simp only; rw [hq]
        have hO' : ((d, sr), I3) = ((d', s'), { I2 with n := n' }) := hO
        cases hO'
        rw [e2, l4e (I3 := { I2 with n := n' }) hI h25' hI]; rfl
/-- a step of a decoder: it goes on, within the text -/
def Mo (I J : In) : Prop := J.t = I.t ∧ I.n ≤ J.n ∧ (I.n ≤ I.t.size → J.n ≤ I.t.size)
theorem Mo.refl (I : In) : Mo I I := ⟨rfl, Nat.le_refl _, fun h => h⟩
theorem Mo.trans {I J K : In} (h : Mo I J) (h2 : Mo J K) : Mo I K := ⟨h2.1.trans h.1, Nat.le_trans h.2.1 h2.2.1, fun hI => by have := h2.2.2 (by rw [h.1]; exact h.2.2 hI); rw [h.1] at this; exact this⟩
theorem numI_mo (I : In) (k : Nat) : Mo I (numI I k) := by
  refine ⟨numI_t I k, ?_, fun h => numI_n I k h⟩
  unfold numI; split <;> (try split) <;> simp
theorem dispS_mo (I : In) (k : Nat) (b i c : Int) : Mo I (dispS I k b i c).2 := by
  unfold dispS; simp only; split
  · exact Mo.refl _
  · exact numI_mo _ _
theorem memS_mo (I : In) (md rm : Nat) : Mo I (memS I md rm).2 := by
  unfold memS
  repeat' split
  all_goals first | exact (numI_mo I 1).trans (dispS_mo _ _ _ _ _) | exact dispS_mo _ _ _ _ _
theorem placeS_mo (I : In) (md rm : Nat) (sz : Int) : Mo I (placeS I md rm sz).2 := by
  unfold placeS; split
  · exact Mo.refl _
  · exact memS_mo _ _ _
theorem mr2_mo (f op sz : Int) (p r : Opd) (I : In) : Mo I (mr2 f op sz p r I).2 := by
  unfold mr2
  repeat' split
  all_goals first | exact Mo.refl _ | exact numI_mo _ _
theorem mrS_mo (I : In) (f op sz fr : Int) (md rg rm : Nat) : Mo I (mrS I f op sz fr md rg rm).2 := by
  rw [mrS_eq]
  exact (placeS_mo _ _ _ _).trans (mr2_mo _ _ _ _ _ _)
theorem plS_mo (I : In) (f op sz : Int) (b : Nat) : Mo I (plS I f op sz b).2 := by
  unfold plS
  repeat' split
  all_goals first | exact Mo.refl _ | exact numI_mo _ _
theorem prefD_ok {s : ByteArray} {n m x : Nat} {w : Bool} (h : prefD s n = .ok (w, x, m)) : n ≤ m ∧ m ≤ s.size ∧ x < 80 := by
  unfold prefD rexD at h
  repeat' split at h
  all_goals first | (cases h; refine ⟨by omega, by omega, by omega⟩; done) | (cases h; done)
theorem opcD_ok {s : ByteArray} {n m b : Nat} {z : Shp} (h : opcD s n = .ok (b, z, m)) : n < m ∧ m ≤ s.size ∧ z.f ≠ 0 ∧ ∃ t, z = shapeD t b := by
  unfold opcD at h
  repeat' split at h
  all_goals first | (cases h; refine ⟨by omega, by omega, by assumption, ⟨_, rfl⟩⟩; done) | (cases h; done)
theorem start_p {s : ByteArray} {n : Nat} {c : Int} (hp : prefD s n = .error c) : stP (start s n) = .error c := by
  unfold stP start; simp only; rw [hp]
theorem start_p' {s : ByteArray} {n m x : Nat} {w : Bool} (hp : prefD s n = .ok (w, x, m)) : stP (start s n) = .ok ⟨s, m, w, x, 0, noShp, 0, 0, 0, 0, 0, 0, 0, noOpd, noOpd, 0⟩ := by
  unfold stP start; simp only; rw [hp]
theorem start_o {s : ByteArray} {n x : Nat} {w : Bool} {c : Int} (ho : opcD s n = .error c) : stO ⟨s, n, w, x, 0, noShp, 0, 0, 0, 0, 0, 0, 0, noOpd, noOpd, 0⟩ = .error c := by
  unfold stO; simp only; rw [ho]
theorem start_o' {s : ByteArray} {n x b n2 : Nat} {wd : Bool} {z : Shp} (ho : opcD s n = .ok (b, z, n2)) : stO ⟨s, n, wd, x, 0, noShp, 0, 0, 0, 0, 0, 0, 0, noOpd, noOpd, 0⟩ = .ok ⟨s, n2, wd, x, b, z, 0, 0, 0, z.o, 0, 0, 0, noOpd, noOpd, 0⟩ := by
  unfold stO; simp only; rw [ho]
section
variable {s : ByteArray} {x b n2 : Nat} {wd : Bool} {z : Shp}
theorem start_m0 (hm : hasM z.f) (hn : n2 + 1 ≤ s.size) (hg : z.g = 0) : stM ⟨s, n2, wd, x, b, z, 0, 0, 0, z.o, 0, 0, 0, noOpd, noOpd, 0⟩ = .ok ⟨s, n2 + 1, wd, x, b, z, nb s n2 / 64, nb s n2 / 8 % 8, nb s n2 % 8, z.o, 0, 0, 0, noOpd, noOpd, 0⟩ := by
  unfold stM; simp only; rw [if_pos hm, if_pos (by omega), if_pos hg]
theorem start_m11 (hm : hasM z.f) (hn : n2 + 1 ≤ s.size) (hg : ¬ z.g = 0) (h0 : grp (z.g - 1).toNat (nb s n2 / 8 % 8) = 0) : stM ⟨s, n2, wd, x, b, z, 0, 0, 0, z.o, 0, 0, 0, noOpd, noOpd, 0⟩ = .error 11 := by
  unfold stM; simp only; rw [if_pos hm, if_pos (by omega), if_neg hg, if_pos h0]
theorem start_mg (hm : hasM z.f) (hn : n2 + 1 ≤ s.size) (hg : ¬ z.g = 0) (h0 : ¬ grp (z.g - 1).toNat (nb s n2 / 8 % 8) = 0) : stM ⟨s, n2, wd, x, b, z, 0, 0, 0, z.o, 0, 0, 0, noOpd, noOpd, 0⟩ = .ok ⟨s, n2 + 1, wd, x, b, z, nb s n2 / 64, nb s n2 / 8 % 8, nb s n2 % 8, grp (z.g - 1).toNat (nb s n2 / 8 % 8), 0, 0, 0, noOpd, noOpd, 0⟩ := by
  unfold stM; simp only; rw [if_pos hm, if_pos (by omega), if_neg hg, if_neg h0]
theorem start_m9 (hm : hasM z.f) (hn : ¬ n2 + 1 ≤ s.size) : stM ⟨s, n2, wd, x, b, z, 0, 0, 0, z.o, 0, 0, 0, noOpd, noOpd, 0⟩ = .error 9 := by
  unfold stM; simp only; rw [if_pos hm, if_neg (by omega)]
theorem start_mn (hm : ¬ hasM z.f) : stM ⟨s, n2, wd, x, b, z, 0, 0, 0, z.o, 0, 0, 0, noOpd, noOpd, 0⟩ = .ok ⟨s, n2, wd, x, b, z, 0, 0, 0, z.o, 0, 0, 0, noOpd, noOpd, 0⟩ := by
  unfold stM; simp only; rw [if_neg hm]
end
/-! where the reader ends -/
theorem stD_n {R R6 : Rd} (h : stD R = some R6) (hn : R.n ≤ R.t.size) : R6.t = R.t ∧ R.n ≤ R6.n ∧ R6.n ≤ R.t.size := by
  unfold stD at h
  cases hq : operD R.t R.n R.z.f R.op R.sz R.fr R.md R.rg R.rm R.rex R.ob with
  | none => rw [hq] at h; cases h
  | some q =>
    obtain ⟨⟨d, s⟩, n'⟩ := q
    rw [hq] at h
    cases h
    refine ⟨rfl, ?_⟩
    by_cases hm : hasM R.z.f
    · have h1 := mrS_ok (I := ⟨R.t, R.n, R.rex, R.w, 0⟩) (f := R.z.f) (op := R.op) (sz := R.sz) (fr := R.fr) (md := R.md) (rg := R.rg) (rm := R.rm) (b := R.ob) rfl hn hm
      have h2 := mrS_mo ⟨R.t, R.n, R.rex, R.w, 0⟩ R.z.f R.op R.sz R.fr R.md R.rg R.rm
      simp only at h1
      rw [hq] at h1
      have h3 : mrS ⟨R.t, R.n, R.rex, R.w, 0⟩ R.z.f R.op R.sz R.fr R.md R.rg R.rm = ((d, s), ⟨R.t, n', R.rex, R.w, 0⟩) := h1
      rw [h3] at h2
      exact ⟨h2.2.1, h2.2.2 hn⟩
    · have h1 := plS_ok (I := ⟨R.t, R.n, R.rex, R.w, 0⟩) (f := R.z.f) (op := R.op) (sz := R.sz) (fr := R.fr) (md := R.md) (rg := R.rg) (rm := R.rm) (b := R.ob) rfl hn hm
      have h2 := plS_mo ⟨R.t, R.n, R.rex, R.w, 0⟩ R.z.f R.op R.sz R.ob
      simp only at h1
      rw [hq] at h1
      have h3 : plS ⟨R.t, R.n, R.rex, R.w, 0⟩ R.z.f R.op R.sz R.ob = ((d, s), ⟨R.t, n', R.rex, R.w, 0⟩) := h1
      rw [h3] at h2
      exact ⟨h2.2.1, h2.2.2 hn⟩
theorem tailD_n {R3 R : Rd} (h : tailD R3 = .ok R) (hn : R3.n ≤ R3.t.size) : R3.n ≤ R.n ∧ R.n ≤ R3.t.size := by
  unfold tailD at h
  cases h4 : stS R3 with
  | error c => rw [h4] at h; cases h
  | ok R4 =>
    rw [h4] at h; simp only at h
    obtain rfl := stS_ok h4
    cases h5 : stA { R3 with sz := sizeV R3, fr := R3.z.r } with
    | error c => rw [h5] at h; cases h
    | ok R5 =>
      rw [h5] at h; simp only at h
      obtain rfl := stA_ok h5
      cases h6 : stD { R3 with sz := sizeV R3, fr := R3.z.r } with
      | none => rw [h6] at h; cases h
      | some R6 =>
        rw [h6] at h; simp only at h
        cases h
        exact (stD_n h6 hn).2
theorem readD_n {s : ByteArray} {n : Nat} {R : Rd} (hn : n ≤ s.size) (h : readD (start s n) = .ok R) : n < R.n ∧ R.n ≤ s.size := by
  cases hp : prefD s n with
  | error c => rw [readD_p (start_p hp)] at h; cases h
  | ok q =>
    obtain ⟨wd, x, n1⟩ := q
    have hP := prefD_ok hp
    cases ho : opcD s n1 with
    | error c => rw [readD_o (start_p' hp) (start_o ho)] at h; cases h
    | ok q2 =>
      obtain ⟨b, z, n2⟩ := q2
      have hO := opcD_ok ho
      cases h3 : stM ⟨s, n2, wd, x, b, z, 0, 0, 0, z.o, 0, 0, 0, noOpd, noOpd, 0⟩ with
      | error c => rw [readD_m (start_p' hp) (start_o' ho) h3] at h; cases h
      | ok R3 =>
        rw [readD_t (start_p' hp) (start_o' ho) h3] at h
        have hR : R3.t = s ∧ n2 ≤ R3.n ∧ R3.n ≤ s.size := by
          unfold stM at h3
          simp only at h3
          repeat' split at h3
          all_goals first | (cases h3; exact ⟨rfl, by simp only; omega, by simp only; omega⟩; done) | (cases h3; done)
        have := tailD_n h (by rw [hR.1]; exact hR.2.2)
        rw [hR.1] at this
        omega
theorem readD_err {R : Rd} {c : Int} (h : readD R = .error c) : c ≠ 0 := by
  unfold readD at h
  cases h1 : stP R with
  | error d => rw [h1] at h; cases h; rcases stP_err h1 with rfl | rfl <;> decide
  | ok R1 =>
    rw [h1] at h; simp only at h
    cases h2 : stO R1 with
    | error d => rw [h2] at h; cases h; rcases stO_err h2 with rfl | rfl <;> decide
    | ok R2 =>
      rw [h2] at h; simp only at h
      cases h3 : stM R2 with
      | error d => rw [h3] at h; cases h; rcases stM_err h3 with rfl | rfl <;> decide
      | ok R3 =>
        rw [h3] at h; simp only at h
        cases h4 : stS R3 with
        | error d => rw [h4] at h; cases h; rw [stS_err h4]; decide
        | ok R4 =>
          rw [h4] at h; simp only at h
          cases h5 : stA R4 with
          | error d => rw [h5] at h; cases h; rw [stA_err h5]; decide
          | ok R5 =>
            rw [h5] at h; simp only at h
            cases h6 : stD R5 with
            | none => rw [h6] at h; cases h; decide
            | some R6 => rw [h6] at h; cases h
/-- what Decode answers, of any text and place -/
def decW (s : ByteArray) (n : Int) : Array Value × Int := if 65536 < s.size then (zIns, 2) else if n < 0 then (zIns, 4) else if (s.size : Int) < n then (zIns, 4) else decD s n.toNat
theorem decW_long {s : ByteArray} {n : Int} (h : 65536 < s.size) : decW s n = (zIns, 2) := by unfold decW; rw [if_pos h]
theorem decW_low {s : ByteArray} {n : Int} (h : s.size ≤ 65536) (h1 : n < 0) : decW s n = (zIns, 4) := by unfold decW; rw [if_neg (by omega), if_pos h1]
theorem decW_high {s : ByteArray} {n : Int} (h : s.size ≤ 65536) (h1 : 0 ≤ n) (h2 : (s.size : Int) < n) : decW s n = (zIns, 4) := by unfold decW; rw [if_neg (by omega), if_neg (by omega), if_pos h2]
theorem decW_in {s : ByteArray} {n : Nat} (h : s.size ≤ 65536) (h1 : n ≤ s.size) : decW s (n : Int) = decD s n := by
  unfold decW; rw [if_neg (by omega), if_neg (by omega), if_neg (by omega)]; rfl
theorem decD_ins (s : ByteArray) (n : Nat) : ∃ x : Ins, (decD s n).1 = insV x := by
  unfold decD; split
  · exact ⟨⟨0, 0, 0, 0, noOpd, noOpd, 0⟩, rfl⟩
  · rename_i R _; exact ⟨⟨R.op, R.sz, R.cd, R.fr, R.d, R.s, _⟩, rfl⟩
theorem decW_ins (s : ByteArray) (n : Int) : ∃ x : Ins, (decW s n).1 = insV x := by
  unfold decW
  have h0 : ∃ x : Ins, zIns = insV x := ⟨⟨0, 0, 0, 0, noOpd, noOpd, 0⟩, rfl⟩
  repeat' split
  · exact h0
  · exact h0
  · exact h0
  · exact decD_ins _ _
end Go.Proofs.YtinjpobepcenfaaDoor
namespace Go.Proofs.YtinjpobepcenfaaDoor
open Go.RowKit Go.Sort
set_option linter.unusedVariables false
set_option linter.unusedSimpArgs false
/-- what head answers, and where the decoder stands then -/
def HdRel (s : ByteArray) (n : Nat) (z : Shp) (b : Nat) (I : In) : Prop :=
  match prefD s n with
  | .error c => I.c = c ∧ c ≠ 0
  | .ok (w, x, m) => match opcD s m with
    | .error c => I.c = c ∧ c ≠ 0
    | .ok (b', z', m') => z = z' ∧ b = b' ∧ I = ⟨s, m', x, w, 0⟩
theorem hdr_err {s : ByteArray} {n : Nat} {z : Shp} {b : Nat} {m x : Nat} {w : Bool} {c : Int} (h : prefD s n = .error c) (hc : c ≠ 0) : HdRel s n z b ⟨s, m, x, w, c⟩ := by
  unfold HdRel; rw [h]; exact ⟨rfl, hc⟩
theorem hdr_op {s : ByteArray} {n : Nat} {z : Shp} {b : Nat} {m x k x' : Nat} {w w' : Bool} {c : Int} (h : prefD s n = .ok (w', x', k)) (h2 : opcD s k = .error c) (hc : c ≠ 0) : HdRel s n z b ⟨s, m, x, w, c⟩ := by
  unfold HdRel; rw [h]; simp only; rw [h2]; exact ⟨rfl, hc⟩
theorem hdr_ok {s : ByteArray} {n : Nat} {z : Shp} {b : Nat} {m x k : Nat} {w : Bool} (h : prefD s n = .ok (w, x, k)) (h2 : opcD s k = .ok (b, z, m)) : HdRel s n z b ⟨s, m, x, w, 0⟩ := by
  unfold HdRel; rw [h]; simp only; rw [h2]; exact ⟨rfl, rfl, rfl⟩
theorem prefD_end {s : ByteArray} {n : Nat} (h : ¬ n + 1 ≤ s.size) : prefD s n = .error 9 := by unfold prefD; rw [if_neg (by omega)]
theorem prefD_w {s : ByteArray} {n : Nat} (h : n + 1 ≤ s.size) (h1 : nb s n = 102) : prefD s n = rexD s (n + 1) true := by unfold prefD; rw [if_pos (by omega), if_pos h1]
theorem prefD_n {s : ByteArray} {n : Nat} (h : n + 1 ≤ s.size) (h1 : ¬ nb s n = 102) : prefD s n = rexD s n false := by unfold prefD; rw [if_pos (by omega), if_neg h1]
theorem rexD_end {s : ByteArray} {n : Nat} {w : Bool} (h : ¬ n + 1 ≤ s.size) : rexD s n w = .error 9 := by unfold rexD; rw [if_neg (by omega)]
theorem rexD_bad {s : ByteArray} {n : Nat} {w : Bool} (h : n + 1 ≤ s.size) (h1 : nb s n = 102 ∨ isPre (nb s n)) : rexD s n w = .error 10 := by unfold rexD; rw [if_pos (by omega), if_pos h1]
theorem rexD_x {s : ByteArray} {n : Nat} {w : Bool} (h : n + 1 ≤ s.size) (h1 : ¬ nb s n = 102) (h2 : ¬ isPre (nb s n)) (h3 : 64 ≤ nb s n ∧ nb s n ≤ 79) : rexD s n w = .ok (w, nb s n, n + 1) := by
  unfold rexD; rw [if_pos (by omega), if_neg (fun e => e.elim h1 h2), if_pos h3]
theorem rexD_no {s : ByteArray} {n : Nat} {w : Bool} (h : n + 1 ≤ s.size) (h1 : ¬ nb s n = 102) (h2 : ¬ isPre (nb s n)) (h3 : ¬ (64 ≤ nb s n ∧ nb s n ≤ 79)) : rexD s n w = .ok (w, 0, n) := by
  unfold rexD; rw [if_pos (by omega), if_neg (fun e => e.elim h1 h2), if_neg h3]
theorem opcD_end {s : ByteArray} {n : Nat} (h : ¬ n + 1 ≤ s.size) : opcD s n = .error 9 := by unfold opcD; rw [if_neg (by omega)]
theorem opcD_2end {s : ByteArray} {n : Nat} (h : n + 1 ≤ s.size) (h1 : nb s n = 15) (h2 : ¬ n + 1 + 1 ≤ s.size) : opcD s n = .error 9 := by unfold opcD; rw [if_pos (by omega), if_pos h1, if_neg (by omega)]
theorem opcD_20 {s : ByteArray} {n : Nat} (h : n + 1 ≤ s.size) (h1 : nb s n = 15) (h2 : n + 1 + 1 ≤ s.size) (h3 : (shapeD true (nb s (n + 1))).f = 0) : opcD s n = .error 11 := by
  unfold opcD; rw [if_pos (by omega), if_pos h1, if_pos (by omega), if_pos h3]
theorem opcD_2 {s : ByteArray} {n : Nat} (h : n + 1 ≤ s.size) (h1 : nb s n = 15) (h2 : n + 1 + 1 ≤ s.size) (h3 : ¬ (shapeD true (nb s (n + 1))).f = 0) : opcD s n = .ok (nb s (n + 1), shapeD true (nb s (n + 1)), n + 2) := by
  unfold opcD; rw [if_pos (by omega), if_pos h1, if_pos (by omega), if_neg h3]
theorem opcD_10 {s : ByteArray} {n : Nat} (h : n + 1 ≤ s.size) (h1 : ¬ nb s n = 15) (h3 : (shapeD false (nb s n)).f = 0) : opcD s n = .error 11 := by unfold opcD; rw [if_pos (by omega), if_neg h1, if_pos h3]
theorem opcD_1 {s : ByteArray} {n : Nat} (h : n + 1 ≤ s.size) (h1 : ¬ nb s n = 15) (h3 : ¬ (shapeD false (nb s n)).f = 0) : opcD s n = .ok (nb s n, shapeD false (nb s n), n + 1) := by unfold opcD; rw [if_pos (by omega), if_neg h1, if_neg h3]
theorem eqT {b : Nat} (k : Nat) (h : b = k) : ((b : Int) == (k : Int)) = true := beq_iff_eq.mpr (by omega)
theorem eqF {b : Nat} (k : Nat) (h : ¬ b = k) : ((b : Int) == (k : Int)) = false := beq_eq_false_iff_ne.mpr (by omega)
theorem r16T {b : Nat} (h : 64 ≤ b ∧ b ≤ 79) : ((b : Int) / 16 == 4) = true := beq_iff_eq.mpr (by omega)
theorem r16F {b : Nat} (h : ¬ (64 ≤ b ∧ b ≤ 79)) : ((b : Int) / 16 == 4) = false := beq_eq_false_iff_ne.mpr (by omega)
theorem zT {z : Shp} (h : z.f = 0) : (z.f == 0) = true := beq_iff_eq.mpr h
theorem zF {z : Shp} (h : ¬ z.f = 0) : (z.f == 0) = false := beq_eq_false_iff_ne.mpr h
theorem preT {b : Nat} (h : isPre b) : Hid (∀ W, Calls Tryd.prog 80 #[.int .i64 (b : Int)] W fun e w' => e = .returned (.bool true) ∧ W = w') := Lib.hid fun W => (sPreYes b W h).mono fun e w' q => ⟨q.1, q.2.symm⟩
theorem preF {b : Nat} (h : ¬ isPre b) : Hid (∀ W, Calls Tryd.prog 80 #[.int .i64 (b : Int)] W fun e w' => e = .returned (.bool false) ∧ W = w') := Lib.hid fun W => (sPreNo b W h).mono fun e w' q => ⟨q.1, q.2.symm⟩
theorem shC (t : Bool) (b : Nat) (hb : b < 256) : Hid (∀ W, Calls Tryd.prog 81 #[.bool t, .int .i64 (b : Int)] W fun e w' => e = .returned (shpV (shapeD t b)) ∧ Below W.heap.size W w') := Lib.hid fun W => l03ShapeC t b W hb
theorem bOk (g n x : Nat) (w : Bool) (s : ByteArray) (W0 : World) (hn : n + 1 ≤ s.size) : Hid (∀ W, IAt W0 W g ⟨s, n, x, w, 0⟩ → Calls Tryd.prog 48 #[.pointer (some ⟨g, 0, none⟩)] W fun e w' => e = .returned (.int .i64 (nb s n : Int)) ∧ IWr W0 W w' g ⟨s, n + 1, x, w, 0⟩) := Lib.hid fun W hW => by
  have := byteC g ⟨s, n, x, w, 0⟩ W0 W hW
  have e1 : byteV ⟨s, n, x, w, 0⟩ = nb s n := by unfold byteV; rw [if_pos rfl, if_pos hn]
  have e2 : numI ⟨s, n, x, w, 0⟩ 1 = ⟨s, n + 1, x, w, 0⟩ := by unfold numI; rw [if_pos rfl, if_pos hn]
  rw [e1, e2] at this
  exact this
theorem bEnd (g n x : Nat) (w : Bool) (s : ByteArray) (W0 : World) (hn : ¬ n + 1 ≤ s.size) : Hid (∀ W, IAt W0 W g ⟨s, n, x, w, 0⟩ → Calls Tryd.prog 48 #[.pointer (some ⟨g, 0, none⟩)] W fun e w' => e = .returned (.int .i64 0) ∧ IWr W0 W w' g ⟨s, n, x, w, 9⟩) := Lib.hid fun W hW => by
  have := byteC g ⟨s, n, x, w, 0⟩ W0 W hW
  have e1 : byteV ⟨s, n, x, w, 0⟩ = 0 := by unfold byteV; rw [if_pos rfl, if_neg hn]
  have e2 : numI ⟨s, n, x, w, 0⟩ 1 = ⟨s, n, x, w, 9⟩ := by unfold numI; rw [if_pos rfl, if_neg hn]
  rw [e1, e2] at this
  exact this
theorem bStuck (g n x : Nat) (w : Bool) (c : Int) (s : ByteArray) (W0 : World) (hc : c ≠ 0) : Hid (∀ W, IAt W0 W g ⟨s, n, x, w, c⟩ → Calls Tryd.prog 48 #[.pointer (some ⟨g, 0, none⟩)] W fun e w' => e = .returned (.int .i64 0) ∧ IWr W0 W w' g ⟨s, n, x, w, c⟩) := Lib.hid fun W hW => by
  have := byteC g ⟨s, n, x, w, c⟩ W0 W hW
  have e1 : byteV ⟨s, n, x, w, c⟩ = 0 := by unfold byteV; rw [if_neg hc]
  have e2 : numI ⟨s, n, x, w, c⟩ 1 = ⟨s, n, x, w, c⟩ := by unfold numI; rw [if_neg hc]
  rw [e1, e2] at this
  exact this
theorem fOk (g n x : Nat) (w : Bool) (c : Int) (s : ByteArray) (W0 : World) : Hid (∀ W, IAt W0 W g ⟨s, n, x, w, 0⟩ → Calls Tryd.prog 50 #[.pointer (some ⟨g, 0, none⟩), .int .i64 c] W fun e w' => e = .returned (.tuple #[]) ∧ IWr W0 W w' g ⟨s, n, x, w, c⟩) := Lib.hid fun W hW => by
  have := failC g ⟨s, n, x, w, 0⟩ c W0 W hW
  have e2 : failI ⟨s, n, x, w, 0⟩ c = ⟨s, n, x, w, c⟩ := by unfold failI; rw [if_pos rfl]
  rw [e2] at this
  exact this
theorem fStuck (g n x : Nat) (w : Bool) (c d : Int) (s : ByteArray) (W0 : World) (hc : c ≠ 0) : Hid (∀ W, IAt W0 W g ⟨s, n, x, w, c⟩ → Calls Tryd.prog 50 #[.pointer (some ⟨g, 0, none⟩), .int .i64 d] W fun e w' => e = .returned (.tuple #[]) ∧ IWr W0 W w' g ⟨s, n, x, w, c⟩) := Lib.hid fun W hW => by
  have := failC g ⟨s, n, x, w, c⟩ d W0 W hW
  have e2 : failI ⟨s, n, x, w, c⟩ d = ⟨s, n, x, w, c⟩ := by unfold failI; rw [if_neg hc]
  rw [e2] at this
  exact this
set_option maxHeartbeats 4000000 in
theorem headC (g n : Nat) (s : ByteArray) (W0 : World) : ∃ z b I, HdRel s n z b I ∧ b < 256 ∧ ∀ w, IAt W0 w g ⟨s, n, 0, false, 0⟩ →
    Calls Tryd.prog 46 #[.pointer (some ⟨g, 0, none⟩)] w fun e w' => e = .returned (.tuple #[shpV z, .int .i64 (b : Int)]) ∧ IWr W0 w w' g I := by
  by_cases h0 : n + 1 ≤ s.size
  · by_cases d1 : nb s n = 102
    · by_cases h1 : n + 1 + 1 ≤ s.size
      · by_cases d2 : nb s (n + 1) = 102
        · exact ⟨shapeD false 0, 0, _, hdr_err ((prefD_w h0 d1).trans (rexD_bad h1 (.inl d2))) (by decide), by decide, fun w h => hdTwice g n s W0 w h _ (bOk g n 0 false s W0 h0) (eqT 102 d1) _ (bOk g (n + 1) 0 true s W0 h1) (eqT 102 d2) (fOk g (n + 2) 0 true 10 s W0) (bStuck g (n + 2) 0 true 10 s W0 (by decide)) (shapeD false 0) (by decide) (shC false 0 (by decide))⟩
        · by_cases p2 : isPre (nb s (n + 1))
          · exact ⟨shapeD false 0, 0, _, hdr_err ((prefD_w h0 d1).trans (rexD_bad h1 (.inr p2))) (by decide), by decide, fun w h => hdPre2 g n s W0 w h _ (bOk g n 0 false s W0 h0) (eqT 102 d1) _ (bOk g (n + 1) 0 true s W0 h1) (eqF 102 d2) (preT p2) (fOk g (n + 2) 0 true 10 s W0) (bStuck g (n + 2) 0 true 10 s W0 (by decide)) (shapeD false 0) (by decide) (shC false 0 (by decide))⟩
          · by_cases x2 : 64 ≤ nb s (n + 1) ∧ nb s (n + 1) ≤ 79
            · by_cases h2 : n + 2 + 1 ≤ s.size
              · by_cases e3 : nb s (n + 2) = 15
                · by_cases h3 : (n + 3) + 1 ≤ s.size
                  · by_cases hz : (shapeD true (nb s (n + 3))).f = 0
                    · exact ⟨shapeD true (nb s (n + 3)), (nb s (n + 3)), _, hdr_op ((prefD_w h0 d1).trans (rexD_x h1 d2 p2 x2)) (opcD_20 h2 e3 h3 hz) (by decide), nb_lt _ _, fun w h => hdWX_two0 g n s W0 w h _ (bOk g n 0 false s W0 h0) (eqT 102 d1) _ (bOk g (n + 1) 0 true s W0 h1) (eqF 102 d2) (preF p2) (r16T x2) (nb_lt _ _) (by omega) _ (bOk g (n + 2) _ true s W0 h2) (eqT 15 e3) _ (bOk g (n + 3) _ true s W0 h3) (shapeD true (nb s (n + 3))) (zT hz) (shC true (nb s (n + 3)) (nb_lt _ _)) (fOk g (n + 4) _ true 11 s W0)⟩
                    · exact ⟨shapeD true (nb s (n + 3)), (nb s (n + 3)), _, hdr_ok ((prefD_w h0 d1).trans (rexD_x h1 d2 p2 x2)) (opcD_2 h2 e3 h3 hz), nb_lt _ _, fun w h => hdWX_two g n s W0 w h _ (bOk g n 0 false s W0 h0) (eqT 102 d1) _ (bOk g (n + 1) 0 true s W0 h1) (eqF 102 d2) (preF p2) (r16T x2) (nb_lt _ _) (by omega) _ (bOk g (n + 2) _ true s W0 h2) (eqT 15 e3) _ (bOk g (n + 3) _ true s W0 h3) (shapeD true (nb s (n + 3))) (zF hz) (shC true (nb s (n + 3)) (nb_lt _ _))⟩
                  · exact ⟨shapeD true 0, 0, _, hdr_op ((prefD_w h0 d1).trans (rexD_x h1 d2 p2 x2)) (opcD_2end h2 e3 h3) (by decide), by decide, fun w h => hdWX_twoend g n s W0 w h _ (bOk g n 0 false s W0 h0) (eqT 102 d1) _ (bOk g (n + 1) 0 true s W0 h1) (eqF 102 d2) (preF p2) (r16T x2) (nb_lt _ _) (by omega) _ (bOk g (n + 2) _ true s W0 h2) (eqT 15 e3) (bEnd g (n + 3) _ true s W0 h3) (shapeD true 0) (by decide) (shC true 0 (by decide)) (fStuck g (n + 3) _ true 9 11 s W0 (by decide))⟩
                · by_cases hz : (shapeD false (nb s (n + 2))).f = 0
                  · exact ⟨shapeD false (nb s (n + 2)), (nb s (n + 2)), _, hdr_op ((prefD_w h0 d1).trans (rexD_x h1 d2 p2 x2)) (opcD_10 h2 e3 hz) (by decide), nb_lt _ _, fun w h => hdWX_one0 g n s W0 w h _ (bOk g n 0 false s W0 h0) (eqT 102 d1) _ (bOk g (n + 1) 0 true s W0 h1) (eqF 102 d2) (preF p2) (r16T x2) (nb_lt _ _) (by omega) _ (bOk g (n + 2) _ true s W0 h2) (eqF 15 e3) (shapeD false (nb s (n + 2))) (zT hz) (shC false (nb s (n + 2)) (nb_lt _ _)) (fOk g (n + 3) _ true 11 s W0)⟩
                  · exact ⟨shapeD false (nb s (n + 2)), (nb s (n + 2)), _, hdr_ok ((prefD_w h0 d1).trans (rexD_x h1 d2 p2 x2)) (opcD_1 h2 e3 hz), nb_lt _ _, fun w h => hdWX_one g n s W0 w h _ (bOk g n 0 false s W0 h0) (eqT 102 d1) _ (bOk g (n + 1) 0 true s W0 h1) (eqF 102 d2) (preF p2) (r16T x2) (nb_lt _ _) (by omega) _ (bOk g (n + 2) _ true s W0 h2) (eqF 15 e3) (shapeD false (nb s (n + 2))) (zF hz) (shC false (nb s (n + 2)) (nb_lt _ _))⟩
              · exact ⟨shapeD false 0, 0, _, hdr_op ((prefD_w h0 d1).trans (rexD_x h1 d2 p2 x2)) (opcD_end h2) (by decide), by decide, fun w h => hdWX_end g n s W0 w h _ (bOk g n 0 false s W0 h0) (eqT 102 d1) _ (bOk g (n + 1) 0 true s W0 h1) (eqF 102 d2) (preF p2) (r16T x2) (nb_lt _ _) (by omega) (bEnd g (n + 2) _ true s W0 h2) (shapeD false 0) (by decide) (shC false 0 (by decide))⟩
            · by_cases e2 : nb s (n + 1) = 15
              · by_cases h2 : (n + 2) + 1 ≤ s.size
                · by_cases hz : (shapeD true (nb s (n + 2))).f = 0
                  · exact ⟨shapeD true (nb s (n + 2)), (nb s (n + 2)), _, hdr_op ((prefD_w h0 d1).trans (rexD_no h1 d2 p2 x2)) (opcD_20 h1 e2 h2 hz) (by decide), nb_lt _ _, fun w h => hdW_two0 g n s W0 w h _ (bOk g n 0 false s W0 h0) (eqT 102 d1) _ (bOk g (n + 1) 0 true s W0 h1) (eqF 102 d2) (preF p2) (r16F x2) (nb_lt _ _) (eqT 15 e2) _ (bOk g (n + 2) 0 true s W0 h2) (shapeD true (nb s (n + 2))) (zT hz) (shC true (nb s (n + 2)) (nb_lt _ _)) (fOk g (n + 3) 0 true 11 s W0)⟩
                  · exact ⟨shapeD true (nb s (n + 2)), (nb s (n + 2)), _, hdr_ok ((prefD_w h0 d1).trans (rexD_no h1 d2 p2 x2)) (opcD_2 h1 e2 h2 hz), nb_lt _ _, fun w h => hdW_two g n s W0 w h _ (bOk g n 0 false s W0 h0) (eqT 102 d1) _ (bOk g (n + 1) 0 true s W0 h1) (eqF 102 d2) (preF p2) (r16F x2) (nb_lt _ _) (eqT 15 e2) _ (bOk g (n + 2) 0 true s W0 h2) (shapeD true (nb s (n + 2))) (zF hz) (shC true (nb s (n + 2)) (nb_lt _ _))⟩
                · exact ⟨shapeD true 0, 0, _, hdr_op ((prefD_w h0 d1).trans (rexD_no h1 d2 p2 x2)) (opcD_2end h1 e2 h2) (by decide), by decide, fun w h => hdW_twoend g n s W0 w h _ (bOk g n 0 false s W0 h0) (eqT 102 d1) _ (bOk g (n + 1) 0 true s W0 h1) (eqF 102 d2) (preF p2) (r16F x2) (nb_lt _ _) (eqT 15 e2) (bEnd g (n + 2) 0 true s W0 h2) (shapeD true 0) (by decide) (shC true 0 (by decide)) (fStuck g (n + 2) 0 true 9 11 s W0 (by decide))⟩
              · by_cases hz : (shapeD false (nb s (n + 1))).f = 0
                · exact ⟨shapeD false (nb s (n + 1)), (nb s (n + 1)), _, hdr_op ((prefD_w h0 d1).trans (rexD_no h1 d2 p2 x2)) (opcD_10 h1 e2 hz) (by decide), nb_lt _ _, fun w h => hdW_one0 g n s W0 w h _ (bOk g n 0 false s W0 h0) (eqT 102 d1) _ (bOk g (n + 1) 0 true s W0 h1) (eqF 102 d2) (preF p2) (r16F x2) (nb_lt _ _) (eqF 15 e2) (shapeD false (nb s (n + 1))) (zT hz) (shC false (nb s (n + 1)) (nb_lt _ _)) (fOk g (n + 2) 0 true 11 s W0)⟩
                · exact ⟨shapeD false (nb s (n + 1)), (nb s (n + 1)), _, hdr_ok ((prefD_w h0 d1).trans (rexD_no h1 d2 p2 x2)) (opcD_1 h1 e2 hz), nb_lt _ _, fun w h => hdW_one g n s W0 w h _ (bOk g n 0 false s W0 h0) (eqT 102 d1) _ (bOk g (n + 1) 0 true s W0 h1) (eqF 102 d2) (preF p2) (r16F x2) (nb_lt _ _) (eqF 15 e2) (shapeD false (nb s (n + 1))) (zF hz) (shC false (nb s (n + 1)) (nb_lt _ _))⟩
      · exact ⟨shapeD false 0, 0, _, hdr_err ((prefD_w h0 d1).trans (rexD_end h1)) (by decide), by decide, fun w h => hdEnd2 g n s W0 w h _ (bOk g n 0 false s W0 h0) (eqT 102 d1) (bEnd g (n + 1) 0 true s W0 h1) (shapeD false 0) (by decide) (shC false 0 (by decide))⟩
    · by_cases p1 : isPre (nb s n)
      · exact ⟨shapeD false 0, 0, _, hdr_err ((prefD_n h0 d1).trans (rexD_bad h0 (.inr p1))) (by decide), by decide, fun w h => hdPre g n s W0 w h _ (bOk g n 0 false s W0 h0) (eqF 102 d1) (preT p1) (fOk g (n + 1) 0 false 10 s W0) (bStuck g (n + 1) 0 true 10 s W0 (by decide)) (shapeD false 0) (by decide) (shC false 0 (by decide))⟩
      · by_cases x1 : 64 ≤ nb s n ∧ nb s n ≤ 79
        · by_cases h1 : n + 1 + 1 ≤ s.size
          · by_cases e2 : nb s (n + 1) = 15
            · by_cases h2 : (n + 2) + 1 ≤ s.size
              · by_cases hz : (shapeD true (nb s (n + 2))).f = 0
                · exact ⟨shapeD true (nb s (n + 2)), (nb s (n + 2)), _, hdr_op ((prefD_n h0 d1).trans (rexD_x h0 d1 p1 x1)) (opcD_20 h1 e2 h2 hz) (by decide), nb_lt _ _, fun w h => hdNX_two0 g n s W0 w h _ (bOk g n 0 false s W0 h0) (eqF 102 d1) (preF p1) (r16T x1) (nb_lt _ _) (by omega) _ (bOk g (n + 1) _ false s W0 h1) (eqT 15 e2) _ (bOk g (n + 2) _ false s W0 h2) (shapeD true (nb s (n + 2))) (zT hz) (shC true (nb s (n + 2)) (nb_lt _ _)) (fOk g (n + 3) _ false 11 s W0)⟩
                · exact ⟨shapeD true (nb s (n + 2)), (nb s (n + 2)), _, hdr_ok ((prefD_n h0 d1).trans (rexD_x h0 d1 p1 x1)) (opcD_2 h1 e2 h2 hz), nb_lt _ _, fun w h => hdNX_two g n s W0 w h _ (bOk g n 0 false s W0 h0) (eqF 102 d1) (preF p1) (r16T x1) (nb_lt _ _) (by omega) _ (bOk g (n + 1) _ false s W0 h1) (eqT 15 e2) _ (bOk g (n + 2) _ false s W0 h2) (shapeD true (nb s (n + 2))) (zF hz) (shC true (nb s (n + 2)) (nb_lt _ _))⟩
              · exact ⟨shapeD true 0, 0, _, hdr_op ((prefD_n h0 d1).trans (rexD_x h0 d1 p1 x1)) (opcD_2end h1 e2 h2) (by decide), by decide, fun w h => hdNX_twoend g n s W0 w h _ (bOk g n 0 false s W0 h0) (eqF 102 d1) (preF p1) (r16T x1) (nb_lt _ _) (by omega) _ (bOk g (n + 1) _ false s W0 h1) (eqT 15 e2) (bEnd g (n + 2) _ false s W0 h2) (shapeD true 0) (by decide) (shC true 0 (by decide)) (fStuck g (n + 2) _ false 9 11 s W0 (by decide))⟩
            · by_cases hz : (shapeD false (nb s (n + 1))).f = 0
              · exact ⟨shapeD false (nb s (n + 1)), (nb s (n + 1)), _, hdr_op ((prefD_n h0 d1).trans (rexD_x h0 d1 p1 x1)) (opcD_10 h1 e2 hz) (by decide), nb_lt _ _, fun w h => hdNX_one0 g n s W0 w h _ (bOk g n 0 false s W0 h0) (eqF 102 d1) (preF p1) (r16T x1) (nb_lt _ _) (by omega) _ (bOk g (n + 1) _ false s W0 h1) (eqF 15 e2) (shapeD false (nb s (n + 1))) (zT hz) (shC false (nb s (n + 1)) (nb_lt _ _)) (fOk g (n + 2) _ false 11 s W0)⟩
              · exact ⟨shapeD false (nb s (n + 1)), (nb s (n + 1)), _, hdr_ok ((prefD_n h0 d1).trans (rexD_x h0 d1 p1 x1)) (opcD_1 h1 e2 hz), nb_lt _ _, fun w h => hdNX_one g n s W0 w h _ (bOk g n 0 false s W0 h0) (eqF 102 d1) (preF p1) (r16T x1) (nb_lt _ _) (by omega) _ (bOk g (n + 1) _ false s W0 h1) (eqF 15 e2) (shapeD false (nb s (n + 1))) (zF hz) (shC false (nb s (n + 1)) (nb_lt _ _))⟩
          · exact ⟨shapeD false 0, 0, _, hdr_op ((prefD_n h0 d1).trans (rexD_x h0 d1 p1 x1)) (opcD_end h1) (by decide), by decide, fun w h => hdNX_end g n s W0 w h _ (bOk g n 0 false s W0 h0) (eqF 102 d1) (preF p1) (r16T x1) (nb_lt _ _) (by omega) (bEnd g (n + 1) _ false s W0 h1) (shapeD false 0) (by decide) (shC false 0 (by decide))⟩
        · by_cases e1 : nb s n = 15
          · by_cases h1 : (n + 1) + 1 ≤ s.size
            · by_cases hz : (shapeD true (nb s (n + 1))).f = 0
              · exact ⟨shapeD true (nb s (n + 1)), (nb s (n + 1)), _, hdr_op ((prefD_n h0 d1).trans (rexD_no h0 d1 p1 x1)) (opcD_20 h0 e1 h1 hz) (by decide), nb_lt _ _, fun w h => hdN_two0 g n s W0 w h _ (bOk g n 0 false s W0 h0) (eqF 102 d1) (preF p1) (r16F x1) (nb_lt _ _) (eqT 15 e1) _ (bOk g (n + 1) 0 false s W0 h1) (shapeD true (nb s (n + 1))) (zT hz) (shC true (nb s (n + 1)) (nb_lt _ _)) (fOk g (n + 2) 0 false 11 s W0)⟩
              · exact ⟨shapeD true (nb s (n + 1)), (nb s (n + 1)), _, hdr_ok ((prefD_n h0 d1).trans (rexD_no h0 d1 p1 x1)) (opcD_2 h0 e1 h1 hz), nb_lt _ _, fun w h => hdN_two g n s W0 w h _ (bOk g n 0 false s W0 h0) (eqF 102 d1) (preF p1) (r16F x1) (nb_lt _ _) (eqT 15 e1) _ (bOk g (n + 1) 0 false s W0 h1) (shapeD true (nb s (n + 1))) (zF hz) (shC true (nb s (n + 1)) (nb_lt _ _))⟩
            · exact ⟨shapeD true 0, 0, _, hdr_op ((prefD_n h0 d1).trans (rexD_no h0 d1 p1 x1)) (opcD_2end h0 e1 h1) (by decide), by decide, fun w h => hdN_twoend g n s W0 w h _ (bOk g n 0 false s W0 h0) (eqF 102 d1) (preF p1) (r16F x1) (nb_lt _ _) (eqT 15 e1) (bEnd g (n + 1) 0 false s W0 h1) (shapeD true 0) (by decide) (shC true 0 (by decide)) (fStuck g (n + 1) 0 false 9 11 s W0 (by decide))⟩
          · by_cases hz : (shapeD false (nb s n)).f = 0
            · exact ⟨shapeD false (nb s n), (nb s n), _, hdr_op ((prefD_n h0 d1).trans (rexD_no h0 d1 p1 x1)) (opcD_10 h0 e1 hz) (by decide), nb_lt _ _, fun w h => hdN_one0 g n s W0 w h _ (bOk g n 0 false s W0 h0) (eqF 102 d1) (preF p1) (r16F x1) (nb_lt _ _) (eqF 15 e1) (shapeD false (nb s n)) (zT hz) (shC false (nb s n) (nb_lt _ _)) (fOk g (n + 1) 0 false 11 s W0)⟩
            · exact ⟨shapeD false (nb s n), (nb s n), _, hdr_ok ((prefD_n h0 d1).trans (rexD_no h0 d1 p1 x1)) (opcD_1 h0 e1 hz), nb_lt _ _, fun w h => hdN_one g n s W0 w h _ (bOk g n 0 false s W0 h0) (eqF 102 d1) (preF p1) (r16F x1) (nb_lt _ _) (eqF 15 e1) (shapeD false (nb s n)) (zF hz) (shC false (nb s n) (nb_lt _ _))⟩
  · exact ⟨shapeD false 0, 0, _, hdr_err (prefD_end h0) (by decide), by decide, fun w h => hdEnd g n s W0 w h (bEnd g n 0 false s W0 h0) (shapeD false 0) (by decide) (shC false 0 (by decide))⟩
end Go.Proofs.YtinjpobepcenfaaDoor
namespace Go.Proofs.YtinjpobepcenfaaDoor
open Go.RowKit Go.Sort
set_option linter.unusedVariables false
set_option linter.unusedSimpArgs false
theorem okK {sz : Int} (h : okSize sz) : min sz 4 = ((minK sz : Nat) : Int) ∧ okSize ((minK sz : Nat) : Int) := by
  rcases h with rfl | rfl | rfl | rfl
  · exact ⟨rfl, .inl rfl⟩
  · exact ⟨rfl, .inr (.inl rfl)⟩
  · exact ⟨rfl, .inr (.inr (.inl rfl))⟩
  · exact ⟨rfl, .inr (.inr (.inl rfl))⟩
theorem okN {sz : Int} (h : okSize sz) : sz = ((sz.toNat : Nat) : Int) ∧ okSize ((sz.toNat : Nat) : Int) := by
  rcases h with rfl | rfl | rfl | rfl
  · exact ⟨rfl, .inl rfl⟩
  · exact ⟨rfl, .inr (.inl rfl)⟩
  · exact ⟨rfl, .inr (.inr (.inl rfl))⟩
  · exact ⟨rfl, .inr (.inr (.inr rfl))⟩
theorem ok4' : okSize ((4 : Nat) : Int) := .inr (.inr (.inl rfl))
theorem place_reg (I : In) (md rm : Nat) (sz : Int) (h : md = 3) : placeS I md rm sz = (bReg (rm + extB I.x 0) sz I.x, I) := by unfold placeS; rw [if_pos h]
theorem place_mem (I : In) (md rm : Nat) (sz : Int) (h : md ≠ 3) : placeS I md rm sz = memS I md rm := by unfold placeS; rw [if_neg h]
theorem modrmC (g m : Nat) (I : In) (op sz cd fr ln : Int) (z : Shp) (W0 w : World) (h : IAt W0 w g I) (hm : m < 256) (hf : hasM z.f) (hz : z.f = 5 ∨ op = 10 → okSize sz) :
    Calls Tryd.prog 53 #[.pointer (some ⟨g, 0, none⟩), .agg (insV ⟨op, sz, cd, fr, noOpd, noOpd, ln⟩), shpV z, .int .i64 (m : Int)] w fun e w' =>
      e = .returned (.agg (insV ⟨op, sz, cd, fr, (mrS I z.f op sz z.r (m / 64) (m / 8 % 8) (m % 8)).1.1, (mrS I z.f op sz z.r (m / 64) (m / 8 % 8) (m % 8)).1.2, ln⟩)) ∧ IWr W0 w w' g (mrS I z.f op sz z.r (m / 64) (m / 8 % 8) (m % 8)).2 := by
  rw [mrS_eq]
  have hE := extB_le I.x 2
  have hE0 := extB_le I.x 0
  have C2 : Hid (∀ W, IAt W0 W g I → Calls Tryd.prog 87 #[.pointer (some ⟨g, 0, none⟩), .int .i64 2] W fun e w' => e = .returned (.int .i64 (extB I.x 2 : Int)) ∧ W = w') := Lib.hid (fun W hW => sExtC g 2 I W0 W hW (by decide))
  have C0 : Hid (∀ W, IAt W0 W g I → Calls Tryd.prog 87 #[.pointer (some ⟨g, 0, none⟩), .int .i64 0] W fun e w' => e = .returned (.int .i64 (extB I.x 0 : Int)) ∧ W = w') := Lib.hid (fun W hW => sExtC g 0 I W0 W hW (by decide))
  have CR (r : Nat) (q : Int) (hr : r < 4096) : Hid (∀ W, IAt W0 W g I → Calls Tryd.prog 86 #[.pointer (some ⟨g, 0, none⟩), .int .i64 (r : Int), .int .i64 q] W fun e w' => e = .returned (V7 (bReg r q I.x)) ∧ Below W.heap.size W w') := Lib.hid (fun W hW => sRegC g r q I W0 W hW hr)
  have CB (J : In) : Hid (∀ W, IAt W0 W g J → Calls Tryd.prog 48 #[.pointer (some ⟨g, 0, none⟩)] W fun e w' => e = .returned (.int .i64 (byteV J : Int)) ∧ IWr W0 W w' g (immU J).2) := Lib.hid (fun W hW => byteC g J W0 W hW)
  have CI1 (J : In) : Hid (∀ W, IAt W0 W g J → Calls Tryd.prog 89 #[.pointer (some ⟨g, 0, none⟩), .int .i64 1] W fun e w' => e = .returned (V7 (immS J 1).1) ∧ IWr W0 W w' g (immS J 1).2) := Lib.hid (fun W hW => sImmC g 1 1 J W0 W hW rfl ok1)
  have CIS (J : In) (hs : okSize sz) : Hid (∀ W, IAt W0 W g J → Calls Tryd.prog 89 #[.pointer (some ⟨g, 0, none⟩), .int .i64 sz] W fun e w' => e = .returned (V7 (immS J (minK sz)).1) ∧ IWr W0 W w' g (immS J (minK sz)).2) := Lib.hid (fun W hW => sImmC g (minK sz) sz J W0 W hW (okK hs).1 (okK hs).2)
  have CM (hmd : m / 64 ≠ 3) : Hid (∀ W, IAt W0 W g I → Calls Tryd.prog 88 #[.pointer (some ⟨g, 0, none⟩), .int .i64 ((m / 64 : Nat) : Int), .int .i64 ((m % 8 : Nat) : Int)] W fun e w' => e = .returned (V7 (memS I (m / 64) (m % 8)).1) ∧ IWr W0 W w' g (memS I (m / 64) (m % 8)).2) := Lib.hid (fun W hW => sMemC g (m / 64) (m % 8) I W0 W hW (by omega) (by omega))
  have COs (p : Opd) (hs : srcOp op) : Hid (∀ W, Calls Tryd.prog 90 #[.agg (insV ⟨op, sz, cd, fr, noOpd, noOpd, ln⟩), V7 p] W fun e w' => e = .returned (.agg (insV ⟨op, sz, cd, fr, noOpd, p, ln⟩)) ∧ Below W.heap.size W w') := Lib.hid (fun W => sOneSrc ⟨op, sz, cd, fr, noOpd, noOpd, ln⟩ p W hs)
  have COd (p : Opd) (hs : ¬ srcOp op) : Hid (∀ W, Calls Tryd.prog 90 #[.agg (insV ⟨op, sz, cd, fr, noOpd, noOpd, ln⟩), V7 p] W fun e w' => e = .returned (.agg (insV ⟨op, sz, cd, fr, p, noOpd, ln⟩)) ∧ Below W.heap.size W w') := Lib.hid (fun W => sOneDst ⟨op, sz, cd, fr, noOpd, noOpd, ln⟩ p W hs)
  have hB0 : m % 8 + extB I.x 0 < 4096 := by omega
  have hB2 : m / 8 % 8 + extB I.x 2 < 4096 := by omega
  by_cases h17 : z.f = 17
  · rw [if_pos h17]
    by_cases h3 : m / 64 = 3
    · rw [place_reg I _ _ _ h3]
      exact md_17 g m _ _ I _ op sz cd fr ln z _ _ W0 w h hm h17 _ hE rfl _ hE0 rfl C2 (CR _ _ hB2) C0 (fun _ => CR _ _ hB0) (fun _ => rfl) (fun e => absurd h3 e) (CI1 _) (fun e => CIS _ (hz e)) (CB _) (COs _) (COd _)
    · rw [place_mem I _ _ _ h3]
      exact md_17 g m _ _ I _ op sz cd fr ln z _ _ W0 w h hm h17 _ hE rfl _ hE0 rfl C2 (CR _ _ hB2) C0 (fun e => absurd e h3) (fun e => absurd e h3) CM (CI1 _) (fun e => CIS _ (hz e)) (CB _) (COs _) (COd _)
  · rw [if_neg h17]
    have hf8 : z.f = 1 ∨ z.f = 2 ∨ z.f = 4 ∨ z.f = 5 ∨ z.f = 6 ∨ z.f = 11 ∨ z.f = 12 ∨ z.f = 13 := by unfold hasM at hf; omega
    by_cases h3 : m / 64 = 3
    · rw [place_reg I _ _ _ h3]
      exact md_x g m _ _ I _ op sz cd fr ln z _ _ W0 w h hm hf8 _ hE rfl _ hE0 rfl C2 (CR _ _ hB2) C0 (fun _ => CR _ _ hB0) (fun _ => rfl) (fun e => absurd h3 e) (CI1 _) (fun e => CIS _ (hz e)) (CB _) (COs _) (COd _)
    · rw [place_mem I _ _ _ h3]
      exact md_x g m _ _ I _ op sz cd fr ln z _ _ W0 w h hm hf8 _ hE rfl _ hE0 rfl C2 (CR _ _ hB2) C0 (fun e => absurd e h3) (fun e => absurd e h3) CM (CI1 _) (fun e => CIS _ (hz e)) (CB _) (COs _) (COd _)
theorem plainC (g b : Nat) (I : In) (op sz cd fr ln : Int) (z : Shp) (W0 w : World) (h : IAt W0 w g I) (hb : b < 256) (hf : z.f = 3 ∨ z.f = 7 ∨ z.f = 8 ∨ z.f = 9 ∨ z.f = 10 ∨ z.f = 14 ∨ z.f = 15 ∨ z.f = 16) (hz : z.f = 3 ∨ z.f = 5 ∨ z.f = 8 → okSize sz) :
    Calls Tryd.prog 54 #[.pointer (some ⟨g, 0, none⟩), .agg (insV ⟨op, sz, cd, fr, noOpd, noOpd, ln⟩), shpV z, .int .i64 (b : Int)] w fun e w' => e = .returned (.agg (insV ⟨op, sz, cd, fr, (plS I z.f op sz b).1.1, (plS I z.f op sz b).1.2, ln⟩)) ∧ IWr W0 w w' g (plS I z.f op sz b).2 := by
  have hE0 := extB_le I.x 0
  have C0 : Hid (∀ W, IAt W0 W g I → Calls Tryd.prog 87 #[.pointer (some ⟨g, 0, none⟩), .int .i64 0] W fun e w' => e = .returned (.int .i64 (extB I.x 0 : Int)) ∧ W = w') := Lib.hid (fun W hW => sExtC g 0 I W0 W hW (by decide))
  have CR : Hid (∀ W, IAt W0 W g I → Calls Tryd.prog 86 #[.pointer (some ⟨g, 0, none⟩), .int .i64 ((b % 8 + extB I.x 0 : Nat) : Int), .int .i64 sz] W fun e w' => e = .returned (V7 (bReg (b % 8 + extB I.x 0) sz I.x)) ∧ Below W.heap.size W w') := Lib.hid (fun W hW => sRegC g _ sz I W0 W hW (by omega))
  have CN (hs : okSize sz) : Hid (∀ W, IAt W0 W g I → Calls Tryd.prog 83 #[.pointer (some ⟨g, 0, none⟩), .int .i64 sz] W fun e w' => e = .returned (.int .i64 (numV I sz.toNat)) ∧ IWr W0 W w' g (immS I sz.toNat).2) := Lib.hid (fun W hW => by
    have := numC g sz.toNat I W0 W hW (okN hs).2
    rw [← (okN hs).1] at this
    exact this)
  have CI1 : Hid (∀ W, IAt W0 W g I → Calls Tryd.prog 89 #[.pointer (some ⟨g, 0, none⟩), .int .i64 1] W fun e w' => e = .returned (V7 (immS I 1).1) ∧ IWr W0 W w' g (immS I 1).2) := Lib.hid (fun W hW => sImmC g 1 1 I W0 W hW rfl ok1)
  have CI4 : Hid (∀ W, IAt W0 W g I → Calls Tryd.prog 89 #[.pointer (some ⟨g, 0, none⟩), .int .i64 4] W fun e w' => e = .returned (V7 (immS I 4).1) ∧ IWr W0 W w' g (immS I 4).2) := Lib.hid (fun W hW => sImmC g 4 4 I W0 W hW rfl ok4')
  have CIS (hs : okSize sz) : Hid (∀ W, IAt W0 W g I → Calls Tryd.prog 89 #[.pointer (some ⟨g, 0, none⟩), .int .i64 sz] W fun e w' => e = .returned (V7 (immS I (minK sz)).1) ∧ IWr W0 W w' g (immS I (minK sz)).2) := Lib.hid (fun W hW => sImmC g (minK sz) sz I W0 W hW (okK hs).1 (okK hs).2)
  exact pl_x g b _ _ I op sz cd fr ln z W0 w h hb rfl rfl hf C0 CR (fun e => CN (hz (.inr (.inr e)))) (fun e => CIS (hz (e.elim .inl (fun e => .inr (.inl e))))) CI1 CI4 (Lib.hid fun W => (zerV I W).mono fun e w' q => q)
/-- the callers' view: an answer as a pair -/
def AnsOut (r : Array Value × Int) (w : World) (e : Ending) (w' : World) : Prop := e = .returned (.tuple #[.agg r.1, .int .i64 r.2]) ∧ Below w.heap.size w w'
theorem cd_eq (op : Int) (b : Nat) : condD op b = if op = 33 ∨ op = 35 ∨ op = 36 then ((b : Nat) : Int) % 16 else 0 := by
  unfold condD; split <;> omega
theorem fit_plain {z : Shp} {op : Int} (T : TabOk z op) (hm : ¬ hasM z.f) : z.f = 3 ∨ z.f = 7 ∨ z.f = 8 ∨ z.f = 9 ∨ z.f = 10 ∨ z.f = 14 ∨ z.f = 15 ∨ z.f = 16 := by
  have h := T.1
  unfold hasM at hm
  omega
theorem size_tab {z : Shp} {op : Int} (R : Rd) (T : TabOk z op) (ho : R.op = op) (hy : R.z.y = z.y) (h : z.f = 3 ∨ z.f = 5 ∨ z.f = 8) : okSize (sizeV R) := size_ok ho hy (T.2.2.2.1 h)
theorem size_ten (R : Rd) (ho : R.op = 10) : okSize (sizeV R) := size_ok (op := 10) ho rfl (by decide)
theorem tabNe1 : ∀ p, p < 256 → (shape1 p).f ≠ 0 → (shape1 p).g = 0 → (shape1 p).o ≠ 0 := by decide +kernel
theorem tabNe2 : ∀ p, p < 256 → (shape2 p).f ≠ 0 → (shape2 p).g = 0 → (shape2 p).o ≠ 0 := by decide +kernel
theorem tabNe (t : Bool) (b : Nat) (hb : b < 256) (h : (shapeD t b).f ≠ 0) (hg : (shapeD t b).g = 0) : (shapeD t b).o ≠ 0 := by
  cases t
  · exact tabNe1 b hb h hg
  · exact tabNe2 b hb h hg
section
variable (s : ByteArray) (n b n2 x : Nat) (wd : Bool) (z : Shp) (w : World) (hs : s.size ≤ 65536) (hn : n ≤ s.size) (hb : b < 256) (hle : n ≤ n2)
  (C : Hid (∀ W, IAt w W (w.heap.size + 1) ⟨s, n, 0, false, 0⟩ → Calls Tryd.prog 46 #[.pointer (some ⟨w.heap.size + 1, 0, none⟩)] W fun e w' => e = .returned (.tuple #[shpV z, .int .i64 (b : Int)]) ∧ IWr w W w' (w.heap.size + 1) ⟨s, n2, x, wd, 0⟩))
include hs hn hb hle C
theorem l04mod (m : Nat) (op : Int) (hm8 : m < 256) (hn2 : n2 + 1 ≤ s.size) (hM : hasM z.f) (T : TabOk z op)
    (KB : ∀ W, IAt w W (w.heap.size + 1) ⟨s, n2, x, wd, 0⟩ → Calls Tryd.prog 48 #[.pointer (some ⟨w.heap.size + 1, 0, none⟩)] W fun e w' => e = .returned (.int .i64 (m : Int)) ∧ IWr w W w' (w.heap.size + 1) ⟨s, n2 + 1, x, wd, 0⟩)
    (KG : z.g > 0 → Hid (∀ W, Calls Tryd.prog 49 #[.int .i64 z.g, .int .i64 ((m / 8 % 8 : Nat) : Int)] W fun e w' => e = .returned (.int .i64 op) ∧ Below W.heap.size W w'))
    (HG : (z.g = 0 ∧ op = z.o) ∨ 0 < z.g) (h0 : op ≠ 0) :
    Calls Tryd.prog 31 #[.string s, .int .i64 (n : Int)] w (AnsOut (resD n (tailD ⟨s, n2 + 1, wd, x, b, z, m / 64, m / 8 % 8, m % 8, op, 0, 0, 0, noOpd, noOpd, 0⟩)) w) := by
  obtain ⟨R3, hR3⟩ : ∃ R3 : Rd, R3 = ⟨s, n2 + 1, wd, x, b, z, m / 64, m / 8 % 8, m % 8, op, 0, 0, 0, noOpd, noOpd, 0⟩ := ⟨_, rfl⟩
  obtain ⟨sz, hsz⟩ : ∃ sz, sz = sizeV R3 := ⟨_, rfl⟩
  have hz5 : z.f = 5 ∨ op = 10 → okSize sz := fun e => by
    rw [hsz]
    exact e.elim (fun e => size_tab R3 T (by rw [hR3]) (by rw [hR3]) (.inr (.inl e))) (fun e => size_ten R3 (by rw [hR3]; exact e))
  have hMo := mrS_mo ⟨s, n2 + 1, x, wd, 0⟩ z.f op sz z.r (m / 64) (m / 8 % 8) (m % 8)
  have key : l4Res ⟨s, n2 + 1, x, wd, 0⟩ (mrS ⟨s, n2 + 1, x, wd, 0⟩ z.f op sz z.r (m / 64) (m / 8 % 8) (m % 8)).2 op sz (condD op b) z.r (((mrS ⟨s, n2 + 1, x, wd, 0⟩ z.f op sz z.r (m / 64) (m / 8 % 8) (m % 8)).2.n : Int) - n) m (mrS ⟨s, n2 + 1, x, wd, 0⟩ z.f op sz z.r (m / 64) (m / 8 % 8) (m % 8)).1.1 (mrS ⟨s, n2 + 1, x, wd, 0⟩ z.f op sz z.r (m / 64) (m / 8 % 8) (m % 8)).1.2 (suitB z op sz wd) = resD n (tailD R3) := by
    rw [hsz, hR3]
    exact tail_eq ⟨s, n2 + 1, wd, x, b, z, m / 64, m / 8 % 8, m % 8, op, 0, 0, 0, noOpd, noOpd, 0⟩ n m ⟨s, n2 + 1, x, wd, 0⟩ _ _ _ rfl rfl (mrS_ok (I := ⟨s, n2 + 1, x, wd, 0⟩) (b := b) rfl hn2 hM)
  have CS : Hid (∀ W, IAt w W (w.heap.size + 1) ⟨s, n2 + 1, x, wd, 0⟩ → Calls Tryd.prog 51 #[.pointer (some ⟨w.heap.size + 1, 0, none⟩), shpV z, .int .i64 op] W fun e w' => e = .returned (.int .i64 sz) ∧ Below W.heap.size W w') := Lib.hid (fun W hW => by
    have := sSizeC (w.heap.size + 1) ⟨s, n2 + 1, x, wd, 0⟩ z op w W hW
    rw [show sizeW ⟨s, n2 + 1, x, wd, 0⟩ z op = sz from by rw [hsz, hR3]; rfl] at this
    exact this)
  have CU : Hid (∀ W, Calls Tryd.prog 52 #[.agg (insV ⟨op, sz, 0, z.r, noOpd, noOpd, 0⟩), shpV z, .bool wd] W fun e w' => e = .returned (.bool (suitB z op sz wd)) ∧ Below W.heap.size W w') := Lib.hid (fun W => sSuitsC z op sz 0 z.r 0 noOpd noOpd wd W)
  have CH : Hid (∀ W, Calls Tryd.prog 47 #[.int .i64 z.f] W fun e w' => e = .returned (.bool true) ∧ W = w') := Lib.hid (fun W => (sHasMYes z.f W hM).mono fun e w' q => ⟨q.1, q.2.symm⟩)
  rw [← hR3, ← key]
  exact dcBody s n b m (m / 8 % 8) z ⟨s, n2, x, wd, 0⟩ ⟨s, n2 + 1, x, wd, 0⟩ ⟨s, n2 + 1, x, wd, 0⟩ _ true _ op sz _ _ _ w hs hn rfl hm8 hb rfl
    (by have := hMo.2.1; simp only at this; omega) (by have := hMo.2.2 hn2; simp only at this; omega) C CH (fun _ => Lib.hid KB) (fun _ _ h => KG h) (fun _ _ _ h => absurd h h0)
    (HG.elim (fun h => .inr (.inr (.inl ⟨rfl, rfl, by rw [h.1]; rfl, h.2, rfl⟩))) (fun h => .inr (.inr (.inr (.inl ⟨rfl, rfl, decide_eq_true h, beq_eq_false_iff_ne.mpr h0, rfl⟩)))))
    CS CU (cd_eq _ _) (fun _ _ => Lib.hid fun W hW => modrmC (w.heap.size + 1) m _ op sz _ z.r 0 z w W hW hm8 hM hz5) (fun h => by cases h)
theorem l04no (hn2 : n2 ≤ s.size) (hM : ¬ hasM z.f) (T : TabOk z z.o) :
    Calls Tryd.prog 31 #[.string s, .int .i64 (n : Int)] w (AnsOut (resD n (tailD ⟨s, n2, wd, x, b, z, 0, 0, 0, z.o, 0, 0, 0, noOpd, noOpd, 0⟩)) w) := by
  obtain ⟨R3, hR3⟩ : ∃ R3 : Rd, R3 = ⟨s, n2, wd, x, b, z, 0, 0, 0, z.o, 0, 0, 0, noOpd, noOpd, 0⟩ := ⟨_, rfl⟩
  obtain ⟨sz, hsz⟩ : ∃ sz, sz = sizeV R3 := ⟨_, rfl⟩
  have hz5 : z.f = 3 ∨ z.f = 5 ∨ z.f = 8 → okSize sz := fun e => by
    rw [hsz]; exact size_tab R3 T (by rw [hR3]) (by rw [hR3]) e
  have hMo := plS_mo ⟨s, n2, x, wd, 0⟩ z.f z.o sz b
  have key : l4Res ⟨s, n2, x, wd, 0⟩ (plS ⟨s, n2, x, wd, 0⟩ z.f z.o sz b).2 z.o sz (condD z.o b) z.r (((plS ⟨s, n2, x, wd, 0⟩ z.f z.o sz b).2.n : Int) - n) 0 (plS ⟨s, n2, x, wd, 0⟩ z.f z.o sz b).1.1 (plS ⟨s, n2, x, wd, 0⟩ z.f z.o sz b).1.2 (suitB z z.o sz wd) = resD n (tailD R3) := by
    rw [hsz, hR3]
    exact tail_eq ⟨s, n2, wd, x, b, z, 0, 0, 0, z.o, 0, 0, 0, noOpd, noOpd, 0⟩ n 0 ⟨s, n2, x, wd, 0⟩ _ _ _ rfl rfl (plS_ok (I := ⟨s, n2, x, wd, 0⟩) (b := b) rfl hn2 hM)
  have CS : Hid (∀ W, IAt w W (w.heap.size + 1) ⟨s, n2, x, wd, 0⟩ → Calls Tryd.prog 51 #[.pointer (some ⟨w.heap.size + 1, 0, none⟩), shpV z, .int .i64 z.o] W fun e w' => e = .returned (.int .i64 sz) ∧ Below W.heap.size W w') := Lib.hid (fun W hW => by
    have := sSizeC (w.heap.size + 1) ⟨s, n2, x, wd, 0⟩ z z.o w W hW
    rw [show sizeW ⟨s, n2, x, wd, 0⟩ z z.o = sz from by rw [hsz, hR3]; rfl] at this
    exact this)
  have CU : Hid (∀ W, Calls Tryd.prog 52 #[.agg (insV ⟨z.o, sz, 0, z.r, noOpd, noOpd, 0⟩), shpV z, .bool wd] W fun e w' => e = .returned (.bool (suitB z z.o sz wd)) ∧ Below W.heap.size W w') := Lib.hid (fun W => sSuitsC z z.o sz 0 z.r 0 noOpd noOpd wd W)
  have CH : Hid (∀ W, Calls Tryd.prog 47 #[.int .i64 z.f] W fun e w' => e = .returned (.bool false) ∧ W = w') := Lib.hid (fun W => (sHasMNo z.f W hM).mono fun e w' q => ⟨q.1, q.2.symm⟩)
  rw [← hR3, ← key]
  exact dcBody s n b 0 0 z ⟨s, n2, x, wd, 0⟩ ⟨s, n2, x, wd, 0⟩ ⟨s, n2, x, wd, 0⟩ _ false _ z.o sz _ _ _ w hs hn rfl (by decide) hb rfl
    (by have := hMo.2.1; simp only at this; omega) (by have := hMo.2.2 hn2; simp only at this; omega) C CH (fun h => by cases h) (fun h => by cases h) (fun h => by cases h)
    (.inl ⟨rfl, rfl, rfl, rfl⟩)
    CS CU (cd_eq _ _) (fun h => by cases h) (fun _ _ => Lib.hid fun W hW => plainC (w.heap.size + 1) b _ z.o sz _ z.r 0 z w W hW hb (fit_plain T hM) hz5)
theorem l04bad (m n3 : Nat) (op c c1 : Int) (hm8 : m < 256) (hle3 : n ≤ n3) (hn3 : n3 ≤ s.size) (hM : hasM z.f) (hc : c ≠ 0)
    (KB : ∀ W, IAt w W (w.heap.size + 1) ⟨s, n2, x, wd, 0⟩ → Calls Tryd.prog 48 #[.pointer (some ⟨w.heap.size + 1, 0, none⟩)] W fun e w' => e = .returned (.int .i64 (m : Int)) ∧ IWr w W w' (w.heap.size + 1) ⟨s, n3, x, wd, c1⟩)
    (KG : c1 = 0 → z.g > 0 → Hid (∀ W, Calls Tryd.prog 49 #[.int .i64 z.g, .int .i64 ((m / 8 % 8 : Nat) : Int)] W fun e w' => e = .returned (.int .i64 op) ∧ Below W.heap.size W w'))
    (HG : (c1 = c ∧ op = z.o) ∨ (c1 = 0 ∧ 0 < z.g ∧ op = 0 ∧ c = 11)) :
    Calls Tryd.prog 31 #[.string s, .int .i64 (n : Int)] w (AnsOut (zIns, c) w) := by
  have _h := hle
  have CS : Hid (∀ W, IAt w W (w.heap.size + 1) ⟨s, n3, x, wd, c⟩ → Calls Tryd.prog 51 #[.pointer (some ⟨w.heap.size + 1, 0, none⟩), shpV z, .int .i64 op] W fun e w' => e = .returned (.int .i64 (sizeW ⟨s, n3, x, wd, c⟩ z op)) ∧ Below W.heap.size W w') := Lib.hid (fun W hW => sSizeC (w.heap.size + 1) ⟨s, n3, x, wd, c⟩ z op w W hW)
  obtain ⟨sz, hsz⟩ : ∃ sz, sz = sizeW ⟨s, n3, x, wd, c⟩ z op := ⟨_, rfl⟩
  rw [← hsz] at CS
  have CU : Hid (∀ W, Calls Tryd.prog 52 #[.agg (insV ⟨op, sz, 0, z.r, noOpd, noOpd, 0⟩), shpV z, .bool wd] W fun e w' => e = .returned (.bool (suitB z op sz wd)) ∧ Below W.heap.size W w') := Lib.hid (fun W => sSuitsC z op sz 0 z.r 0 noOpd noOpd wd W)
  have CH : Hid (∀ W, Calls Tryd.prog 47 #[.int .i64 z.f] W fun e w' => e = .returned (.bool true) ∧ W = w') := Lib.hid (fun W => (sHasMYes z.f W hM).mono fun e w' q => ⟨q.1, q.2.symm⟩)
  have key : l4Res ⟨s, n3, x, wd, c⟩ ⟨s, n3, x, wd, c⟩ op sz (condD op b) z.r ((n3 : Int) - n) m noOpd noOpd (suitB z op sz wd) = (zIns, c) := l4a hc
  have KF : c1 = 0 → c = 11 → Hid (∀ W, IAt w W (w.heap.size + 1) ⟨s, n3, x, wd, c1⟩ → Calls Tryd.prog 50 #[.pointer (some ⟨w.heap.size + 1, 0, none⟩), .int .i64 11] W fun e w' => e = .returned (.tuple #[]) ∧ IWr w W w' (w.heap.size + 1) ⟨s, n3, x, wd, c⟩) := fun e1 e2 => by rw [e1, e2]; exact fOk _ _ _ _ _ _ _
  rw [← key]
  exact dcBody s n b m (m / 8 % 8) z ⟨s, n2, x, wd, 0⟩ ⟨s, n3, x, wd, c1⟩ ⟨s, n3, x, wd, c⟩ ⟨s, n3, x, wd, c⟩ true _ op sz _ _ _ w hs hn rfl hm8 hb rfl
    (by simp only; omega) (by simp only; omega) C CH (fun _ => Lib.hid KB) (fun _ h0 h => KG (beq_iff_eq.mp h0) h)
    (fun _ h0 _ _ => HG.elim (fun h => absurd (h.1.symm.trans (beq_iff_eq.mp h0)) hc) (fun h => KF h.1 h.2.2.2))
    (HG.elim (fun h => .inr (.inl ⟨rfl, beq_eq_false_iff_ne.mpr (by rw [h.1]; exact hc), h.2, by rw [h.1]⟩)) (fun h => .inr (.inr (.inr (.inr ⟨rfl, by rw [h.1]; rfl, decide_eq_true h.2.1, h.2.2.1⟩)))))
    CS CU (cd_eq _ _) (fun _ h => absurd h hc) (fun _ h => absurd h hc)
end
set_option maxHeartbeats 1000000 in
theorem l04C (s : ByteArray) (n : Nat) (w : World) (hs : s.size ≤ 65536) (hn : n ≤ s.size) :
    Calls Tryd.prog 31 #[.string s, .int .i64 (n : Int)] w (AnsOut (decD s n) w) := by
  obtain ⟨z, b, I1, hr, hb, C⟩ := headC (w.heap.size + 1) n s w
  unfold HdRel at hr
  cases hp : prefD s n with
  | error c =>
    rw [hp] at hr; simp only at hr
    obtain ⟨hc, hc0⟩ := hr
    have e : decD s n = (zIns, c) := by rw [decD_eq, readD_p (start_p hp)]; rfl
    rw [e, ← hc]
    exact dcErr s n b z I1 w hs hn (by rw [hc]; exact hc0) (Lib.hid C)
  | ok q =>
    obtain ⟨wd, x, n1⟩ := q
    rw [hp] at hr; simp only at hr
    have hP := prefD_ok hp
    have h1 := start_p' hp
    cases ho : opcD s n1 with
    | error c =>
      rw [ho] at hr; simp only at hr
      obtain ⟨hc, hc0⟩ := hr
      have e : decD s n = (zIns, c) := by rw [decD_eq, readD_o h1 (start_o ho)]; rfl
      rw [e, ← hc]
      exact dcErr s n b z I1 w hs hn (by rw [hc]; exact hc0) (Lib.hid C)
    | ok q2 =>
      obtain ⟨b', z', n2⟩ := q2
      rw [ho] at hr; simp only at hr
      obtain ⟨rfl, rfl, rfl⟩ := hr
      obtain ⟨hO1, hO2, hf0, t, hzt⟩ := opcD_ok ho
      have h2 := start_o' (wd := wd) (x := x) ho
      have hle : n ≤ n2 := by omega
      have T (j : Nat) (hj : j < 8) : TabOk z (opAt z j) := by rw [hzt]; exact tabOk t b j hb hj (by rw [← hzt]; exact hf0)
      have hgr := (T 0 (by decide)).2.2.2.2.1
      by_cases hm : hasM z.f
      · have KB := fun W hW => byteC (w.heap.size + 1) ⟨s, n2, x, wd, 0⟩ w W hW
        by_cases hn2 : n2 + 1 ≤ s.size
        · have eb : byteV ⟨s, n2, x, wd, 0⟩ = nb s n2 := by unfold byteV; rw [if_pos rfl, if_pos hn2]
          have eI : numI ⟨s, n2, x, wd, 0⟩ 1 = ⟨s, n2 + 1, x, wd, 0⟩ := by unfold numI; rw [if_pos rfl, if_pos hn2]
          rw [eb, eI] at KB
          have hm8 := nb_lt s n2
          by_cases hg : z.g = 0
          · have h3 := start_m0 (s := s) (n2 := n2) (x := x) (b := b) (wd := wd) hm hn2 hg
            have T0 := T 0 (by decide)
            rw [show opAt z 0 = z.o from by unfold opAt; rw [if_pos hg]] at T0
            rw [decD_eq, readD_t h1 h2 h3]
            exact l04mod s n b n2 x wd z w hs hn hb hle (Lib.hid C) _ z.o hm8 hn2 hm T0 KB (fun h => absurd hg (by omega)) (.inl ⟨hg, rfl⟩) (by rw [hzt]; exact tabNe t b hb (by rw [← hzt]; exact hf0) (by rw [← hzt]; exact hg))
          · obtain ⟨i, hi, hi7⟩ : ∃ i : Nat, z.g = (i : Int) + 1 ∧ i < 7 := ⟨(z.g - 1).toNat, by omega, by omega⟩
            have eG : (z.g - 1).toNat = i := by omega
            have T0 := T (nb s n2 / 8 % 8) (by omega)
            rw [show opAt z (nb s n2 / 8 % 8) = grp i (nb s n2 / 8 % 8) from by unfold opAt; rw [if_neg hg, eG]] at T0
            have KG : Hid (∀ W, Calls Tryd.prog 49 #[.int .i64 z.g, .int .i64 ((nb s n2 / 8 % 8 : Nat) : Int)] W fun e w' => e = .returned (.int .i64 (grp i (nb s n2 / 8 % 8))) ∧ Below W.heap.size W w') := Lib.hid (fun W => by rw [hi]; exact l03GroupC i _ W hi7 (by omega))
            by_cases hop : grp i (nb s n2 / 8 % 8) = 0
            · have h3 := start_m11 (s := s) (n2 := n2) (x := x) (b := b) (wd := wd) hm hn2 hg (by rw [eG]; exact hop)
              rw [decD_eq, readD_m h1 h2 h3]
              exact l04bad s n b n2 x wd z w hs hn hb hle (Lib.hid C) _ (n2 + 1) _ 11 0 hm8 (by omega) hn2 hm (by decide) KB (fun _ _ => KG) (.inr ⟨rfl, by omega, hop, rfl⟩)
            · have h3 := start_mg (s := s) (n2 := n2) (x := x) (b := b) (wd := wd) hm hn2 hg (by rw [eG]; exact hop)
              rw [decD_eq, readD_t h1 h2 h3, eG]
              exact l04mod s n b n2 x wd z w hs hn hb hle (Lib.hid C) _ _ hm8 hn2 hm T0 KB (fun _ => KG) (.inr (by omega)) hop
        · have eb : byteV ⟨s, n2, x, wd, 0⟩ = 0 := by unfold byteV; rw [if_pos rfl, if_neg hn2]
          have eI : numI ⟨s, n2, x, wd, 0⟩ 1 = ⟨s, n2, x, wd, 9⟩ := by unfold numI; rw [if_pos rfl, if_neg hn2]
          rw [eb, eI] at KB
          have h3 := start_m9 (s := s) (n2 := n2) (x := x) (b := b) (wd := wd) hm hn2
          rw [decD_eq, readD_m h1 h2 h3]
          exact l04bad s n b n2 x wd z w hs hn hb hle (Lib.hid C) 0 n2 z.o 9 9 (by decide) hle hO2 hm (by decide) KB (fun h => by cases h) (.inl ⟨rfl, rfl⟩)
      · have h3 := start_mn (s := s) (n2 := n2) (x := x) (b := b) (wd := wd) hm
        have hg : z.g = 0 := Classical.byContradiction fun hg => hm ((T 0 (by decide)).2.2.2.2.2 hg)
        have T0 := T 0 (by decide)
        rw [show opAt z 0 = z.o from by unfold opAt; rw [if_pos hg]] at T0
        rw [decD_eq, readD_t h1 h2 h3]
        exact l04no s n b n2 x wd z w hs hn hb hle (Lib.hid C) hO2 hm T0
end Go.Proofs.YtinjpobepcenfaaDoor
namespace Go.Proofs.YtinjpobepcenfaaDoor
open Go.RowKit Go.Sort
set_option linter.unusedVariables false
set_option maxHeartbeats 1000000 in
theorem decI (s : ByteArray) (n : Int) (w : World) (aE aR : Addr) (hm : s.size ≤ maxLen) (hsn : Sent w aE aR) (hA : Ari w 7) (hG : Grps w 6) :
    Calls Tryd.prog 12 #[.string s, .int .i64 n] w (AnsOut (decW s n) w) := by
  by_cases hs : 65536 < s.size
  · rw [decW_long hs]; exact decLong s n w hs hm
  · have hs' : s.size ≤ 65536 := by omega
    by_cases h0 : n < 0
    · rw [decW_low hs' h0]; exact decLow s n w hs' h0
    · by_cases h1 : (s.size : Int) < n
      · rw [decW_high hs' (by omega) h1]; exact decHigh s n w hs' (by omega) h1
      · obtain ⟨k, rfl⟩ : ∃ k : Nat, n = (k : Int) := ⟨n.toNat, by omega⟩
        have hk : k ≤ s.size := by omega
        rw [decW_in hs' hk]
        have K := readC (w.heap.size + 2) (start s k) w _ aE aR hsn hA hG (start_at s k w hs' hk) (start_fresh s k)
        rw [decD_eq]
        cases hr : readD (start s k) with
        | error c =>
          rw [hr] at K
          have hc := readD_err hr
          by_cases h9 : c = 9
          · subst h9
            exact decEnd s k w hs' hk (Lib.hid (K.mono fun e w' q => at_end q))
          · exact decErr s k c hc w hs' hk (Lib.hid (K.mono fun e w' q => at_bad h9 q))
        | ok R =>
          rw [hr] at K
          exact decOk s k R w hs' hk (by have := readD_n hk hr; omega) (Lib.hid (K.mono fun e w' q => q))
end Go.Proofs.YtinjpobepcenfaaDoor
namespace Go.Proofs.YtinjpobepcenfaaDoor
open Go.RowKit Go.Sort
set_option linter.unusedVariables false
set_option maxRecDepth 100000 in
set_option maxHeartbeats 2000000 in
theorem decSin (s : ByteArray) (n : Int) (x : Ins) (c : Int) (w : World) (hs : s.size ≤ 65536) (h0 : 0 ≤ n) (h1 : n ≤ s.size)
    (C : Hid (∀ W, Calls Tryd.prog 31 #[.string s, .int .i64 n] W fun e w' => e = .returned (.tuple #[.agg (insV x), .int .i64 c]) ∧ Below W.heap.size W w')) :
    Calls Tryd.prog 11 #[.string s, .int .i64 n] w fun e w' => e = .returned (.tuple #[.agg (insV x), .int .i64 c]) ∧ Below w.heap.size w w' := by
  obtain ⟨v, hv⟩ : ∃ v, v = insV x := ⟨_, rfl⟩
  have H1 : Hid (v.all (·.oneCell') = true) := Lib.hid (by rw [hv]; exact insV_one x)
  have HZ : Hid (some (19 : Nat) = some v.size) := Lib.hid (by rw [hv]; rfl)
  rw [← hv] at C ⊢
  have hs' : (s.size : Int) ≤ 65536 := by omega
  have Z0 := Lib.hid (heap_alloc_new w (.cells zIns 29))
  clear hv hs
  go_enter Tryd.func11, Tryd.ntmps11
  go_wp2_with fail
  refine (C.out _).mono ?_
  rintro e w1 ⟨rfl, hb1⟩
  have Z1 := Lib.hid ((hb1.block _ (by simp)).trans Z0.out)
  have B0 := ((Below.refl w.heap.size w).alloc (Nat.le_refl _) (.cells zIns 29)).trans (hb1.mono (by simp))
  have B1 := Lib.hid (below_setRowB (cs := v) B0 (Nat.le_refl _))
  have R1 := Lib.hid (setRow_heap _ _ _ v _ _ Z1.out)
  clear hb1 B0
  go_wp2_with (refine wpList_store_row rfl 29 (.tmp 4) (.tmp 22) rfl w.heap.size v rfl rfl 29 _ Z1.out (by rw [← HZ.out]; kernel_rfl) (by have := HZ.out; simp at this; exact this) H1.out ?_)
  refine bodyPost_ret (v := .tuple #[.agg v, .int .i64 c]) (by exact results_cell_row2 Tryd.results11 _ _ w.heap.size 29 v (0, 0) _ rfl R1.out Tryd.underlying29 rfl (by rw [← HZ.out]; kernel_rfl)) (by rfl) ⟨rfl, B1.out⟩
set_option maxRecDepth 100000 in
set_option maxHeartbeats 2000000 in
theorem decSlong (s : ByteArray) (n : Int) (w : World) (hs : 65536 < s.size) (hm : s.size ≤ maxLen) :
    Calls Tryd.prog 11 #[.string s, .int .i64 n] w (AnsOut (zIns, 2) w) := by
  unfold maxLen at hm
  have hs' : (65536 : Int) < s.size := by omega
  have Z0 := Lib.hid (heap_alloc_new w (.cells zIns 29))
  have R1 := Lib.hid (setRow_heap _ _ _ zIns _ _ Z0.out)
  have B1 := Lib.hid (below_setRowB (cs := zIns) ((Below.refl w.heap.size w).alloc (Nat.le_refl _) (.cells zIns 29)) (Nat.le_refl _))
  clear hs
  go_enter Tryd.func11, Tryd.ntmps11
  go_wp2_with (refine wpList_store_row rfl 29 (.tmp 4) (.tmp 9) rfl w.heap.size zIns rfl rfl 29 _ Z0.out (by kernel_rfl) rfl (insV_one ⟨0, 0, 0, 0, noOpd, noOpd, 0⟩) ?_)
  refine bodyPost_ret (v := .tuple #[.agg zIns, .int .i64 2]) (by exact results_cell_row2 Tryd.results11 _ _ w.heap.size 29 zIns (0, 0) _ rfl R1.out Tryd.underlying29 rfl (by kernel_rfl)) (by rfl) ⟨rfl, B1.out⟩
set_option maxRecDepth 100000 in
set_option maxHeartbeats 2000000 in
theorem decSout (s : ByteArray) (n : Int) (w : World) (hs : s.size ≤ 65536) (h : n < 0 ∨ s.size < n) :
    Calls Tryd.prog 11 #[.string s, .int .i64 n] w (AnsOut (zIns, 4) w) := by
  have hs' : (s.size : Int) ≤ 65536 := by omega
  have Z0 := Lib.hid (heap_alloc_new w (.cells zIns 29))
  have R1 := Lib.hid (setRow_heap _ _ _ zIns _ _ Z0.out)
  have B1 := Lib.hid (below_setRowB (cs := zIns) ((Below.refl w.heap.size w).alloc (Nat.le_refl _) (.cells zIns 29)) (Nat.le_refl _))
  clear hs
  have d1 : (decide (n < 0) = true) ∨ (decide (n < 0) = false ∧ decide ((s.size : Int) < n) = true) := by
    by_cases h0 : n < 0
    · exact .inl (decide_eq_true h0)
    · exact .inr ⟨decide_eq_false h0, decide_eq_true (h.resolve_left h0)⟩
  clear h
  rcases d1 with d1 | ⟨d1, d2⟩
  all_goals
    go_enter Tryd.func11, Tryd.ntmps11
    go_wp2_with (refine wpList_store_row rfl 29 (.tmp 4) (.tmp 18) rfl w.heap.size zIns rfl rfl 29 _ Z0.out (by kernel_rfl) rfl (insV_one ⟨0, 0, 0, 0, noOpd, noOpd, 0⟩) ?_)
    refine bodyPost_ret (v := .tuple #[.agg zIns, .int .i64 4]) (by exact results_cell_row2 Tryd.results11 _ _ w.heap.size 29 zIns (0, 0) _ rfl R1.out Tryd.underlying29 rfl (by kernel_rfl)) (by rfl) ⟨rfl, B1.out⟩
theorem decS (s : ByteArray) (n : Int) (w : World) (hm : s.size ≤ maxLen) :
    Calls Tryd.prog 11 #[.string s, .int .i64 n] w (AnsOut (decW s n) w) := by
  by_cases hs : 65536 < s.size
  · rw [decW_long hs]; exact decSlong s n w hs hm
  · have hs' : s.size ≤ 65536 := by omega
    by_cases h0 : n < 0
    · rw [decW_low hs' h0]; exact decSout s n w hs' (.inl h0)
    · by_cases h1 : (s.size : Int) < n
      · rw [decW_high hs' (by omega) h1]; exact decSout s n w hs' (.inr h1)
      · obtain ⟨k, rfl⟩ : ∃ k : Nat, n = (k : Int) := ⟨n.toNat, by omega⟩
        have hk : k ≤ s.size := by omega
        rw [decW_in hs' hk]
        obtain ⟨x, hx⟩ := decD_ins s k
        unfold AnsOut
        rw [hx]
        exact decSin s k x _ w hs' (by omega) (by omega) (Lib.hid fun W => by
          have := l04C s k W hs' hk
          unfold AnsOut at this
          rw [hx] at this
          exact this)
end Go.Proofs.YtinjpobepcenfaaDoor
namespace Go.Proofs.YtinjpobepcenfaaDoor
open Go.RowKit
theorem met_arith {W : World} {q : List (String × DataW Unit)} (hq : (q.filter fun x => x.1 == "loop.example/g00664/impl.arithShapes") = [("loop.example/g00664/impl.arithShapes", Rows.laid_loop_example_g00664_impl_arithShapes)]) (h : laidMetH Tryd.prog q W) : Ari W 7 := by
  have h1 := h.filter (fun x => x.1 == "loop.example/g00664/impl.arithShapes")
  rw [hq] at h1
  exact arithMet rfl h1
theorem met_groups {W : World} {q : List (String × DataW Unit)} (hq : (q.filter fun x => x.1 == "loop.example/g00664/impl.groupOps") = [("loop.example/g00664/impl.groupOps", Rows.laid_loop_example_g00664_impl_groupOps)]) (h : laidMetH Tryd.prog q W) : Grps W 6 := by
  have h1 := h.filter (fun x => x.1 == "loop.example/g00664/impl.groupOps")
  rw [hq] at h1
  exact groupsMet rfl h1
theorem met_sent {W : World} {q : List (String × DataW Unit)} (hq : (q.filter fun x => x.1 == "loop.example/g00664/impl.errRange" || x.1 == "loop.example/g00664/impl.errEnd") = [("loop.example/g00664/impl.errRange", Rows.laid_loop_example_g00664_impl_errRange), ("loop.example/g00664/impl.errEnd", Rows.laid_loop_example_g00664_impl_errEnd)]) (h : laidMetH Tryd.prog q W) : ∃ aE aR, Sent W aE aR := by
  have h1 := h.filter (fun x => x.1 == "loop.example/g00664/impl.errRange" || x.1 == "loop.example/g00664/impl.errEnd")
  rw [hq] at h1
  exact sent_of_laid rfl h1
end Go.Proofs.YtinjpobepcenfaaDoor
namespace Go.Proofs.YtinjpobepcenfaaDoor
open Go.RowKit Go.Sort
set_option linter.unusedVariables false
theorem two_kept {w w1 : World} {a b : Array Value} {t : TypeId} (h : Below ((w.alloc (.cells a t)).alloc (.cells b t)).heap.size ((w.alloc (.cells a t)).alloc (.cells b t)) w1) :
    w1.heap[w.heap.size]? = some (.cells a t (0, 0)) ∧ w1.heap[w.heap.size + 1]? = some (.cells b t (0, 0)) ∧ Below w.heap.size w w1 := by
  have e : (w.alloc (.cells a t)).heap.size = w.heap.size + 1 := by simp
  have h2 := heap_alloc_new (w.alloc (.cells a t)) (.cells b t)
  rw [e] at h2
  exact ⟨(h.block _ (by simp; omega)).trans ((Below.heap_alloc _ _ _ (by simp)).trans (heap_alloc_new w _)), (h.block _ (by simp)).trans h2, (((Below.refl _ _).alloc (Nat.le_refl _) _).alloc (by simp) _).trans (h.mono (by simp; omega))⟩
set_option maxHeartbeats 1000000 in
theorem eqOpdC (x : Opd) (w : World) : Calls Tryd.prog 34 #[V7 x, V7 x] w fun e w' => e = .returned (.bool true) ∧ Below w.heap.size w w' := by
  obtain ⟨k, r, b, i, s, d, m⟩ := x
  unfold V7
  go_enter Tryd.func34, Tryd.ntmps34
  go_wp2
  go_ret
  exact ⟨rfl, ((Below.refl _ _).alloc (Nat.le_refl _) _).alloc (by simp) _⟩
set_option maxRecDepth 100000 in
set_option maxHeartbeats 2000000 in
theorem eqInsC (x : Ins) (w : World) : Calls Tryd.prog 13 #[.agg (insV x), .agg (insV x)] w fun e w' => e = .returned (.bool true) ∧ Below w.heap.size w w' := by
  obtain ⟨op, sz, cd, fr, d, s, ln⟩ := x
  unfold insV insA
  have CE := Lib.hid eqOpdC
  go_enter Tryd.func13, Tryd.ntmps13
  go_wp2_with fail
  refine (CE.out d _).mono ?_
  rintro e w1 ⟨rfl, hb⟩
  have R0 := Lib.hid (two_kept hb).1; have R1 := Lib.hid (two_kept hb).2.1
  have B1 := Lib.hid (two_kept hb).2.2
  clear hb
  have W1 : Hid (w.heap.size + 1 < w1.heap.size) := Lib.hid (lt_of_blk R1.out)
  have a11 := cell_of_row w1 _ 11 _ _ _ R0.out
  have a12 := cell_of_row w1 _ 12 _ _ _ R0.out
  have a13 := cell_of_row w1 _ 13 _ _ _ R0.out
  have a14 := cell_of_row w1 _ 14 _ _ _ R0.out
  have a15 := cell_of_row w1 _ 15 _ _ _ R0.out
  have a16 := cell_of_row w1 _ 16 _ _ _ R0.out
  have a17 := cell_of_row w1 _ 17 _ _ _ R0.out
  have a18 := cell_of_row w1 _ 18 _ _ _ R0.out
  have b11 := cell_of_row w1 _ 11 _ _ _ R1.out
  have b12 := cell_of_row w1 _ 12 _ _ _ R1.out
  have b13 := cell_of_row w1 _ 13 _ _ _ R1.out
  have b14 := cell_of_row w1 _ 14 _ _ _ R1.out
  have b15 := cell_of_row w1 _ 15 _ _ _ R1.out
  have b16 := cell_of_row w1 _ 16 _ _ _ R1.out
  have b17 := cell_of_row w1 _ 17 _ _ _ R1.out
  have b18 := cell_of_row w1 _ 18 _ _ _ R1.out
  simp only [List.getElem?_toArray, List.getElem?_cons_zero, List.getElem?_cons_succ] at a11 a12 a13 a14 a15 a16 a17 a18 b11 b12 b13 b14 b15 b16 b17 b18
  have l1 := W1.out
  go_wp2_with fail
  refine (CE.out s _).mono ?_
  rintro e w2 ⟨rfl, hb⟩
  have R2 := Lib.hid ((hb.block _ (by omega)).trans R0.out); have R3 := Lib.hid ((hb.block _ (by omega)).trans R1.out)
  have B2 := Lib.hid (B1.out.trans (hb.mono B1.out.size))
  clear hb
  clear a11 a12 a13 a14 a15 a16 a17 a18 b11 b12 b13 b14 b15 b16 b17 b18
  have a18 := cell_of_row w2 _ 18 _ _ _ R2.out
  have b18 := cell_of_row w2 _ 18 _ _ _ R3.out
  simp only [List.getElem?_toArray, List.getElem?_cons_zero, List.getElem?_cons_succ] at a18 b18
  go_wp2
  go_ret
  exact ⟨rfl, B2.out⟩
end Go.Proofs.YtinjpobepcenfaaDoor
namespace Go.Proofs.YtinjpobepcenfaaDoor
open Go.RowKit Go.Sort
set_option linter.unusedVariables false
/-- an answer's length and code -/
def LenOut (ln c : Int) (w : World) (e : Ending) (w' : World) : Prop := e = .returned (.tuple #[.int .i64 ln, .int .i64 c]) ∧ Below w.heap.size w w'
set_option maxRecDepth 100000 in
set_option maxHeartbeats 2000000 in
theorem lenI (s : ByteArray) (n : Int) (x : Ins) (c : Int) (w : World)
    (C : Hid (Calls Tryd.prog 12 #[.string s, .int .i64 n] w fun e w' => e = .returned (.tuple #[.agg (insV x), .int .i64 c]) ∧ Below w.heap.size w w')) :
    Calls Tryd.prog 20 #[.string s, .int .i64 n] w (LenOut x.ln c w) := by
  obtain ⟨v, hv⟩ : ∃ v, v = insV x := ⟨_, rfl⟩
  have H1 : Hid (v.all (·.oneCell') = true) := Lib.hid (by rw [hv]; exact insV_one x)
  have HZ : Hid (some (19 : Nat) = some v.size) := Lib.hid (by rw [hv]; rfl)
  have H18 : Hid (v[18]? = some (.int .i64 x.ln)) := Lib.hid (by rw [hv]; rfl)
  rw [← hv] at C
  clear hv
  go_enter Tryd.func20, Tryd.ntmps20
  go_wp2_with fail
  refine (C.out).mono ?_
  rintro e w1 ⟨rfl, hb1⟩
  have Z1 := Lib.hid (heap_alloc_new w1 (.cells zIns 29))
  have B1 := Lib.hid (below_setRowB (cs := v) (hb1.alloc hb1.size (.cells zIns 29)) hb1.size)
  have c18 : ((w1.alloc (.cells zIns 29)).setRow w1.heap.size v).cell? ⟨w1.heap.size, 18, none⟩ = some (.int .i64 x.ln) := (cell_of_row _ _ 18 _ _ _ (setRow_heap _ _ _ v _ _ Z1.out)).trans H18.out
  unfold zIns insA noOpd at c18
  clear hb1
  go_wp2_with (refine wpList_store_row rfl 29 (.tmp 6) (.tmp 12) rfl w1.heap.size v rfl rfl 29 _ Z1.out (by rw [← HZ.out]; kernel_rfl) (by have := HZ.out; simp at this; exact this) H1.out ?_)
  go_ret2
  exact ⟨rfl, B1.out⟩
set_option maxRecDepth 100000 in
set_option maxHeartbeats 2000000 in
theorem lenS (s : ByteArray) (n : Int) (x : Ins) (c : Int) (w : World) (hs : s.size ≤ 65536)
    (C : Hid (Calls Tryd.prog 11 #[.string s, .int .i64 n] w fun e w' => e = .returned (.tuple #[.agg (insV x), .int .i64 c]) ∧ Below w.heap.size w w')) :
    Calls Tryd.prog 19 #[.string s, .int .i64 n] w (LenOut x.ln c w) := by
  obtain ⟨v, hv⟩ : ∃ v, v = insV x := ⟨_, rfl⟩
  have H1 : Hid (v.all (·.oneCell') = true) := Lib.hid (by rw [hv]; exact insV_one x)
  have HZ : Hid (some (19 : Nat) = some v.size) := Lib.hid (by rw [hv]; rfl)
  have H18 : Hid (v[18]? = some (.int .i64 x.ln)) := Lib.hid (by rw [hv]; rfl)
  rw [← hv] at C
  have hs' : (s.size : Int) ≤ 65536 := by omega
  clear hv hs
  go_enter Tryd.func19, Tryd.ntmps19
  go_wp2_with fail
  refine (C.out).mono ?_
  rintro e w1 ⟨rfl, hb1⟩
  have Z1 := Lib.hid (heap_alloc_new w1 (.cells zIns 29))
  have B1 := Lib.hid (below_setRowB (cs := v) (hb1.alloc hb1.size (.cells zIns 29)) hb1.size)
  have c18 : ((w1.alloc (.cells zIns 29)).setRow w1.heap.size v).cell? ⟨w1.heap.size, 18, none⟩ = some (.int .i64 x.ln) := (cell_of_row _ _ 18 _ _ _ (setRow_heap _ _ _ v _ _ Z1.out)).trans H18.out
  unfold zIns insA noOpd at c18
  clear hb1
  go_wp2_with (refine wpList_store_row rfl 29 (.tmp 6) (.tmp 15) rfl w1.heap.size v rfl rfl 29 _ Z1.out (by rw [← HZ.out]; kernel_rfl) (by have := HZ.out; simp at this; exact this) H1.out ?_)
  go_ret2
  exact ⟨rfl, B1.out⟩
set_option maxHeartbeats 1000000 in
theorem lenSLong (s : ByteArray) (n : Int) (w : World) (hs : 65536 < s.size) (hm : s.size ≤ maxLen) :
    Calls Tryd.prog 19 #[.string s, .int .i64 n] w (LenOut 0 2 w) := by
  unfold maxLen at hm
  have hs' : (65536 : Int) < s.size := by omega
  clear hs
  go_enter Tryd.func19, Tryd.ntmps19
  go_wp2
  go_ret2
  exact ⟨rfl, Below.refl _ _⟩
end Go.Proofs.YtinjpobepcenfaaDoor
