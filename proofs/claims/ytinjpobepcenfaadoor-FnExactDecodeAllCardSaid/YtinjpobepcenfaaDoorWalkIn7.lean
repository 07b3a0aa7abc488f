/-
  What memory, reg, imm and size of the specification's decoder do, whole, and which forms have ModRM; conditions: those in each head.
  What modrm and plain of the specification's decoder keep: the decoder, the instruction, its shape and the result's block; conditions: those in each head.
-/
import Derived.Test.YtinjpobepcenfaaDoorWalkIn2
import Derived.Laws.ResultCell
import Derived.Test.YtinjpobepcenfaaDoorWalkIn6
namespace Go.Proofs.YtinjpobepcenfaaDoor
open Go.RowKit Go.Sort
set_option linter.unusedVariables false
theorem memS_A {I : In} {md : Nat} (h : ¬ (md = 0 ∧ byteV I % 8 = 5)) : memS I md 4 = dispS (numI I 1) (modK md) ((byteV I % 8 + extB I.x 0 : Nat) : Int) (sibI (byteV I) I.x) (sibS (byteV I) I.x) := by
  unfold memS; rw [if_pos rfl, if_neg h]
theorem memS_A5 {I : In} {md : Nat} (h : md = 0 ∧ byteV I % 8 = 5) : memS I md 4 = dispS (numI I 1) 4 (-1) (sibI (byteV I) I.x) (sibS (byteV I) I.x) := by
  unfold memS; rw [if_pos rfl, if_pos h]
theorem memS_B {I : In} {md rm : Nat} (h4 : rm ≠ 4) (h : ¬ (md = 0 ∧ rm = 5)) : memS I md rm = dispS I (modK md) ((rm + extB I.x 0 : Nat) : Int) (-1) 1 := by
  unfold memS; rw [if_neg h4, if_neg h]
theorem memS_B5 {I : In} {md rm : Nat} (h4 : rm ≠ 4) (h : md = 0 ∧ rm = 5) : memS I md rm = dispS I 4 16 (-1) 1 := by
  unfold memS; rw [if_neg h4, if_pos h]
theorem dispS_0 {I : In} {b b' i c i' c' : Int} (hb : b' = b) (hi : i' = i) (hc : c' = c) : (memOpd b' i' c' 0, I) = dispS I (modK 0) b i c := by subst hb hi hc; rfl
theorem dispS_k {I : In} {k : Nat} {b b' i c i' c' : Int} (hk : k ≠ 0) (hb : b' = b) (hi : i' = i) (hc : c' = c) : (memOpd b' i' c' (numV I k), numI I k) = dispS I k b i c := by subst hb hi hc; unfold dispS; rw [if_neg hk, if_neg hk]
def SpOut (W0 w : World) (g : Nat) (p : Opd × In) (e : Ending) (w' : World) : Prop := e = .returned (V7 p.1) ∧ IWr W0 w w' g p.2
theorem sp_of {W0 w w' : World} {g : Nat} {p : Opd × In} {x : Opd} {I : In} {e : Ending} (hp : (x, I) = p) (h : e = .returned (V7 x) ∧ IWr W0 w w' g I) : SpOut W0 w g p e w' := by subst hp; exact h
theorem sMemC (g md rm : Nat) (I : In) (W0 w : World) (h : IAt W0 w g I) (hmd : md < 3) (hrm : rm < 8) :
    Calls Tryd.prog 88 #[.pointer (some ⟨g, 0, none⟩), .int .i64 (md : Int), .int .i64 (rm : Int)] w (SpOut W0 w g (memS I md rm)) := by
  have hE := extB_le I.x 0
  have C0 : Hid (∀ W, IAt W0 W g I → Calls Tryd.prog 87 #[.pointer (some ⟨g, 0, none⟩), .int .i64 0] W fun e w' => e = .returned (.int .i64 (extB I.x 0 : Int)) ∧ W = w') := Lib.hid (fun W hW => sExtC g 0 I W0 W hW (by decide))
  have CN (k : Nat) (hk : okSize (k : Int)) : Hid (∀ W, IAt W0 W g I → Calls Tryd.prog 83 #[.pointer (some ⟨g, 0, none⟩), .int .i64 (k : Int)] W fun e w' => e = .returned (.int .i64 (numV I k)) ∧ IWr W0 W w' g (numI I k)) := Lib.hid (fun W hW => numC g k I W0 W hW hk)
  have k1 : okSize ((1 : Nat) : Int) := .inl rfl
  have k4 : okSize ((4 : Nat) : Int) := .inr (.inr (.inl rfl))
  by_cases h4 : rm = 4
  · subst h4
    obtain ⟨b, hb⟩ : ∃ b, b = byteV I := ⟨_, rfl⟩
    have hb2 : b < 256 := by rw [hb]; exact byteV_lt I
    have CB : Hid (∀ W, IAt W0 W g I → Calls Tryd.prog 48 #[.pointer (some ⟨g, 0, none⟩)] W fun e w' => e = .returned (.int .i64 (b : Int)) ∧ IWr W0 W w' g (numI I 1)) := Lib.hid (fun W hW => by rw [hb]; exact byteC g I W0 W hW)
    have C0' : Hid (∀ W, IAt W0 W g (numI I 1) → Calls Tryd.prog 87 #[.pointer (some ⟨g, 0, none⟩), .int .i64 0] W fun e w' => e = .returned (.int .i64 (extB I.x 0 : Int)) ∧ W = w') := Lib.hid (fun W hW => by rw [← numI_x I 1]; exact sExtC g 0 (numI I 1) W0 W hW (by decide))
    have C1 : Hid (∀ W, IAt W0 W g (numI I 1) → Calls Tryd.prog 87 #[.pointer (some ⟨g, 0, none⟩), .int .i64 1] W fun e w' => e = .returned (.int .i64 (extB I.x 1 : Int)) ∧ W = w') := Lib.hid (fun W hW => by rw [← numI_x I 1]; exact sExtC g 1 (numI I 1) W0 W hW (by decide))
    have CM (k : Nat) (hk : okSize (k : Int)) : Hid (∀ W, IAt W0 W g (numI I 1) → Calls Tryd.prog 83 #[.pointer (some ⟨g, 0, none⟩), .int .i64 (k : Int)] W fun e w' => e = .returned (.int .i64 (numV (numI I 1) k)) ∧ IWr W0 W w' g (numI (numI I 1) k)) := Lib.hid (fun W hW => numC g k (numI I 1) W0 W hW hk)
    have hE1 := extB_le I.x 1
    have eb : (b : Int) % 8 + (extB I.x 0 : Int) = ((byteV I % 8 + extB I.x 0 : Nat) : Int) := by rw [← hb]; omega
    by_cases h5 : b % 8 = 5
    · have eb5 : 5 + (extB I.x 0 : Int) = ((byteV I % 8 + extB I.x 0 : Nat) : Int) := by rw [← hb]; omega
      by_cases hi : b / 8 % 8 + extB I.x 1 = 4
      · have hS := sib_four hi
        rcases (show md = 0 ∨ md = 1 ∨ md = 2 by omega) with rfl | rfl | rfl
        · rw [memS_A5 ⟨rfl, by rw [← hb]; exact h5⟩, ← hb]; exact Calls.mono (smA_n50 g I _ _ W0 w b _ _ _ _ h hb2 rfl hi h5 hE hE1 C0 CB C0' C1 (CM 4 k4)) fun e w' q => sp_of (dispS_k (by decide) rfl hS.1.symm hS.2.symm) q
        · rw [memS_A (fun e => by cases e.1), ← hb]; rw [← hb] at eb5; exact Calls.mono (smA_n51 g I _ _ W0 w b _ _ _ _ h hb2 rfl hi h5 hE hE1 C0 CB C0' C1 (CM 1 k1)) fun e w' q => sp_of (dispS_k (by decide) eb5 hS.1.symm hS.2.symm) q
        · rw [memS_A (fun e => by cases e.1), ← hb]; rw [← hb] at eb5; exact Calls.mono (smA_n52 g I _ _ W0 w b _ _ _ _ h hb2 rfl hi h5 hE hE1 C0 CB C0' C1 (CM 4 k4)) fun e w' q => sp_of (dispS_k (by decide) eb5 hS.1.symm hS.2.symm) q
      · have hS := sib_other hi
        rcases (show md = 0 ∨ md = 1 ∨ md = 2 by omega) with rfl | rfl | rfl
        · rw [memS_A5 ⟨rfl, by rw [← hb]; exact h5⟩, ← hb]; exact Calls.mono (smA_i50 g I _ _ W0 w b _ _ _ _ h hb2 rfl hi h5 hE hE1 C0 CB C0' C1 (CM 4 k4)) fun e w' q => sp_of (dispS_k (by decide) rfl hS.1.symm hS.2.symm) q
        · rw [memS_A (fun e => by cases e.1), ← hb]; rw [← hb] at eb5; exact Calls.mono (smA_i51 g I _ _ W0 w b _ _ _ _ h hb2 rfl hi h5 hE hE1 C0 CB C0' C1 (CM 1 k1)) fun e w' q => sp_of (dispS_k (by decide) eb5 hS.1.symm hS.2.symm) q
        · rw [memS_A (fun e => by cases e.1), ← hb]; rw [← hb] at eb5; exact Calls.mono (smA_i52 g I _ _ W0 w b _ _ _ _ h hb2 rfl hi h5 hE hE1 C0 CB C0' C1 (CM 4 k4)) fun e w' q => sp_of (dispS_k (by decide) eb5 hS.1.symm hS.2.symm) q
    · have h5' : ∀ md, ¬ (md = 0 ∧ byteV I % 8 = 5) := fun md e => h5 (by rw [hb]; exact e.2)
      rw [memS_A (h5' md), ← hb]
      rw [← hb] at eb
      by_cases hi : b / 8 % 8 + extB I.x 1 = 4
      · have hS := sib_four hi
        rcases (show md = 0 ∨ md = 1 ∨ md = 2 by omega) with rfl | rfl | rfl
        · exact Calls.mono (smA_nx0 g I _ I W0 w b _ _ _ 0 h hb2 rfl hi h5 hE hE1 C0 CB C0' C1) fun e w' q => sp_of (dispS_0 eb hS.1.symm hS.2.symm) q
        · exact Calls.mono (smA_nx1 g I _ _ W0 w b _ _ _ _ h hb2 rfl hi h5 hE hE1 C0 CB C0' C1 (CM 1 k1)) fun e w' q => sp_of (dispS_k (by decide) eb hS.1.symm hS.2.symm) q
        · exact Calls.mono (smA_nx2 g I _ _ W0 w b _ _ _ _ h hb2 rfl hi h5 hE hE1 C0 CB C0' C1 (CM 4 k4)) fun e w' q => sp_of (dispS_k (by decide) eb hS.1.symm hS.2.symm) q
      · have hS := sib_other hi
        rcases (show md = 0 ∨ md = 1 ∨ md = 2 by omega) with rfl | rfl | rfl
        · exact Calls.mono (smA_ix0 g I _ I W0 w b _ _ _ 0 h hb2 rfl hi h5 hE hE1 C0 CB C0' C1) fun e w' q => sp_of (dispS_0 eb hS.1.symm hS.2.symm) q
        · exact Calls.mono (smA_ix1 g I _ _ W0 w b _ _ _ _ h hb2 rfl hi h5 hE hE1 C0 CB C0' C1 (CM 1 k1)) fun e w' q => sp_of (dispS_k (by decide) eb hS.1.symm hS.2.symm) q
        · exact Calls.mono (smA_ix2 g I _ _ W0 w b _ _ _ _ h hb2 rfl hi h5 hE hE1 C0 CB C0' C1 (CM 4 k4)) fun e w' q => sp_of (dispS_k (by decide) eb hS.1.symm hS.2.symm) q
  · by_cases h5 : rm = 5
    · subst h5
      have e5 : 5 + (extB I.x 0 : Int) = ((5 + extB I.x 0 : Nat) : Int) := by omega
      rcases (show md = 0 ∨ md = 1 ∨ md = 2 by omega) with rfl | rfl | rfl
      · rw [memS_B5 h4 ⟨rfl, rfl⟩]; exact Calls.mono (smB_50 g I _ W0 w _ _ h hE C0 (CN 4 k4)) fun e w' q => sp_of (dispS_k (by decide) rfl rfl rfl) q
      · rw [memS_B h4 (fun e => by cases e.1)]; exact Calls.mono (smB_51 g I _ W0 w _ _ h hE C0 (CN 1 k1)) fun e w' q => sp_of (dispS_k (by decide) e5 rfl rfl) q
      · rw [memS_B h4 (fun e => by cases e.1)]; exact Calls.mono (smB_52 g I _ W0 w _ _ h hE C0 (CN 4 k4)) fun e w' q => sp_of (dispS_k (by decide) e5 rfl rfl) q
    · rw [memS_B h4 (fun e => h5 e.2)]
      have e5 : (rm : Int) + (extB I.x 0 : Int) = ((rm + extB I.x 0 : Nat) : Int) := by omega
      rcases (show md = 0 ∨ md = 1 ∨ md = 2 by omega) with rfl | rfl | rfl
      · exact Calls.mono (smB_x0 g I I W0 w rm _ 0 h hrm h4 h5 hE C0) fun e w' q => sp_of (dispS_0 e5 rfl rfl) q
      · exact Calls.mono (smB_x1 g I _ W0 w rm _ _ h hrm h4 h5 hE C0 (CN 1 k1)) fun e w' q => sp_of (dispS_k (by decide) e5 rfl rfl) q
      · exact Calls.mono (smB_x2 g I _ W0 w rm _ _ h hrm h4 h5 hE C0 (CN 4 k4)) fun e w' q => sp_of (dispS_k (by decide) e5 rfl rfl) q
end Go.Proofs.YtinjpobepcenfaaDoor
namespace Go.Proofs.YtinjpobepcenfaaDoor
open Go.RowKit Go.Sort
set_option linter.unusedVariables false
def shpA (z : Shp) : Array Value := #[.int .i64 z.o, .int .i64 z.f, .int .i64 z.g, .bool z.y, .int .i64 z.r]
theorem shpA_one (z : Shp) : (shpA z).all (·.oneCell') = true := by kernel_rfl
/-- block b holds a shape -/
def ZB (W : World) (b : Nat) (z : Shp) : Prop := W.heap[b]? = some (.cells (shpA z) 55 (0, 0))
theorem ZB.cell {W : World} {b : Nat} {z : Shp} (h : ZB W b z) (i : Nat) : W.cell? ⟨b, i, none⟩ = (shpA z)[i]? := cell_of_row W b i _ _ (0, 0) h
/-- within modrm and plain: the decoder, the instruction, its shape, the result's block, all else as it was -/
structure Md (W0 w W : World) (g : Nat) (I : In) (x : Ins) (z : Shp) : Prop where
  at' : IAt W0 W g I
  x : XI W w.heap.size x
  z : ZB W (w.heap.size + 1) z
  r : W.heap[w.heap.size + 2]? = some (.cells zIns 29 (0, 0))
  ch : Ch w W g
  ne : g < w.heap.size
  ge : W0.heap.size ≤ w.heap.size
theorem Md.blk {W0 w W W' : World} {g : Nat} {I I' : In} {x : Ins} {z : Shp} (h : Md W0 w W g I x z) (hw : IWr W0 W W' g I') {k : Nat} {o : Obj} (hk : w.heap.size ≤ k) (hb : W.heap[k]? = some o) : W'.heap[k]? = some o :=
  (hw.2.block k (lt_of_blk hb) (fun e => by have := h.ne; have := Option.some.inj e; omega)).trans hb
theorem Md.wr {W0 w W W' : World} {g : Nat} {I I' : In} {x : Ins} {z : Shp} (h : Md W0 w W g I x z) (hw : IWr W0 W W' g I') : Md W0 w W' g I' x z :=
  ⟨hw.1, h.blk hw (Nat.le_refl _) h.x, h.blk hw (by omega) h.z, h.blk hw (by omega) h.r, h.ch.trans hw.2, h.ne, h.ge⟩
theorem Md.opd {W0 w W W' : World} {g b : Nat} {I I' : In} {x : Ins} {z : Shp} {q : Opd} (h : Md W0 w W g I x z) (hw : IWr W0 W W' g I') (hk : w.heap.size ≤ b) (hb : XB W b q) : XB W' b q := h.blk hw hk hb
theorem IWr.of_below {W0 W W' : World} {g : Nat} {I : In} (h : IAt W0 W g I) (hb : Below W.heap.size W W') : IWr W0 W W' g I := ⟨h.below hb, Ch.of_below hb⟩
theorem Md.below {W0 w W W' : World} {g : Nat} {I : In} {x : Ins} {z : Shp} (h : Md W0 w W g I x z) (hb : Below W.heap.size W W') : Md W0 w W' g I x z := h.wr (IWr.of_below h.at' hb)
theorem Md.alloc {W0 w W : World} {g : Nat} {I : In} {x : Ins} {z : Shp} (h : Md W0 w W g I x z) (o : Obj) : Md W0 w (W.alloc o) g I x z := h.below (bel_alloc W o)
theorem Md.drew {W0 w W : World} {g : Nat} {I : In} {x : Ins} {z : Shp} (h : Md W0 w W g I x z) : Md W0 w W.drew g I x z := h.below ((Below.refl _ _).drew)
theorem Md.sz3 {W0 w W : World} {g : Nat} {I : In} {x : Ins} {z : Shp} (h : Md W0 w W g I x z) : w.heap.size + 3 ≤ W.heap.size := by have := lt_of_blk h.r; omega
theorem setRow_heap_ne (w : World) (g b : Nat) (cs : Array Value) (h : b ≠ g) : (w.setRow g cs).heap[b]? = w.heap[b]? := setRow_other _ _ _ _ h
theorem Md.row {W0 w W : World} {g b : Nat} {I : In} {x : Ins} {z : Shp} (h : Md W0 w W g I x z) (hb : w.heap.size + 3 ≤ b) (cs : Array Value) : Md W0 w (W.setRow b cs) g I x z := by
  have hn := h.ne; have hg := h.ge
  refine ⟨h.at'.setRow (by omega) (by omega), ?_, ?_, ?_, ?_, hn, hg⟩
  · exact (setRow_heap_ne _ _ _ _ (by omega)).trans h.x
  · exact (setRow_heap_ne _ _ _ _ (by omega)).trans h.z
  · exact (setRow_heap_ne _ _ _ _ (by omega)).trans h.r
  · exact ⟨h.ch.os, h.ch.tape, h.ch.output, by rw [setRow_size]; exact h.ch.size, fun i hi hi2 => by rw [setRow_heap_ne _ _ _ _ (by omega)]; exact h.ch.block i hi hi2⟩
theorem IAt.setCs {W0 w : World} {b g : Nat} {I : In} (h : IAt W0 w g I) (hb : W0.heap.size ≤ b) (hne : g ≠ b) (vs : List Value) (o : Nat) : IAt W0 (w.setCells b o vs) g I :=
  ⟨(setCells_oth _ _ hne _ _ _).trans h.rb, h.ge, below_setCs h.be hb _ _, h.sz, h.le, h.x8⟩
theorem setCs_size (b : Nat) : ∀ (vs : List Value) (o : Nat) (w : World), (w.setCells b o vs).heap.size = w.heap.size := by
  intro vs
  induction vs with
  | nil => intro o w; rfl
  | cons v r ih => intro o w; exact (ih (o + 1) _).trans (by simp)
theorem ch_setCs {w W : World} {b g : Nat} (h : Ch w W g) (hb : w.heap.size ≤ b) (vs : List Value) (o : Nat) : Ch w (W.setCells b o vs) g := by
  have hs : (W.setCells b o vs).os = W.os ∧ (W.setCells b o vs).tape = W.tape ∧ (W.setCells b o vs).output = W.output := by
    have : ∀ (vs : List Value) (o : Nat) (W : World), (W.setCells b o vs).os = W.os ∧ (W.setCells b o vs).tape = W.tape ∧ (W.setCells b o vs).output = W.output := by
      intro vs
      induction vs with
      | nil => intro o W; exact ⟨rfl, rfl, rfl⟩
      | cons v r ih => intro o W; exact ih (o + 1) _
    exact this vs o W
  exact ⟨hs.1.trans h.os, hs.2.1.trans h.tape, hs.2.2.trans h.output, by rw [setCs_size]; exact h.size, fun k hk hn => (setCells_oth b k (by omega) _ _ _).trans (h.block k hk hn)⟩
theorem Md.dst {W0 w W : World} {g : Nat} {I : In} {x : Ins} {z : Shp} (h : Md W0 w W g I x z) (q : Opd) : Md W0 w (W.setCells w.heap.size 4 (opdL q)) g I { x with d := q } z := by
  have hn := h.ne; have hg := h.ge
  exact ⟨h.at'.setCs (by omega) (by omega) _ _, h.x.dst q, (setCells_oth _ _ (by omega) _ _ _).trans h.z, (setCells_oth _ _ (by omega) _ _ _).trans h.r, ch_setCs h.ch (Nat.le_refl _) _ _, hn, hg⟩
theorem Md.src {W0 w W : World} {g : Nat} {I : In} {x : Ins} {z : Shp} (h : Md W0 w W g I x z) (q : Opd) : Md W0 w (W.setCells w.heap.size 11 (opdL q)) g I { x with s := q } z := by
  have hn := h.ne; have hg := h.ge
  exact ⟨h.at'.setCs (by omega) (by omega) _ _, h.x.src q, (setCells_oth _ _ (by omega) _ _ _).trans h.z, (setCells_oth _ _ (by omega) _ _ _).trans h.r, ch_setCs h.ch (Nat.le_refl _) _ _, hn, hg⟩
theorem XB.setCs {W : World} {b k : Nat} {q : Opd} (h : XB W b q) (hk : b ≠ k) (vs : List Value) (o : Nat) : XB (W.setCells k o vs) b q := (setCells_oth _ _ hk _ _ _).trans h
theorem XB.newRow {W : World} {b : Nat} {q p : Opd} (h : XB W b q) : XB (W.setRow b (opdL p).toArray) b p := setRow_heap _ _ _ _ _ _ h
theorem XB.othRow {W : World} {b k : Nat} {q : Opd} (h : XB W b q) (hk : b ≠ k) (cs : Array Value) : XB (W.setRow k cs) b q := (setRow_heap_ne _ _ _ _ hk).trans h
theorem Md.new {W0 w : World} {g : Nat} {I : In} (h : IAt W0 w g I) (x : Ins) (z : Shp) : Md W0 w (((w.alloc (.cells (insV x) 29)).alloc (.cells (shpA z) 55)).alloc (.cells zIns 29)) g I x z := by
  refine ⟨((h.alloc _).alloc _).alloc _, ?_, ?_, ?_, (ch_alloc _ _ _).trans ((ch_alloc _ _ _).trans (ch_alloc _ _ _)), h.lt, h.be.size⟩
  · exact (Below.heap_alloc _ _ _ (by simp; omega)).trans ((Below.heap_alloc _ _ _ (by simp)).trans (heap_alloc_new w _))
  · refine (Below.heap_alloc _ _ _ (by simp)).trans ?_
    have := heap_alloc_new (w.alloc (.cells (insV x) 29)) (.cells (shpA z) 55)
    simpa [ZB] using this
  · have := heap_alloc_new ((w.alloc (.cells (insV x) 29)).alloc (.cells (shpA z) 55)) (.cells zIns 29)
    simpa using this
theorem Md.fin {W0 w W : World} {g : Nat} {I : In} {x : Ins} {z : Shp} (h : Md W0 w W g I x z) (cs : Array Value) : IWr W0 w (W.setRow (w.heap.size + 2) cs) g I := by
  have hn := h.ne; have hg := h.ge
  exact ⟨h.at'.setRow (by omega) (by omega), ⟨h.ch.os, h.ch.tape, h.ch.output, by rw [setRow_size]; exact h.ch.size, fun i hi hi2 => by rw [setRow_heap_ne _ _ _ _ (by omega)]; exact h.ch.block i hi hi2⟩⟩
theorem XB.below' {W W' : World} {b : Nat} {q : Opd} (h : XB W b q) (hb : Below W.heap.size W W') : XB W' b q := (hb.block b (lt_of_blk h)).trans h
theorem Md.setX {W0 w W : World} {g : Nat} {I : In} {x y : Ins} {z : Shp} (h : Md W0 w W g I x z) : Md W0 w (W.setRow w.heap.size (insV y)) g I y z := by
  have hn := h.ne; have hg := h.ge
  refine ⟨h.at'.setRow (by omega) (by omega), setRow_heap _ _ _ _ _ _ h.x, ?_, ?_, ?_, hn, hg⟩
  · exact (setRow_heap_ne _ _ _ _ (by omega)).trans h.z
  · exact (setRow_heap_ne _ _ _ _ (by omega)).trans h.r
  · exact ⟨h.ch.os, h.ch.tape, h.ch.output, by rw [setRow_size]; exact h.ch.size, fun i hi hi2 => by rw [setRow_heap_ne _ _ _ _ (by omega)]; exact h.ch.block i hi hi2⟩
/-- the operands, the place being known -/
def mr2 (f op sz : Int) (p r : Opd) (I : In) : (Opd × Opd) × In :=
  if f = 1 then ((p, r), I)
  else if f = 2 ∨ f = 17 then ((r, p), I)
  else if f = 4 then ((p, (immS I 1).1), (immS I 1).2)
  else if f = 5 then ((p, (immS I (minK sz)).1), (immS I (minK sz)).2)
  else if f = 11 then ((p, (immU I).1), (immU I).2)
  else if f = 12 then ((p, immOpd 1), I)
  else if f = 13 then ((p, regOpd 1), I)
  else if srcOp op then ((noOpd, p), I)
  else if op = 10 then ((p, (immS I (minK sz)).1), (immS I (minK sz)).2)
  else ((p, noOpd), I)
theorem mrS_eq (I : In) (f op sz fr : Int) (md rg rm : Nat) : mrS I f op sz fr md rg rm = mr2 f op sz (placeS I md rm (if f = 17 then fr else sz)).1 (bReg (rg + extB I.x 2) sz I.x) (placeS I md rm (if f = 17 then fr else sz)).2 := rfl
theorem mr2_1 (op sz : Int) (p r : Opd) (I : In) : mr2 1 op sz p r I = ((p, r), I) := by simp [mr2]
theorem mr2_2 (op sz : Int) (p r : Opd) (I : In) : mr2 2 op sz p r I = ((r, p), I) := by simp [mr2]
theorem mr2_17 (op sz : Int) (p r : Opd) (I : In) : mr2 17 op sz p r I = ((r, p), I) := by simp [mr2]
theorem mr2_4 (op sz : Int) (p r : Opd) (I : In) : mr2 4 op sz p r I = ((p, (immS I 1).1), (immS I 1).2) := by simp [mr2]
theorem mr2_5 (op sz : Int) (p r : Opd) (I : In) : mr2 5 op sz p r I = ((p, (immS I (minK sz)).1), (immS I (minK sz)).2) := by simp [mr2]
theorem mr2_11 (op sz : Int) (p r : Opd) (I : In) : mr2 11 op sz p r I = ((p, (immU I).1), (immU I).2) := by simp [mr2]
theorem mr2_12 (op sz : Int) (p r : Opd) (I : In) : mr2 12 op sz p r I = ((p, immOpd 1), I) := by simp [mr2]
theorem mr2_13 (op sz : Int) (p r : Opd) (I : In) : mr2 13 op sz p r I = ((p, regOpd 1), I) := by simp [mr2]
theorem mr2_6s (op sz : Int) (p r : Opd) (I : In) (h : srcOp op) : mr2 6 op sz p r I = ((noOpd, p), I) := by simp [mr2, h]
theorem mr2_6t (op sz : Int) (p r : Opd) (I : In) (h : ¬ srcOp op) (h2 : op = 10) : mr2 6 op sz p r I = ((p, (immS I (minK sz)).1), (immS I (minK sz)).2) := by subst h2; have h' : srcOp 10 = False := eq_false h; simp [mr2, h']
theorem mr2_6d (op sz : Int) (p r : Opd) (I : In) (h : ¬ srcOp op) (h2 : op ≠ 10) : mr2 6 op sz p r I = ((p, noOpd), I) := by simp [mr2, h, h2]
end Go.Proofs.YtinjpobepcenfaaDoor
