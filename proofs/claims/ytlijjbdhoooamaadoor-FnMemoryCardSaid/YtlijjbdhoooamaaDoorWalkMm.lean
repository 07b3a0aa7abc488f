import Derived.Test.YtlijjbdhoooamaaDoorSrc4
import Derived.Test.YtlijjbdhoooamaaDoorWalkOwn
import Derived.Test.YtlijjbdhoooamaaDoorMathMem
import Derived.Deep.RegionWith
import Derived.Deep.Cut
import Derived.Deep.CutRange
import Derived.Deep.MidRow
import Derived.Deep.OwnRows
namespace Go.Proofs.YtlijjbdhoooamaaDoor
open Go.RowKit
set_option linter.unusedVariables false
set_option linter.unusedSimpArgs false
def pgA : Array Value := #[.int .i64 4096, .int .i64 3, .string ⟨#[]⟩, .int .i64 16640, .int .i64 4, .string ⟨#[]⟩, .int .i64 16896, .int .i64 5, .string ⟨#[]⟩, .int .i64 17152, .int .i64 5, .string ⟨#[]⟩, .int .i64 17408, .int .i64 3, .string ⟨#[]⟩, .int .i64 17664, .int .i64 3, .string ⟨#[]⟩, .int .i64 17920, .int .i64 1, .string ⟨#[]⟩, .int .i64 20224, .int .i64 3, .string ⟨#[]⟩]
def pgB (k : Nat) : Int := match k with | 0 => 4096 | 1 => 16640 | 2 => 16896 | 3 => 17152 | 4 => 17408 | 5 => 17664 | 6 => 17920 | 7 => 20224 | _ => 65536
def pgP (k : Nat) : Int := match k with | 0 => 3 | 1 => 4 | 2 => 5 | 3 => 5 | 4 => 3 | 5 => 3 | 6 => 1 | _ => 3
theorem pgA_at (k : Nat) (hk : k < 8) : pgA[k * 3]? = some (.int .i64 (pgB k)) ∧ pgA[k * 3 + 1]? = some (.int .i64 (pgP k)) ∧ pgA[k * 3 + 2]? = some (.string ⟨#[]⟩) := by
  rcases (by omega : k = 0 ∨ k = 1 ∨ k = 2 ∨ k = 3 ∨ k = 4 ∨ k = 5 ∨ k = 6 ∨ k = 7) with rfl | rfl | rfl | rfl | rfl | rfl | rfl | rfl <;> exact ⟨rfl, rfl, rfl⟩
/-- a page that is one of the eight that are drawn -/
def Pg8 (x : Pg) : Prop := ∃ i, i < 8 ∧ x.b = pgB i ∧ x.p = pgP i
def Drawn8 (l : List Pg) : Prop := ∀ (k : Nat) x, l[k]? = some x → Pg8 x
def DL (k : Nat) (l : List Pg) : Prop := l.length ≤ k ∧ (∀ (j : Nat) x, l[j]? = some x → (PgOk x ∧ Pg8 x) ∧ x.b < pgB k) ∧ ∀ (j : Nat) x y, l[j]? = some x → l[j + 1]? = some y → x.b < y.b
theorem pgB_lt (k : Nat) (hk : k < 8) : pgB k < pgB (k + 1) := by
  rcases (by omega : k = 0 ∨ k = 1 ∨ k = 2 ∨ k = 3 ∨ k = 4 ∨ k = 5 ∨ k = 6 ∨ k = 7) with rfl | rfl | rfl | rfl | rfl | rfl | rfl | rfl <;> decide
theorem DL.skip {k : Nat} {l : List Pg} (h : DL k l) (hk : k < 8) : DL (k + 1) l :=
  ⟨Nat.le_succ_of_le h.1, fun j x e => ⟨(h.2.1 j x e).1, Int.lt_trans (h.2.1 j x e).2 (pgB_lt k hk)⟩, h.2.2⟩
theorem pg_ok (k : Nat) (hk : k < 8) (d : ByteArray) (hd : d.size = 256) : PgOk ⟨pgB k, pgP k, d⟩ := by
  rcases (by omega : k = 0 ∨ k = 1 ∨ k = 2 ∨ k = 3 ∨ k = 4 ∨ k = 5 ∨ k = 6 ∨ k = 7) with rfl | rfl | rfl | rfl | rfl | rfl | rfl | rfl <;> (refine ⟨?_, ?_, ?_, ?_, ?_, hd⟩ <;> (dsimp only [pgB, pgP]; decide))
theorem DL.snoc {k : Nat} {l : List Pg} (h : DL k l) (hk : k < 8) (d : ByteArray) (hd : d.size = 256) : DL (k + 1) (l ++ [⟨pgB k, pgP k, d⟩]) := by
  refine ⟨by simp; exact h.1, fun j x e => ?_, fun j x y e1 e2 => ?_⟩
  · rcases Nat.lt_or_ge j l.length with hj | hj
    · rw [List.getElem?_append_left hj] at e
      exact ⟨(h.2.1 j x e).1, Int.lt_trans (h.2.1 j x e).2 (pgB_lt k hk)⟩
    · rw [List.getElem?_append_right hj] at e
      have h0 : j - l.length = 0 := by
        rcases Nat.eq_zero_or_pos (j - l.length) with h0 | h0
        · exact h0
        · rw [List.getElem?_eq_none (by simp; omega)] at e; cases e
      rw [h0] at e; cases e
      exact ⟨⟨pg_ok k hk d hd, k, hk, rfl, rfl⟩, pgB_lt k hk⟩
  · rcases Nat.lt_or_ge (j + 1) l.length with hj | hj
    · rw [List.getElem?_append_left (by omega)] at e1
      rw [List.getElem?_append_left hj] at e2
      exact h.2.2 j x y e1 e2
    · rw [List.getElem?_append_right hj] at e2
      have h0 : j + 1 - l.length = 0 := by
        rcases Nat.eq_zero_or_pos (j + 1 - l.length) with h0 | h0
        · exact h0
        · rw [List.getElem?_eq_none (by simp; omega)] at e2; cases e2
      rw [h0] at e2; cases e2
      rw [List.getElem?_append_left (by omega)] at e1
      exact (h.2.1 j x e1).2
/-- within memory -/
structure MM (w W : World) (g : Nat) (v : Value) (N B : Nat) (A : Option Addr) (len : Nat) (p : Option Addr) (c : Nat) (l : List Pg) : Prop where
  s : Src W g v N
  r : Rdb W B A len
  gr : w.grownBy W (some g)
  z : W.heap[w.heap.size]? = some (.cells #[.slice none 0 0] 25 (0, 0))
  m : W.heap[w.heap.size + 1 + 1]? = some (.cells #[.slice p l.length c] 25 (0, 0))
  t : W.heap[w.heap.size + 1 + 1 + 1]? = some (.cells pgA 38 (0, 0))
  o : Owns W (w.heap.size + 1) p c l
  nb : ∀ q, p = some q → q.block ≠ w.heap.size + 1 + 1 ∧ q.block ≠ w.heap.size + 1 + 1 + 1
  pf : ∃ b, p = some ⟨b, 0, none⟩
theorem lt_blk {w : World} {b : Nat} {o : Obj} (h : w.heap[b]? = some o) : b < w.heap.size := (Array.getElem?_eq_some_iff.1 h).1
theorem MM.src {w W W' : World} {g N N' B len : Nat} {v : Value} {A p : Option Addr} {c : Nat} {l : List Pg} (h : MM w W g v N B A len p c l) (hs : Src W' g v N') (hg : W.grownBy W' (some g)) (hB : B ≤ g) (hlt : g < w.heap.size) : MM w W' g v N' B A len p c l :=
  ⟨hs, h.r.grown hg hB (by have := h.gr.size; omega), grown_trans h.gr hg, (hg.block _ (lt_blk h.z) (fun e => by cases e; omega)).trans h.z, (hg.block _ (lt_blk h.m) (fun e => by cases e; omega)).trans h.m, (hg.block _ (lt_blk h.t) (fun e => by cases e; omega)).trans h.t,
    h.o.kept hg (.inr (fun e => by have := (h.o.lt g e).1; omega)), h.nb, h.pf⟩
theorem MM.drew {w W : World} {g N B len : Nat} {v : Value} {A p : Option Addr} {c : Nat} {l : List Pg} (h : MM w W g v N B A len p c l) : MM w W.drew g v N B A len p c l :=
  ⟨h.s, h.r, ⟨h.gr.os, h.gr.tape, h.gr.output, h.gr.size, h.gr.block⟩, h.z, h.m, h.t, h.o, h.nb, h.pf⟩
theorem MM.alloc {w W : World} {g N B len : Nat} {v : Value} {A p : Option Addr} {c : Nat} {l : List Pg} (h : MM w W g v N B A len p c l) (hB : B ≤ g) (hlt : g < w.heap.size) (o : Obj) : MM w (W.alloc o) g v N B A len p c l :=
  h.src (h.s.alloc o) (World.grownBy_alloc _ _ _) hB hlt
theorem MM.new (w : World) (g N B len : Nat) (v : Value) (A : Option Addr) (h : Src w g v N) (hr : Rdb w B A len) (hB : B ≤ g) : MM w ((((w.alloc (.cells #[.slice none 0 0] 25)).alloc (.cells #[] 38)).alloc (.cells #[.slice (some ⟨w.heap.size + 1, 0, none⟩) 0 0] 25)).alloc (.cells pgA 38)) g v N B A len (some ⟨w.heap.size + 1, 0, none⟩) 0 [] := by
  have hlt := h.lt
  have e1 : (w.alloc (.cells #[.slice none 0 0] 25)).heap.size = w.heap.size + 1 := by simp
  have e2 : ((w.alloc (.cells #[.slice none 0 0] 25)).alloc (.cells #[] 38)).heap.size = w.heap.size + 1 + 1 := by simp
  have e3 : (((w.alloc (.cells #[.slice none 0 0] 25)).alloc (.cells #[] 38)).alloc (.cells #[.slice (some ⟨w.heap.size + 1, 0, none⟩) 0 0] 25)).heap.size = w.heap.size + 1 + 1 + 1 := by simp
  have g0 := World.grownBy_alloc w (.cells #[.slice none 0 0] 25) (some g)
  refine ⟨(((h.alloc _).alloc _).alloc _).alloc _, (((hr.alloc (by omega) _).alloc (by rw [e1]; omega) _).alloc (by rw [e2]; omega) _).alloc (by rw [e3]; omega) _, grown_trans (grown_trans (grown_trans g0 (World.grownBy_alloc _ _ _)) (World.grownBy_alloc _ _ _)) (World.grownBy_alloc _ _ _), ?_, ?_, ?_, ?_, ?_, ⟨_, rfl⟩⟩
  · rw [Below.heap_alloc _ _ _ (by rw [e3]; omega), Below.heap_alloc _ _ _ (by rw [e2]; omega), Below.heap_alloc _ _ _ (by rw [e1]; omega)]; exact heap_alloc_new _ _
  · rw [Below.heap_alloc _ _ _ (by rw [e3]; omega), ← e2]; exact heap_alloc_new _ _
  · rw [← e3]; exact heap_alloc_new _ _
  · have o := World.ownsRow_made (e := 38) (size := 3) (base := w.heap.size + 1) (w.alloc (.cells #[.slice none 0 0] 25)) #[] 0 (by rw [e1]; exact Nat.le_refl _) (Nat.zero_le _) rfl
    rw [e1] at o
    exact (o.alloc _).alloc _
  · intro q e; cases e; simp
/-- and the block of one page -/
structure MP (w W : World) (g : Nat) (v : Value) (N B : Nat) (A : Option Addr) (len : Nat) (p : Option Addr) (c : Nat) (l : List Pg) (q : Nat) (b0 p0 : Int) : Prop where
  mm : MM w W g v N B A len p c l
  bk : W.heap[q]? = some (.cells #[.int .i64 b0, .int .i64 p0, .string ⟨#[]⟩] 38 (0, 0))
  ql : w.heap.size + 1 + 1 + 1 < q
theorem MP.src {w W W' : World} {g N N' B len q : Nat} {v : Value} {A p : Option Addr} {c : Nat} {l : List Pg} {b0 p0 : Int} (h : MP w W g v N B A len p c l q b0 p0) (hs : Src W' g v N') (hg : W.grownBy W' (some g)) (hB : B ≤ g) (hlt : g < w.heap.size) : MP w W' g v N' B A len p c l q b0 p0 :=
  ⟨h.mm.src hs hg hB hlt, (hg.block _ (lt_blk h.bk) (fun e => by cases e; have := h.ql; omega)).trans h.bk, h.ql⟩
theorem MP.drew {w W : World} {g N B len q : Nat} {v : Value} {A p : Option Addr} {c : Nat} {l : List Pg} {b0 p0 : Int} (h : MP w W g v N B A len p c l q b0 p0) : MP w W.drew g v N B A len p c l q b0 p0 := ⟨h.mm.drew, h.bk, h.ql⟩
theorem MP.alloc {w W : World} {g N B len q : Nat} {v : Value} {A p : Option Addr} {c : Nat} {l : List Pg} {b0 p0 : Int} (h : MP w W g v N B A len p c l q b0 p0) (hB : B ≤ g) (hlt : g < w.heap.size) (o : Obj) : MP w (W.alloc o) g v N B A len p c l q b0 p0 :=
  ⟨h.mm.alloc hB hlt o, (Below.heap_alloc _ _ _ (lt_blk h.bk)).trans h.bk, h.ql⟩
theorem MP.free {w W : World} {g N B len q : Nat} {v : Value} {A p : Option Addr} {c : Nat} {l : List Pg} {b0 p0 : Int} (h : MP w W g v N B A len p c l q b0 p0) : W.frozen? ⟨q, 2, none⟩ = false := by have := h.bk; simp [World.frozen?, this]
theorem MP.sz {w W : World} {g N B len q : Nat} {v : Value} {A p : Option Addr} {c : Nat} {l : List Pg} {b0 p0 : Int} (h : MP w W g v N B A len p c l q b0 p0) : w.heap.size ≤ W.heap.size := h.mm.gr.size
/-- and the page whole -/
structure MQ (w W : World) (g : Nat) (v : Value) (N B : Nat) (A : Option Addr) (len : Nat) (p : Option Addr) (c : Nat) (l : List Pg) (q : Nat) (x : Pg) : Prop where
  mm : MM w W g v N B A len p c l
  bk : W.heap[q]? = some (.cells #[.int .i64 x.b, .int .i64 x.p, .string x.d] 38 (0, 0))
  ql : w.heap.size + 1 + 1 + 1 < q
theorem MM.set {w W : World} {g N B len q : Nat} {v : Value} {A p : Option Addr} {c : Nat} {l : List Pg} (h : MM w W g v N B A len p c l) (hB : B ≤ g) (hlt : g < w.heap.size) (hq : w.heap.size + 1 + 1 + 1 < q) (hp : ∀ a, p = some a → a.block ≠ q) (o : Nat) (u : Value) : MM w (W.setCell ⟨q, o, none⟩ u) g v N B A len p c l := by
  have hh (k : Nat) (hk : k ≠ q) : (W.setCell ⟨q, o, none⟩ u).heap[k]? = W.heap[k]? := Below.heap_setCell _ _ _ _ hk
  refine ⟨h.s.same (hh _ (by omega)), h.r.below ⟨rfl, rfl, rfl, by simp [World.setCell], fun k hk => hh k (by omega)⟩, ⟨h.gr.os, h.gr.tape, h.gr.output, by simpa [World.setCell] using h.gr.size, fun k hk hne => (hh k (by omega)).trans (h.gr.block k hk hne)⟩, (hh _ (by omega)).trans h.z, (hh _ (by omega)).trans h.m, (hh _ (by omega)).trans h.t, ?_, h.nb, h.pf⟩
  obtain ⟨o1, o2⟩ := h.o
  refine ⟨o1, o2.imp id ?_⟩
  rintro ⟨g', cap, cur, e1, hb, hg, h3⟩
  refine ⟨g', cap, cur, e1, hb, (hh g' ?_).trans hg, h3⟩
  cases e1
  exact hp _ rfl
theorem MP.store {w W : World} {g N B len q : Nat} {v : Value} {A p : Option Addr} {c : Nat} {l : List Pg} {b0 p0 : Int} (h : MP w W g v N B A len p c l q b0 p0) (hB : B ≤ g) (hlt : g < w.heap.size) (hp : ∀ a, p = some a → a.block ≠ q) (d : ByteArray) : MQ w (W.setCell ⟨q, 2, none⟩ (.string d)) g v N B A len p c l q ⟨b0, p0, d⟩ :=
  ⟨h.mm.set hB hlt h.ql hp _ _, by have := h.bk; simp [World.setCell, Array.getElem?_modify, this], h.ql⟩
theorem MQ.alloc {w W : World} {g N B len q : Nat} {v : Value} {A p : Option Addr} {c : Nat} {l : List Pg} {x : Pg} (h : MQ w W g v N B A len p c l q x) (hB : B ≤ g) (hlt : g < w.heap.size) (o : Obj) : MQ w (W.alloc o) g v N B A len p c l q x :=
  ⟨h.mm.alloc hB hlt o, (Below.heap_alloc _ _ _ (lt_blk h.bk)).trans h.bk, h.ql⟩
theorem MQ.drew {w W : World} {g N B len q : Nat} {v : Value} {A p : Option Addr} {c : Nat} {l : List Pg} {x : Pg} (h : MQ w W g v N B A len p c l q x) : MQ w W.drew g v N B A len p c l q x := ⟨h.mm.drew, h.bk, h.ql⟩
theorem MM.push {w W W' : World} {g N B len g2 c2 : Nat} {v : Value} {A p : Option Addr} {c : Nat} {l l' : List Pg} {o : Obj} (h : MM w W g v N B A len p c l) (hB : B ≤ g) (hlt : g < w.heap.size) (hg : (W.alloc o).grownBy W' (Value.ownBlock (.slice p l.length c))) (ho : Owns W' (w.heap.size + 1) (some ⟨g2, 0, none⟩) c2 l')
    (hat : Value.ownBlock (.slice p l.length c) = some g2 ∨ g2 = W.heap.size + 1) : MM w (W'.setCell ⟨w.heap.size + 1 + 1, 0, none⟩ (.slice (some ⟨g2, 0, none⟩) l'.length c2)) g v N B A len (some ⟨g2, 0, none⟩) c2 l' := by
  have ha := h.alloc hB hlt o
  have hown : ∀ k, Value.ownBlock (.slice p l.length c) = some k → w.heap.size + 1 ≤ k ∧ k ≠ w.heap.size + 1 + 1 ∧ k ≠ w.heap.size + 1 + 1 + 1 := by
    intro k e
    have h1 := (h.o.lt k e).1
    cases p with
    | none => simp [Value.ownBlock] at e
    | some a => simp [Value.ownBlock] at e; subst e; exact ⟨h1, (h.nb a rfl).1, (h.nb a rfl).2⟩
  have hlw := lt_blk h.t
  have hb (k : Nat) (hk : k < (W.alloc o).heap.size) (h1 : k ≤ w.heap.size ∨ k = w.heap.size + 1 + 1 ∨ k = w.heap.size + 1 + 1 + 1) : W'.heap[k]? = (W.alloc o).heap[k]? := hg.block k hk (fun e => by have := hown k e.symm; omega)
  have hs (k : Nat) (hk : k ≠ w.heap.size + 1 + 1) : (W'.setCell ⟨w.heap.size + 1 + 1, 0, none⟩ (.slice (some ⟨g2, 0, none⟩) l'.length c2)).heap[k]? = W'.heap[k]? := Below.heap_setCell _ _ _ _ hk
  have hsz := hg.size
  have h2 : g2 ≠ w.heap.size + 1 + 1 ∧ g2 ≠ w.heap.size + 1 + 1 + 1 := by
    rcases hat with e | e
    · exact (hown g2 e).2
    · omega
  have hsa : (W.alloc o).heap.size = W.heap.size + 1 := by simp
  refine ⟨?_, ?_, ?_, ?_, ?_, ?_, ?_, ?_, ⟨_, rfl⟩⟩
  · exact ha.s.same ((hs g (by omega)).trans (hb g (by omega) (.inl (by omega))))
  · exact ha.r.below ⟨hg.os, hg.tape, hg.output, by simpa [World.setCell] using hg.size, fun k hk => (hs k (by omega)).trans (hb k (by omega) (.inl (by omega)))⟩
  · exact ⟨hg.os.trans ha.gr.os, hg.tape.trans ha.gr.tape, hg.output.trans ha.gr.output, by have := ha.gr.size; simp [World.setCell]; omega, fun k hk hne => ((hs k (by omega)).trans (hb k (by omega) (.inl (by omega)))).trans (ha.gr.block k hk hne)⟩
  · exact ((hs _ (by omega)).trans (hb _ (by omega) (.inl (Nat.le_refl _)))).trans ha.z
  · have := (hb (w.heap.size + 1 + 1) (by omega) (.inr (.inl rfl))).trans ha.m
    simp [World.setCell, Array.getElem?_modify, this]
  · exact ((hs _ (by omega)).trans (hb _ (by omega) (.inr (.inr rfl)))).trans ha.t
  · obtain ⟨o1, o2⟩ := ho
    refine ⟨o1, o2.imp id ?_⟩
    rintro ⟨g', cap, cur, e1, hb', hg', h3⟩
    refine ⟨g', cap, cur, e1, hb', (hs g' ?_).trans hg', h3⟩
    cases e1
    exact h2.1
  · intro q e; cases e; exact h2
theorem MM.mkeep {w W W' : World} {g N B len : Nat} {v : Value} {A p : Option Addr} {c : Nat} {l : List Pg} {o : Obj} (h : MM w W g v N B A len p c l) (hB : B ≤ g) (hlt : g < w.heap.size) (hg : (W.alloc o).grownBy W' (Value.ownBlock (.slice p l.length c))) : W'.heap[w.heap.size + 1 + 1]? = some (.cells #[.slice p l.length c] 25 (0, 0)) := by
  have ha := h.alloc hB hlt o
  refine (hg.block _ (lt_blk ha.m) (fun e => ?_)).trans ha.m
  cases p with
  | none => simp [Value.ownBlock] at e
  | some a => simp [Value.ownBlock] at e; exact (h.nb a rfl).1 e.symm
theorem MM.mcell {w W W' : World} {g N B len : Nat} {v : Value} {A p : Option Addr} {c : Nat} {l : List Pg} {o : Obj} (h : MM w W g v N B A len p c l) (hB : B ≤ g) (hlt : g < w.heap.size) (hg : (W.alloc o).grownBy W' (Value.ownBlock (.slice p l.length c))) : W'.cell? ⟨w.heap.size + 1 + 1, 0, none⟩ = some (.slice p l.length c) := cell_of_row _ _ 0 _ _ _ (h.mkeep hB hlt hg)
theorem MM.mfree {w W W' : World} {g N B len : Nat} {v : Value} {A p : Option Addr} {c : Nat} {l : List Pg} {o : Obj} (h : MM w W g v N B A len p c l) (hB : B ≤ g) (hlt : g < w.heap.size) (hg : (W.alloc o).grownBy W' (Value.ownBlock (.slice p l.length c))) : W'.frozen? ⟨w.heap.size + 1 + 1, 0, none⟩ = false := by have := h.mkeep hB hlt hg; simp [World.frozen?, this]
theorem DL.ok {l : List Pg} (h : DL 8 l) : MemOk l := ⟨by have := h.1; omega, fun k x e => (h.2.1 k x e).1.1, h.2.2⟩
theorem DL.drawn {l : List Pg} (h : DL 8 l) : Drawn8 l := fun k x e => (h.2.1 k x e).1.2
theorem rd_owns {W W' : World} {B : Nat} {p : Option Addr} {c : Nat} {l : List Pg} (h : Owns W B p c l) (hk : ∀ k, B ≤ k → W'.heap[k]? = W.heap[k]?) : Rd W' p l := by
  intro k x hx
  obtain ⟨b, off, rfl, h0, h1, h2, h3⟩ := owns_rd h k x hx
  have hw := hk b (h.lt b rfl).1
  have hc (j : Nat) : W'.cell? ⟨b, j, none⟩ = W.cell? ⟨b, j, none⟩ := World.cell?_of_block (w := W) (a := ⟨b, j, none⟩) hw
  refine ⟨b, off, rfl, ?_, (hc _).trans h1, (hc _).trans h2, (hc _).trans h3⟩
  have := Array.getElem?_eq_getElem h0
  rw [← hw] at this
  exact lt_blk this
/-- the 224 noughts -/
def ZC : Array Value := madeCells #[.int .u8 0] 224
def OZ (w W : World) (q : Nat) : Prop := W.heap[q]? = some (.cells ZC 5 (0, 0)) ∧ w.heap.size ≤ q
theorem OZ.new (w W : World) (h : w.heap.size ≤ W.heap.size) : OZ w (W.alloc (.cells ZC 5)) W.heap.size := ⟨heap_alloc_new _ _, h⟩
theorem OZ.kept {w W W' : World} {q g : Nat} (h : OZ w W q) (hg : W.grownBy W' (some g)) (hlt : g < w.heap.size) : OZ w W' q :=
  ⟨(hg.block _ (lt_blk h.1) (fun e => by cases e; have := h.2; omega)).trans h.1, h.2⟩
def z224 : ByteArray := ⟨(List.replicate 224 (0 : UInt8)).toArray⟩
theorem zc_at (j : Nat) (hj : j < 224) : ZC[j]? = some (.int .u8 0) := by
  simp [ZC, madeCells, hj, Nat.mod_one]
theorem conv_of {W : World} {q : Nat} (h : W.heap[q]? = some (.cells ZC 5 (0, 0))) : (convert 22 9 (.slice (some ⟨q, 0, none⟩) 224 224)).run Tryd.prog W = .ok (.string z224) W := by
  have := run_convert_bytes_back W 22 9 5 ⟨q, 0, none⟩ 224 (List.replicate 224 (0 : UInt8)) Tryd.underlying22 Tryd.underlying5 Tryd.underlying9 (fun j hj => by
    have e : (⟨q, 0, none⟩ : Addr).add j = ⟨q, j, none⟩ := by cases j <;> simp [Addr.add]
    rw [e, cell_of_row _ _ _ _ _ _ h, zc_at j (by rw [List.length_replicate] at hj; exact hj), List.getElem_replicate]; rfl)
  rw [List.length_replicate] at this
  exact this
set_option maxHeartbeats 4000000 in
set_option maxRecDepth 100000 in
theorem src_memory (g len cap N B : Nat) (A : Option Addr) (w : World) (h : Src w g (.slice A len cap) N) (hN : N ≤ 100000) (hr : Rdb w B A len) (hB : B ≤ g) :
    Calls Tryd.prog 15 #[.pointer (some ⟨g, 0, none⟩)] w fun e w' => ∃ p c l, e = .returned (.agg #[.slice p l.length c]) ∧ MemOk l ∧ ((∃ b, p = some ⟨b, 0, none⟩) ∧ Drawn8 l) ∧ Rd w' p l ∧ Src w' g (.slice A len cap) (N + 264) ∧ w.grownBy w' (some g) := by
  have hlt := h.lt
  have M0 := Lib.hid (MM.new w g N B len (.slice A len cap) A h hr hB)
  clear h hr
  go_enter Tryd.func15, Tryd.ntmps15
  go_wp2_with fail
  go_loopw [5] (fun i wr => ∃ (k : Nat) (p : Option Addr) (c : Nat) (l : List Pg), i = .int .i64 (k : Int) ∧ k ≤ 8 ∧ Hid (DL k l) ∧ Hid (MM w wr g (.slice A len cap) (N + 33 * k) B A len p c l)) (fun i _ => 8 - (intOf i).toNat)
  case atStart => exact ⟨0, _, _, [], rfl, by omega, Lib.hid ⟨Nat.le_refl _, fun j x e => (by simp at e), fun j x y e => (by simp at e)⟩, M0⟩
  case round =>
    obtain ⟨k, p, c, l, rfl, hk, HD, HM⟩ := hrel
    by_cases hlt2 : k < 8
    · have hlt3 : (k : Int) < 8 := by omega
      have CC := Lib.hid (src_chance 9 g len cap (N + 33 * k) B A wr HM.out.s (by omega) HM.out.r hB (by omega) (by omega))
      go_wp2_with fail
      refine CC.out.mono ?_
      rintro e w1 ⟨b, rfl, hs1, hg1⟩
      have M1 := Lib.hid (HM.out.src hs1 hg1 hB hlt)
      clear hs1 hg1 CC
      cases b
      · obtain ⟨q0, q1, q2⟩ := pgA_at k hlt2
        have t0 := (cell_of_row _ _ (k * 3) _ _ _ M1.out.t).trans q0
        have t1 := (cell_of_row _ _ (k * 3 + 1) _ _ _ M1.out.t).trans q1
        have t2 := (cell_of_row _ _ (k * 3 + 2) _ _ _ M1.out.t).trans q2
        obtain ⟨b0, hb0⟩ : ∃ b0, b0 = pgB k := ⟨_, rfl⟩
        obtain ⟨p0, hp0⟩ : ∃ p0, p0 = pgP k := ⟨_, rfl⟩
        rw [← hb0] at t0; rw [← hp0] at t1
        have HB0 := Lib.hid hb0; have HP0 := Lib.hid hp0
        clear hb0 hp0 q0 q1 q2
        have hb1 : w.heap.size + 1 + 1 + 1 < w1.heap.size := lt_blk M1.out.t
        have P8 : MP w (w1.alloc (.cells #[.int .i64 b0, .int .i64 p0, .string ⟨#[]⟩] 38)) g (.slice A len cap) (N + 33 * k + 1) B A len p c l w1.heap.size b0 p0 := ⟨M1.out.alloc hB hlt _, heap_alloc_new _ _, hb1⟩
        have oz0 : Hid (OZ w (((w1.alloc (.cells #[.int .i64 b0, .int .i64 p0, .string ⟨#[]⟩] 38)).alloc (.cells ZC 5)).drew) (w1.heap.size + 1)) := Lib.hid ⟨(show ((w1.alloc (.cells #[.int .i64 b0, .int .i64 p0, .string ⟨#[]⟩] 38)).alloc (.cells ZC 5)).heap[w1.heap.size + 1]? = some (.cells ZC 5 (0, 0)) from by simpa using heap_alloc_new (w1.alloc (.cells #[.int .i64 b0, .int .i64 p0, .string ⟨#[]⟩] 38)) (.cells ZC 5)), by omega⟩
        have v0 := conv_of oz0.out.1
        have vn : ∀ W : World, (convert 22 9 (.slice (some ⟨W.heap.size, 0, none⟩) 224 224)).run Tryd.prog (W.alloc (.cells ZC 5)) = .ok (.string z224) (W.alloc (.cells ZC 5)) := fun W => conv_of (heap_alloc_new W _)
        have CS1 := Lib.hid (fun W (h : MP w W g (.slice A len cap) (N + 33 * k + 1) B A len p c l w1.heap.size b0 p0) => src_someS 16 g len cap (N + 33 * k + 1) B A W h.mm.s (by omega) h.mm.r hB (by omega))
        have CS2 := Lib.hid (fun W (h : MP w W g (.slice A len cap) (N + 33 * k + 1 + 16) B A len p c l w1.heap.size b0 p0) => src_someS 16 g len cap (N + 33 * k + 1 + 16) B A W h.mm.s (by omega) h.mm.r hB (by omega))
        have hmk : ∀ W : World, (Instr.makeSlice 22 (.int .i64 224) (.int .i64 224)).run Tryd.prog W = .ok (.slice (some ⟨W.heap.size, 0, none⟩) 224 224) (W.alloc (.cells ZC 5)) := fun W => run_make_row' (P := Tryd.prog) 22 5 (.int .u8 0) 1 Tryd.underlying22 infoB rfl .i64 .i64 224 (by omega) (by omega) W
        have hp0 : ∀ a, p = some a → a.block ≠ w1.heap.size := fun a e => by
          have ho := M1.out.o
          subst e
          have := (ho.lt a.block rfl).2
          omega
        have hz : z224.size = 224 := by unfold z224; simp [ByteArray.size]
        go_upto_region 8 with fail
        go_cut [18] from 19 to 44 (fun v W' => ∃ d : ByteArray, d.size = 256 ∧ MQ w W' g (.slice A len cap) (N + 33 * k + 1 + 16 + 16) B A len p c l w1.heap.size ⟨b0, p0, d⟩)
        case first =>
          go_region_with (first | (go_at_call 35; (with_reducible refine Calls.mono (CS2.out _ (by first | assumption | exact MP.drew (by assumption) | exact MP.alloc (by assumption) hB hlt _ | exact MP.alloc (MP.drew (by assumption)) hB hlt _ | exact MP.drew (MP.alloc (by assumption) hB hlt _))) ?_); rintro e w2 ⟨ta, hta, rfl, hs, hg⟩; have j1 := MP.src (by first | assumption | exact MP.drew (by assumption) | exact MP.alloc (by assumption) hB hlt _ | exact MP.alloc (MP.drew (by assumption)) hB hlt _ | exact MP.drew (MP.alloc (by assumption) hB hlt _)) hs hg hB hlt; have c1 := cell_of_row _ _ 2 _ _ _ j1.bk; (try simp only [List.getElem?_toArray, List.getElem?_cons_zero, List.getElem?_cons_succ] at c1); have f1 := MP.free j1; have l1 := lt_blk j1.bk; (first | (have z1 := OZ.kept oz0.out hg hlt; have v1 := conv_of z1.1) | (have z1 := OZ.kept (by assumption) hg hlt; have v1 := conv_of z1.1) | (have z1 := OZ.kept (OZ.new w _ (MP.sz (by assumption))) hg hlt; have v1 := conv_of z1.1) | skip); clear hs hg) | (go_at_call 35; (with_reducible refine Calls.mono (CS1.out _ (by first | assumption | exact MP.drew (by assumption) | exact MP.alloc (by assumption) hB hlt _ | exact MP.alloc (MP.drew (by assumption)) hB hlt _ | exact MP.drew (MP.alloc (by assumption) hB hlt _))) ?_); rintro e w2 ⟨ta, hta, rfl, hs, hg⟩; have j1 := MP.src (by first | assumption | exact MP.drew (by assumption) | exact MP.alloc (by assumption) hB hlt _ | exact MP.alloc (MP.drew (by assumption)) hB hlt _ | exact MP.drew (MP.alloc (by assumption) hB hlt _)) hs hg hB hlt; have c1 := cell_of_row _ _ 2 _ _ _ j1.bk; (try simp only [List.getElem?_toArray, List.getElem?_cons_zero, List.getElem?_cons_succ] at c1); have f1 := MP.free j1; have l1 := lt_blk j1.bk; (first | (have z1 := OZ.kept oz0.out hg hlt; have v1 := conv_of z1.1) | (have z1 := OZ.kept (by assumption) hg hlt; have v1 := conv_of z1.1) | (have z1 := OZ.kept (OZ.new w _ (MP.sz (by assumption))) hg hlt; have v1 := conv_of z1.1) | skip); clear hs hg))
          all_goals
            go_wp2_with fail
            go_meet
          all_goals
            case rel =>
              apply Exists.intro
              apply And.intro
              rotate_left
              · first | exact MP.store (by first | assumption | exact MP.drew (by assumption) | exact MP.alloc (by assumption) hB hlt _ | exact MP.alloc (MP.drew (by assumption)) hB hlt _ | exact MP.drew (MP.alloc (by assumption) hB hlt _)) hB hlt hp0 _ | exact MQ.alloc (MP.store (by first | assumption | exact MP.drew (by assumption) | exact MP.alloc (by assumption) hB hlt _ | exact MP.alloc (MP.drew (by assumption)) hB hlt _ | exact MP.drew (MP.alloc (by assumption) hB hlt _)) hB hlt hp0 _) hB hlt _ | exact MQ.drew (MP.store (by first | assumption | exact MP.drew (by assumption) | exact MP.alloc (by assumption) hB hlt _ | exact MP.alloc (MP.drew (by assumption)) hB hlt _ | exact MP.drew (MP.alloc (by assumption) hB hlt _)) hB hlt hp0 _)
              · simp only [ByteArray.size_append, *]
        case rest =>
          obtain ⟨d, hd, hQ⟩ := hcut
          have Q := Lib.hid hQ
          have cm := cell_of_row _ _ 0 _ _ _ hQ.mm.m
          have fm : wc.frozen? ⟨w.heap.size + 1 + 1, 0, none⟩ = false := by have := hQ.mm.m; simp [World.frozen?, this]
          have k0 := cell_of_row _ _ 0 _ _ _ hQ.bk; have k1 := cell_of_row _ _ 1 _ _ _ hQ.bk; have k2 := cell_of_row _ _ 2 _ _ _ hQ.bk
          simp only [List.getElem?_toArray, List.getElem?_cons_zero, List.getElem?_cons_succ] at cm k0 k1 k2
          clear hQ CS1 CS2 oz0 v0 vn hmk P8
          obtain ⟨i0, hi, hz0, hz1, hz2⟩ := info_parts infoP
          have hm1 : l.length + 1 ≤ maxLen := by have := HD.out.1; unfold maxLen; omega
          have hm2 : (l.length + 1) * 32 ≤ 140737488355328 := by have := HD.out.1; omega
          have hbs : w.heap.size + 1 ≤ (wc.alloc (.cells #[.int .i64 b0, .int .i64 p0, .string d] 38)).heap.size := by have := Q.out.mm.gr.size; simp; omega
          go_wp2_with (first | (at_builtin; refine wpList_append_lies _ rfl _ _ _ rfl (w.heap.size + 1) 38 i0 (.agg #[.int .i64 0, .int .i64 0, .string ⟨#[]⟩]) 3 32 Tryd.underlying23 hi hz0 hz1 hz2 rfl (by omega) _ l.length (PV l) rfl (World.ownsRow.alloc Q.out.mm.o _) ⟨wc.heap.size, 0, none⟩ 1 1 (pv ⟨b0, p0, d⟩) rfl rfl (newsPg _ ⟨b0, p0, d⟩ _) (pv_one _) (by omega) hm1 hm2 hbs (wc.heap.size + 1) (by simp) ?_; intro g2 cap2 w3 hown3 hgrow hat hlt4; have cm3 := MM.mcell Q.out.mm hB hlt hgrow; have fm3 := MM.mfree Q.out.mm hB hlt hgrow))
          have ML : Owns w3 (w.heap.size + 1) (some ⟨g2, 0, none⟩) cap2 (l ++ [⟨b0, p0, d⟩]) := by
            show w3.ownsRow _ _ _ _ _ _
            rw [PV_app, List.length_append]
            simpa [PV] using hown3
          have M9 := Lib.hid (MM.push Q.out.mm hB hlt hgrow ML hat)
          rw [List.length_append] at M9
          rw [show N + 33 * k + 1 + 16 + 16 = N + 33 * (k + 1) by omega] at M9
          go_roundw
          case rel => exact ⟨k + 1, some ⟨g2, 0, none⟩, cap2, l ++ [⟨b0, p0, d⟩], by go_num, by omega, Lib.hid (by rw [HB0.out, HP0.out]; exact HD.out.snoc hlt2 d hd), M9⟩
          case measure => simp [intOf]; omega
      · go_wp2
        go_roundw
        case rel => exact ⟨k + 1, p, c, l, by go_num, by omega, Lib.hid (HD.out.skip hlt2), Lib.hid (by have := M1.out; exact ⟨this.s.mono (by omega), this.r, this.gr, this.z, this.m, this.t, this.o, this.nb, this.pf⟩)⟩
        case measure => simp [intOf]; omega
    · obtain rfl : k = 8 := by omega
      have cm := cell_of_row _ _ 0 _ _ _ HM.out.m
      have zm := cell_of_row _ _ 0 _ _ _ HM.out.z
      have zf : wr.frozen? ⟨w.heap.size, 0, none⟩ = false := by have := HM.out.z; simp [World.frozen?, this]
      simp only [List.getElem?_toArray, List.getElem?_cons_zero, List.getElem?_cons_succ] at cm zm
      go_wp2
      have Z9 : (wr.setCell ⟨w.heap.size, 0, none⟩ (.slice p l.length c)).heap[w.heap.size]? = some (.cells #[.slice p l.length c] 25 (0, 0)) := by have := HM.out.z; simp [World.setCell, Array.getElem?_modify, this]
      have hh (k : Nat) (hk : k ≠ w.heap.size) : (wr.setCell ⟨w.heap.size, 0, none⟩ (.slice p l.length c)).heap[k]? = wr.heap[k]? := Below.heap_setCell _ _ _ _ hk
      refine bodyPost_ret (v := .agg #[.slice p l.length c]) (by exact results_cell_row Tryd.results15 _ _ w.heap.size 25 #[.slice p l.length c] (0, 0) _ rfl Z9 Tryd.underlying25 rfl (by kernel_rfl)) (by rfl) ⟨p, c, l, rfl, HD.out.ok, ⟨HM.out.pf, HD.out.drawn⟩, ?_, HM.out.s.same (hh g (by omega)), ⟨HM.out.gr.os, HM.out.gr.tape, HM.out.gr.output, by simpa [World.setCell] using HM.out.gr.size, fun k hk hne => (hh k (by omega)).trans (HM.out.gr.block k hk hne)⟩⟩
      exact rd_owns HM.out.o (fun k hk => hh k (by omega))
end Go.Proofs.YtlijjbdhoooamaaDoor
