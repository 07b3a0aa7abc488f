/-
  laws.markBox and laws.heldBox; boxes that lie within bounds of blocks, and what is kept of them behind marks elsewhere; conditions: those in each head.
-/
import Derived.Test.YtcnmklgcifdmoaaWalkBox
import Derived.Test.YtcnmklgcifdmoaaLawWrite
import Derived.Test.YtcnmklgcifdmoaaWalkOwnR
namespace Go.Proofs.Ytcnmklgcifdmoaa
open Go.RowKit Go.Sort
set_option linter.unusedVariables false
set_option linter.unusedSimpArgs false
set_option maxRecDepth 100000 in
set_option maxHeartbeats 4000000 in
theorem markBoxC (b : Bo) (p : Option Addr) (c B : Nat) (l : List Pg) (w : World) (hn : l.length ≤ 1048576) (ho : Owns w B p c l) :
    Calls Try.prog 14 #[.agg (boV b (.slice p l.length c)), .int .i64 1] w fun e w' => e = .returned (.int .i64 ((1 + 3 * l.length : Nat) : Int)) ∧ Owns w' B p c (mkd l 1) ∧ w.grownBy w' (Value.slice p l.length c).ownBlock := by
  have n1 := heap_alloc_new w (.cells (boV b (.slice p l.length c)) 38)
  have b0 := below1 w (.cells (boV b (.slice p l.length c)) 38)
  have a18 := (cell_of_row _ _ 18 _ _ _ n1).trans (show (boV b (.slice p l.length c))[18]? = some (.slice p l.length c) from rfl)
  have C := Lib.hid (markAny p c B l _ hn (own_below ho b0))
  have B0 := Lib.hid b0
  clear n1 ho b0
  generalize boV b (.slice p l.length c) = V at *
  obtain ⟨K, hK⟩ : ∃ K : Nat, K = 1 + 3 * l.length := ⟨_, rfl⟩
  rw [← hK] at C ⊢
  clear hK
  go_enter Try.func14, Try.ntmps14
  go_wp2_with fail
  refine (C.out).mono ?_
  rintro e w1 ⟨rfl, om, gm⟩
  have O1 := Lib.hid om
  have G1 := Lib.hid ((below_grownBy B0.out (Value.slice p l.length c).ownBlock).trans gm)
  clear om gm a18 C B0
  go_wp2
  go_ret
  exact ⟨rfl, O1.out, G1.out⟩
set_option maxRecDepth 100000 in
set_option maxHeartbeats 4000000 in
theorem heldBoxC (b : Bo) (p : Option Addr) (c : Nat) (l : List Pg) (w : World) (hn : l.length ≤ 1048576) (hr : Rd w p (mkd l 1)) :
    Calls Try.prog 15 #[.agg (boV b (.slice p l.length c)), .int .i64 1] w fun e w' => e = .returned (.int .i64 ((1 + 3 * l.length : Nat) : Int)) ∧ Below w.heap.size w w' := by
  have n1 := heap_alloc_new w (.cells (boV b (.slice p l.length c)) 38)
  have b0 := below1 w (.cells (boV b (.slice p l.length c)) 38)
  have a18 := (cell_of_row _ _ 18 _ _ _ n1).trans (show (boV b (.slice p l.length c))[18]? = some (.slice p l.length c) from rfl)
  have C := Lib.hid (heldMemoryC p c l _ hn (hr.below b0))
  have B0 := Lib.hid b0
  clear n1 hr b0
  generalize boV b (.slice p l.length c) = V at *
  obtain ⟨K, hK⟩ : ∃ K : Nat, K = 1 + 3 * l.length := ⟨_, rfl⟩
  rw [← hK] at C ⊢
  have hd : decide ((K : Int) < 0) = false := decide_eq_false (by omega)
  clear hK
  go_enter Try.func15, Try.ntmps15
  go_wp2_with fail
  refine (C.out).mono ?_
  rintro e w1 ⟨rfl, b1⟩
  have L1 := Lib.hid (bthen B0.out b1)
  clear b1 a18 C B0
  go_wp2
  go_ret
  exact ⟨rfl, L1.out⟩
/-- block n holds the cells X, and the pages l lie within the blocks from lo on and below hi, as n does -/
structure BX (t : TypeId) (n : Nat) (X : Array Value) (p : Option Addr) (l : List Pg) (lo hi : Nat) (W : World) : Prop where
  x : W.heap[n]? = some (.cells X t (0, 0))
  r : Rd W p l
  k : ∀ b o, p = some ⟨b, o, none⟩ → l ≠ [] → lo ≤ b ∧ b < hi
  n1 : lo ≤ n
  n2 : n < hi
theorem BX.lt {t : TypeId} {n : Nat} {X : Array Value} {p : Option Addr} {l : List Pg} {lo hi : Nat} {W : World} (h : BX t n X p l lo hi W) : n < W.heap.size := lt_of_blk' h.x
theorem BX.below {t : TypeId} {n : Nat} {X : Array Value} {p : Option Addr} {l : List Pg} {lo hi : Nat} {W W' : World} (h : BX t n X p l lo hi W) (hb : Below W.heap.size W W') : BX t n X p l lo hi W' :=
  ⟨(hb.block _ h.lt).trans h.x, h.r.below hb, h.k, h.n1, h.n2⟩
theorem Rd.kept {w w' : World} {p : Option Addr} {l : List Pg} (h : Rd w p l) (hs : w.heap.size ≤ w'.heap.size) (hk : ∀ b o, p = some ⟨b, o, none⟩ → l ≠ [] → b < w.heap.size → w'.heap[b]? = w.heap[b]?) : Rd w' p l := by
  intro k x hx
  obtain ⟨b, o, rfl, h0, h1, h2, h3⟩ := h k x hx
  have hl : l ≠ [] := by intro e; rw [e] at hx; simp at hx
  have hb := hk b o rfl hl h0
  exact ⟨b, o, rfl, by omega, (World.cell?_of_block (a := ⟨b, _, none⟩) hb).trans h1, (World.cell?_of_block (a := ⟨b, _, none⟩) hb).trans h2, (World.cell?_of_block (a := ⟨b, _, none⟩) hb).trans h3⟩
theorem BX.keep {t : TypeId} {n : Nat} {X : Array Value} {p : Option Addr} {l : List Pg} {lo hi a b : Nat} {W W' : World} (h : BX t n X p l lo hi W) (hk : Keep a b W W') (hd : hi ≤ a ∨ b ≤ lo) : BX t n X p l lo hi W' :=
  ⟨(hk.block _ h.lt (by have := h.n1; have := h.n2; omega)).trans h.x, h.r.kept hk.size (fun j o e hl hj => hk.block _ hj (by have := h.k j o e hl; omega)), h.k, h.n1, h.n2⟩
/-- a variable of a struct that was stored whole -/
theorem BX.new {t : TypeId} {W0 W : World} {X Z : Array Value} {p : Option Addr} {c : Nat} {l : List Pg} (ho : Owns W W0.heap.size p c l) (hs : W0.heap.size ≤ W.heap.size) : BX t W.heap.size X p l W0.heap.size (W.heap.size + 1) ((W.alloc (.cells Z t)).setRow W.heap.size X) := by
  have hb : Below W.heap.size W ((W.alloc (.cells Z t)).setRow W.heap.size X) := Go.below_setRow (below1 W _) (Nat.le_refl _) _
  exact ⟨setRow_heap _ _ _ _ _ _ (heap_alloc_new W _), (owns_rd ho).below hb, fun b o e hl => by have := owns_blk ho b o e hl; omega, hs, by omega⟩
theorem below_var (t : TypeId) (W : World) (X Z : Array Value) : Below W.heap.size W ((W.alloc (.cells Z t)).setRow W.heap.size X) := Go.below_setRow (below1 W _) (Nat.le_refl _) _
theorem size_var (t : TypeId) (W : World) (X Z : Array Value) : ((W.alloc (.cells Z t)).setRow W.heap.size X).heap.size = W.heap.size + 1 := by simp [World.setRow]
end Go.Proofs.Ytcnmklgcifdmoaa
