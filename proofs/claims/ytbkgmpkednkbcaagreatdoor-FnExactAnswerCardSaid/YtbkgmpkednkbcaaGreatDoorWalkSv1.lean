/-
  The simple methods of impl.Box: p, q, has, tick, random; conditions: those in each head.
-/
import Derived.Test.YtbkgmpkednkbcaaGreatDoorWalkBoxO2
import Derived.Test.YtbkgmpkednkbcaaGreatDoorWalkOwn
import Derived.Test.YtbkgmpkednkbcaaGreatDoorWalkCpuG
import Derived.Deep.RegionHeld3
import Derived.WalkArith
namespace Go.Proofs.YtbkgmpkednkbcaaGreatDoor
open Go.RowKit Go.Sort
set_option linter.unusedVariables false
set_option linter.unusedSimpArgs false
/-- p and q: numbers without a sign -/
def pN (b : Bo) : Int := b.c.rs 7 % 4294967296
def qN (b : Bo) : Int := b.c.rs 6 % 4294967296
theorem pN_b (b : Bo) : 0 ≤ pN b ∧ pN b < 4294967296 := by unfold pN; omega
theorem qN_b (b : Bo) : 0 ≤ qN b ∧ qN b < 4294967296 := by unfold qN; omega
theorem wfP (b : Bo) : (Lit.int .i64 (pN b)).wf = true := by
  have := pN_b b
  exact WalkArith.wf_i64 (by omega)
theorem wfQ (b : Bo) : (Lit.int .i64 (qN b)).wf = true := by
  have := qN_b b
  exact WalkArith.wf_i64 (by omega)
theorem boxP (g : Nat) (v : Int) (W : World) (c7 : W.cell? ⟨g, 7, none⟩ = some (.int .i64 v)) :
    Calls Tryz.prog 97 #[.pointer (some ⟨g, 0, none⟩)] W fun e w' => e = .returned (.int .i64 (v % 4294967296)) ∧ w' = W := by
  have C := Lib.hid (getI W g v (v % 4294967296) 4 7 (by omega) c7 (fun w => unsigned4 v w))
  go_enter Tryz.func97, Tryz.ntmps97
  go_wp2_with fail
  refine (C.out).mono ?_
  rintro e w1 ⟨rfl, rfl⟩
  go_wp2
  go_ret
  exact ⟨rfl, rfl⟩
theorem boxQ (g : Nat) (v : Int) (W : World) (c6 : W.cell? ⟨g, 6, none⟩ = some (.int .i64 v)) :
    Calls Tryz.prog 95 #[.pointer (some ⟨g, 0, none⟩)] W fun e w' => e = .returned (.int .i64 (v % 4294967296)) ∧ w' = W := by
  have C := Lib.hid (getI W g v (v % 4294967296) 4 6 (by omega) c6 (fun w => unsigned4 v w))
  go_enter Tryz.func95, Tryz.ntmps95
  go_wp2_with fail
  refine (C.out).mono ?_
  rintro e w1 ⟨rfl, rfl⟩
  go_wp2
  go_ret
  exact ⟨rfl, rfl⟩
/-- block g holds a box whose pages lie in a list of its own, behind B -/
structure BH (B g : Nat) (b : Bo) (p : Option Addr) (c : Nat) (l : List Pg) (W : World) : Prop where
  x : W.heap[g]? = some (.cells (boV b (.slice p l.length c)) 36 (0, 0))
  o : Owns W B p c l
  n : g < B
theorem Owns.ad {W : World} {B : Nat} {p : Option Addr} {c : Nat} {l : List Pg} (h : Owns W B p c l) : Ad p := by
  rcases h.2 with ⟨h', _⟩ | ⟨g', cap, cur, e1, _⟩
  · injection h' with h1 _ _; exact .inl h1
  · injection e1 with h1 _ _; exact .inr ⟨_, _, h1⟩
theorem BH.below {B g : Nat} {b : Bo} {p : Option Addr} {c : Nat} {l : List Pg} {W W' : World} (h : BH B g b p c l W) (hb : Below W.heap.size W W') : BH B g b p c l W' :=
  ⟨(hb.block _ (lt_of_blk' h.x)).trans h.x, own_below h.o hb, h.n⟩
theorem BH.cell {B g : Nat} {b : Bo} {p : Option Addr} {c : Nat} {l : List Pg} {W : World} (h : BH B g b p c l W) (i : Nat) (v : Value) (hv : (boV b (.slice p l.length c))[i]? = some v) : W.cell? ⟨g, i, none⟩ = some v := (cell_of_row _ _ i _ _ _ h.x).trans hv
theorem BH.free {B g : Nat} {b : Bo} {p : Option Addr} {c : Nat} {l : List Pg} {W : World} (h : BH B g b p c l W) (i : Nat) : W.frozen? ⟨g, i, none⟩ = false := by simp [World.frozen?, h.x]
theorem owns_other {W : World} {B g : Nat} {p : Option Addr} {c : Nat} {l : List Pg} (h : Owns W B p c l) (hn : g < B) (i : Nat) (v : Value) : Owns (W.setCell ⟨g, i, none⟩ v) B p c l := h.other hn i v
theorem BH.set {B g : Nat} {b b' : Bo} {p : Option Addr} {c : Nat} {l : List Pg} {W : World} (h : BH B g b p c l W) (i : Nat) (v : Value) (e : (boV b (.slice p l.length c)).setIfInBounds i v = boV b' (.slice p l.length c)) : BH B g b' p c l (W.setCell ⟨g, i, none⟩ v) :=
  ⟨row_set h.x i _ e, owns_other h.o h.n i v, h.n⟩
theorem gbSet (W : World) (g i : Nat) (v : Value) : W.grownBy (W.setCell ⟨g, i, none⟩ v) (some g) :=
  ⟨rfl, rfl, rfl, by simp [World.setCell], fun k hk hne => Below.heap_setCell _ _ _ _ (fun e => hne (by rw [e]))⟩
set_option maxHeartbeats 2000000 in
set_option maxRecDepth 100000 in
theorem hasC (B g : Nat) (b : Bo) (p : Option Addr) (c : Nat) (l : List Pg) (perm : Int) (W : World) (h : BH B g b p c l W) (hm : MemOk l) (hs : Small l) (hp : PermOk perm) :
    Calls Tryz.prog 94 #[.pointer (some ⟨g, 0, none⟩), .int .i64 perm] W fun e w' => SpB (SpYes l (pN b) (qN b) perm) e ∧ Below W.heap.size W w' := by
  have hmx := mixed
  have x18 := h.cell 18 (.slice p l.length c) rfl
  have x7 := h.cell 7 (.int .i64 (b.c.rs 7)) rfl
  have x6 := h.cell 6 (.int .i64 (b.c.rs 6)) rfl
  have CP := Lib.hid (fun W c7 => boxP g (b.c.rs 7) W c7)
  have CQ := Lib.hid (fun W c6 => boxQ g (b.c.rs 6) W c6)
  have hlt := lt_of_blk' h.x
  have x7d : W.drew.cell? ⟨g, 7, none⟩ = some (.int .i64 (b.c.rs 7)) := x7
  have x6d : W.drew.cell? ⟨g, 6, none⟩ = some (.int .i64 (b.c.rs 6)) := x6
  have CS := Lib.hid (fun W hr => spanI p c l (pN b) (qN b) perm W h.o.ad hs hr (wfP b) (wfQ b))
  have HR := Lib.hid ((owns_rd h.o).below (below_drew1 W))
  have HM := Lib.hid hm; have HP := Lib.hid hp
  clear h hm hs hp
  have EP : pN b = b.c.rs 7 % 4294967296 := rfl
  have EQ : qN b = b.c.rs 6 % 4294967296 := rfl
  have CS2 := Lib.hid (CS.out W.drew HR.out)
  rw [EP, EQ] at CS2 ⊢
  clear EP EQ CS
  go_enter Tryz.func94, Tryz.ntmps94
  go_wp2_with fail
  go_region_held3 (fun w' => w'.cell? ⟨g, 18, none⟩ = some (.slice p l.length c) ∧ w'.cell? ⟨g, 7, none⟩ = some (.int .i64 (b.c.rs 7)) ∧ w'.cell? ⟨g, 6, none⟩ = some (.int .i64 (b.c.rs 6))) (first | (with_reducible exact ⟨x18, x7, x6⟩) | (exact ⟨x18, x7, x6⟩) | (with_reducible exact S1) | go_keep) (first | (go_at_call 97; (with_reducible refine Calls.mono (CP.out _ x7d) ?_); rintro e w1 ⟨rfl, rfl⟩) | (go_at_call 95; (with_reducible refine Calls.mono (CQ.out _ x6d) ?_); rintro e w1 ⟨rfl, rfl⟩) | (go_at_call 114; (with_reducible refine Calls.mono (CS2.out) ?_); rintro e w2 ⟨r, k, rfl, HI, b2⟩; have B2 := Lib.hid (bthen (below_drew1 W) b2); have S1 : w2.cell? ⟨g, 18, none⟩ = some (.slice p l.length c) ∧ w2.cell? ⟨g, 7, none⟩ = some (.int .i64 (b.c.rs 7)) ∧ w2.cell? ⟨g, 6, none⟩ = some (.int .i64 (b.c.rs 6)) := ⟨(b2.cell (p := ⟨g, 18, none⟩) hlt).trans x18, (b2.cell (p := ⟨g, 7, none⟩) hlt).trans x7, (b2.cell (p := ⟨g, 6, none⟩) hlt).trans x6⟩; clear b2))
  go_wp2
  go_ret
  rcases HI.out with ⟨h1, _⟩ | ⟨_, h2, _⟩ | ⟨_, _, h3, _⟩
  · exact absurd HM.out h1
  · exact absurd HP.out h2
  · exact ⟨⟨_, rfl, Lib.hid h3⟩, B2.out⟩
/-- what a method of a box leaves: the block holds another box, and nothing else that was there has turned -/
def SvTo (B g : Nat) (W W' : World) (b' : Bo) (l' : List Pg) : Prop := (∃ p' c', BH B g b' p' c' l' W') ∧ W.grownBy W' (some g)
set_option maxHeartbeats 2000000 in
set_option maxRecDepth 100000 in
theorem tickC (B g : Nat) (b : Bo) (p : Option Addr) (c : Nat) (l : List Pg) (W : World) (h : BH B g b p c l W) (hk : 0 ≤ b.ck ∧ b.ck ≤ 1000000) :
    Calls Tryz.prog 76 #[.pointer (some ⟨g, 0, none⟩)] W fun e w' => e = .returned (.int .i64 b.ck) ∧ SvTo B g W w' { b with ck := min (b.ck + 1) 1000000 } l := by
  have x24 := h.cell 24 (.int .i64 b.ck) rfl
  have f24 := h.free 24
  have e1 : IntKind.i64.wrap (b.ck + 1) = b.ck + 1 := IntWalk.i64_in _ (by omega)
  have H2 := Lib.hid (h.set (b' := { b with ck := min (b.ck + 1) 1000000 }) 24 (.int .i64 (min (b.ck + 1) 1000000)) rfl)
  clear h hk
  go_enter Tryz.func76, Tryz.ntmps76
  go_wp2
  go_ret
  exact ⟨rfl, ⟨_, _, H2.out⟩, gbSet _ _ _ _⟩
theorem mask31 (x : Int) (h : 0 ≤ x) (h2 : x ≤ 9223372036854775807) : bits .and .i64 x 2147483647 = x % 2147483648 := by
  show IntKind.i64.wrap ((BitVec.ofInt 64 x &&& BitVec.ofInt 64 2147483647).toNat : Int) = _
  rw [BitVec.toNat_and, show (BitVec.ofInt 64 2147483647).toNat = 2 ^ 31 - 1 by decide, Nat.and_two_pow_sub_one_eq_mod, BitVec.toNat_ofInt, IntWalk.i64_in _ (by omega)]
  omega
set_option maxHeartbeats 2000000 in
set_option maxRecDepth 100000 in
theorem randomC (B g : Nat) (b : Bo) (p : Option Addr) (c : Nat) (l : List Pg) (W : World) (h : BH B g b p c l W) (hk : 0 ≤ b.sd ∧ b.sd ≤ 2147483647) :
    Calls Tryz.prog 77 #[.pointer (some ⟨g, 0, none⟩)] W fun e w' => e = .returned (.int .i64 ((1103515245 * b.sd + 12345) % 2147483648 / 65536)) ∧ SvTo B g W w' { b with sd := (1103515245 * b.sd + 12345) % 2147483648 } l := by
  have x25 := h.cell 25 (.int .i64 b.sd) rfl
  have f25 := h.free 25
  have e1 : IntKind.i64.wrap (1103515245 * b.sd) = 1103515245 * b.sd := IntWalk.i64_in _ (by omega)
  have e2 : IntKind.i64.wrap (1103515245 * b.sd + 12345) = 1103515245 * b.sd + 12345 := IntWalk.i64_in _ (by omega)
  have e3 := mask31 (1103515245 * b.sd + 12345) (by omega) (by omega)
  have H2 := Lib.hid (h.set (b' := { b with sd := (1103515245 * b.sd + 12345) % 2147483648 }) 25 (.int .i64 ((1103515245 * b.sd + 12345) % 2147483648)) rfl)
  obtain ⟨s, hs⟩ : ∃ s, s = (1103515245 * b.sd + 12345) % 2147483648 := ⟨_, rfl⟩
  rw [← hs] at e3 H2 ⊢
  have hs1 : 0 ≤ s ∧ s ≤ 2147483647 := by omega
  have HS1 := Lib.hid hs1
  clear h hk hs
  go_enter Tryz.func77, Tryz.ntmps77
  go_wp2
  go_ret
  exact ⟨rfl, ⟨_, _, H2.out⟩, gbSet _ _ _ _⟩
end Go.Proofs.YtbkgmpkednkbcaaGreatDoor
